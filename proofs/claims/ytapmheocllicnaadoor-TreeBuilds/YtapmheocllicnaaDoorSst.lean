/-
  Bytes as strings; digests compared; what is skipped.
-/
import Derived.Test.YtapmheocllicnaaDoorChl
import Derived.Test.YtapmheocllicnaaDoorOpen
namespace Go.Proofs.YtapmheocllicnaaDoor
open Go.RowKit Go.BigFrame
theorem fold_list : ∀ (l : List Int) (r : ByteArray), (l.foldl (fun r n => r.push (UInt8.ofNat n.toNat)) r).data.toList = r.data.toList ++ l.map fun n => UInt8.ofNat n.toNat
  | [], r => by simp
  | x :: l, r => by
    rw [List.foldl_cons, fold_list l, List.map_cons]
    show (r.data.push _).toList ++ _ = _
    rw [Array.toList_push, List.append_assoc]
    rfl
def lst (n : Nat) (b : Nat → BitVec 8) : List UInt8 := (List.range n).map fun j => UInt8.ofNat (b j).toNat
theorem bstr_list (n : Nat) (b : Nat → BitVec 8) : (bstr n fun j => ((b j).toNat : Int)).toList = lst n b := by
  rw [ByteArray.toList_eq]
  unfold bstr lst
  rw [fold_list]
  simp
theorem u8_inj {x y : BitVec 8} (h : UInt8.ofNat x.toNat = UInt8.ofNat y.toNat) : x = y := by
  have h1 := congrArg UInt8.toNat h
  simp only [UInt8.toNat_ofNat'] at h1
  have hx := x.isLt
  have hy := y.isLt
  exact BitVec.eq_of_toNat_eq (by omega)
theorem lst_beq (n : Nat) (f g : Nat → BitVec 8) : (lst n f == lst n g) = eqN n f g := by
  rw [Bool.eq_iff_iff, beq_iff_eq, eqN_iff]
  unfold lst
  constructor
  · intro h j hj
    have := congrArg (·[j]?) h
    simp only [List.getElem?_map, List.getElem?_range hj, Option.map_some, Option.some.injEq] at this
    exact u8_inj this
  · intro h
    exact List.map_congr_left fun j hj => by rw [h j (by simpa using hj)]
theorem lst_ne {n m : Nat} (f g : Nat → BitVec 8) (h : n ≠ m) : (lst n f == lst m g) = false := by
  rw [Bool.eq_false_iff]
  intro hh
  have := congrArg List.length (eq_of_beq hh)
  simp only [lst, List.length_map, List.length_range] at this
  exact h this
theorem str_beq (n : Nat) (f g : Nat → BitVec 8) : ((bstr n fun j => ((f j).toNat : Int)).toList == (bstr n fun j => ((g j).toNat : Int)).toList) = eqN n f g := by
  rw [bstr_list, bstr_list, lst_beq]
theorem eql25 (f g : Nat → BitVec 8) (w : World) : (binOp .eql 25 (.agg (row 32 (yv f)).toArray) (.agg (row 32 (yv g)).toArray)).run Tryd.prog w = .ok (.bool (eqN 32 f g)) w := by
  have e := run_eql_row (P := Tryd.prog) 25 5 32 .u8 Tryd.underlying25 Tryd.underlying5 Tryd.sizeOf5 (fun j => ((f j).toNat : Int)) (fun j => ((g j).toNat : Int)) w
  rw [all_iff] at e
  exact e
theorem wpX_skip {P : Program} {ops : Array Oper} {Q : Exit → Act → World → Prop} {C : World → Prop} {a : Act} {w : World} {i : Nat} {r : List (Bool × Nat)} (o : Oper) (ho : ops[i]? = some o) (hw : Region.wanted o (yielded ops a.tmps) = false) (hC : C w) (h : wpX P ops Q r C (a.put o.dst undef) w) : wpX P ops Q ((true, i) :: r) C a w := ⟨o, ho, .inr ⟨hw, C, fun _ h => h, hC, h⟩⟩
open Go.ChangeShapes Go.WideShapes Go.ChangeAt in
theorem open_arru8_32 {H : Type} {enc : TypeId × Value → H} {W : World} {r : Reach} {b0 base : Nat} {spare : Nat → Bool} {held : Bool} {v : Value} {d : DataW H} {p : List MemPlace} (hv : Value.okWide Tryd.prog W r b0 25 v) (h : DataW.Trod enc Tryd.prog W base spare held 25 v d p) : ∃ f : Nat → BitVec 8, v = .agg (row 32 (yv f)).toArray :=
  open_arr Tryd.underlying25 (by kernel_rfl) hv h
end Go.Proofs.YtapmheocllicnaaDoor
