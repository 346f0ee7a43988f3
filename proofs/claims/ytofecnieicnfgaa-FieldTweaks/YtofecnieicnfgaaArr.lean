/-
  How sixteen bytes that came in read; two rows of the same sixteen bytes are the same.
-/
import Derived.Test.YtofecnieicnfgaaOf
import Derived.Test.YtofecnieicnfgaaInv
import Derived.ProofKit
import Derived.Stop.BytesEq
import Derived.OpenShut
namespace Go.Proofs.Ytofecnieicnfgaa
open Go.ChangeShapes Go.WideShapes Go.ChangeAt Go.RowKit
theorem okWide_arr {P : Program} {w : World} {r : Reach} {base : Nat} {t : TypeId} {v : Value} {n : Nat} {e : TypeId} (ht : P.underlying t = some (.array n e)) (h : Value.okWide P w r base t v) : ∃ cs, v = .agg cs ∧ cs.size = P.cellsOf t := by
  unfold Value.okWide at h
  rw [ht] at h
  cases v <;> simp_all
theorem open_arr16 {H : Type} {enc : TypeId × Value → H} {W : World} {r : Reach} {b0 base : Nat} {spare : Nat → Bool} {held : Bool} {v : Value} {d : DataW H} {p : List MemPlace}
    (hv : Value.okWide Try.prog W r b0 29 v) (h : DataW.Trod enc Try.prog W base spare held 29 v d p) : ∃ f : Nat → BitVec 8, v = .agg (row 16 (yv f)).toArray := by
  obtain ⟨cs, rfl, hsz⟩ := okWide_arr Try.underlying29 hv
  have hc : Try.prog.cellsOf 29 = 16 := by kernel_rfl
  have hc5 : Try.prog.cellsOf 5 = 1 := by kernel_rfl
  obtain ⟨fuel, hf⟩ := h
  obtain ⟨xs, m, _, _, _, hxl, hx⟩ := DataW.trod_array Try.underlying29 hf
  rw [hc] at hsz
  have hall : ∀ i, i < 16 → ∃ b : BitVec 8, cs[i]? = some (.int .u8 (b.toNat : Int)) := by
    intro i hi
    have h1 := hx i hi
    rw [List.getElem?_eq_getElem (by omega)] at h1
    obtain ⟨n, e0, _, w0⟩ := DataW.trod_int Try.underlying5 h1
    obtain ⟨b, rfl⟩ := of_wf8 w0
    refine ⟨b, ?_⟩
    rw [hc5] at e0
    have h2 : (List.take 1 (List.drop (i * 1) cs.toList))[0]? = some (.int .u8 (b.toNat : Int)) := by
      have : (Value.agg cs).cells.toList = cs.toList := by simp [Value.cells]
      rw [← this, e0]; rfl
    simpa [List.getElem?_take, List.getElem?_drop] using h2
  refine ⟨fun i => if h : i < 16 then (hall i h).choose else 0#8, ?_⟩
  congr 1
  apply Array.ext'
  apply List.ext_getElem?
  intro i
  by_cases hi : i < 16
  · have h1 := (hall i hi).choose_spec
    rw [show (row 16 (yv fun i => if h : i < 16 then (hall i h).choose else 0#8)).toArray.toList = row 16 (yv fun i => if h : i < 16 then (hall i h).choose else 0#8) from rfl, row_get 16 _ i hi]
    simp only [yv, dif_pos hi]
    simpa using h1
  · rw [List.getElem?_eq_none (by simpa [hsz] using hi), List.getElem?_eq_none (by simpa [row_length] using hi)]
def uL (n : Nat) (f : Nat → BitVec 8) : List UInt8 := (List.range n).map fun j => UInt8.ofBitVec (f j)
theorem uL_row (n : Nat) (f : Nat → BitVec 8) : row n (yv f) = (uL n f).map Extern.Stop.cell := by
  unfold row uL
  rw [List.map_map]
  rfl
theorem uL_same (n : Nat) (f : Nat → BitVec 8) : (uL n f == uL n f) = true := by simp
theorem eq16 (f : Nat → BitVec 8) (w : World) : (binOp .eql 29 (.agg (row 16 (yv f)).toArray) (.agg (row 16 (yv f)).toArray)).run Try.prog w = .ok (.bool true) w := by
  rw [run_eql_struct, uL_row]
  have h := run_equalIn_bytes (P := Try.prog) w 9998 29 5 16 Try.underlying29 Try.underlying5 Try.sizeOf5 (uL 16 f) (uL 16 f) (by simp [uL]) (by simp [uL])
  rw [h, uL_same]
  rfl
end Go.Proofs.Ytofecnieicnfgaa
