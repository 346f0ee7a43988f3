/-
  How headers that came in read.
-/
import Derived.Test.YtfpfgbhdehbggaaGreatDoorQc8
import Derived.Test.YtfpfgbhdehbggaaGreatDoorQc41
import Derived.Test.YtfpfgbhdehbggaaGreatDoorQc30
import Derived.Test.YtfpfgbhdehbggaaGreatDoorQc7
import Derived.Deep.Slices
namespace Go.Proofs.YtfpfgbhdehbggaaGreatDoor
set_option maxRecDepth 100000
open Go.ChangeShapes Go.WideShapes Go.ChangeAt Go.RowKit
theorem arr_cells {H : Type} {enc : TypeId × Value → H} {W : World} {base : Nat} {spare : Nat → Bool} {held : Bool} {n : Nat} {cs : List Value} {x : DataW H × List MemPlace} {t : TypeId} {N : Nat} (hu : Tryz.prog.underlying t = some (.array N 5)) (h : DataW.trod enc Tryz.prog W base spare held n t cs = some x) :
    ∃ f : Nat → BitVec 8, ∀ i, i < N → cs[i]? = some (.int .u8 ((f i).toNat : Int)) := by
  have hc5 : Tryz.prog.cellsOf 5 = 1 := by kernel_rfl
  obtain ⟨xs, m, _, _, _, hxl, hx⟩ := DataW.trod_array hu h
  have hall : ∀ i, i < N → ∃ b : BitVec 8, cs[i]? = some (.int .u8 (b.toNat : Int)) := by
    intro i hi
    have h1 := hx i hi
    rw [List.getElem?_eq_getElem (by omega)] at h1
    obtain ⟨n, e0, _, w0⟩ := DataW.trod_int Tryz.underlying5 h1
    obtain ⟨b, rfl⟩ := of_wf8 w0
    refine ⟨b, ?_⟩
    rw [hc5] at e0
    have h2 : (List.take 1 (List.drop (i * 1) cs))[0]? = some (.int .u8 (b.toNat : Int)) := by rw [e0]; rfl
    simpa [List.getElem?_take, List.getElem?_drop] using h2
  refine ⟨fun i => if h : i < N then (hall i h).choose else 0#8, fun i hi => ?_⟩
  rw [(hall i hi).choose_spec]
  simp only [dif_pos hi]
theorem sub_cells {cs : List Value} {off m i : Nat} (hi : i < m) : ((cs.drop off).take m)[i]? = cs[off + i]? := by
  rw [List.getElem?_take_of_lt hi, List.getElem?_drop]
theorem row_of {cs : List Value} {n : Nat} {g : Nat → Value} (hl : cs.length = n) (h : ∀ i, i < n → cs[i]? = some (g i)) : cs = row n g := by
  apply List.ext_getElem?
  intro i
  by_cases hi : i < n
  · rw [h i hi, row_get n g i hi]
  · rw [List.getElem?_eq_none (by omega), List.getElem?_eq_none (by rw [row_length]; omega)]
theorem okWide_st {P : Program} {w : World} {r : Reach} {base : Nat} {t : TypeId} {v : Value} {fs : Array Field} (ht : P.underlying t = some (.struct fs)) (h : Value.okWide P w r base t v) : ∃ cs, v = .agg cs ∧ cs.size = P.cellsOf t ∧ Row.okWide P w r base t cs := by
  unfold Value.okWide at h
  rw [ht] at h
  exact h
theorem trod_st {H : Type} {enc : TypeId × Value → H} {P : Program} {w : World} {base : Nat} {spare : Nat → Bool} {held : Bool} {t : TypeId} {fs : List Field} {fuel : Nat} {cs : List Value} {x : DataW H × List MemPlace} (ht : P.underlying t = some (.struct fs.toArray)) (h : DataW.trod enc P w base spare held fuel t cs = some x) :
    ∃ n, cs.length = P.cellsOf t ∧ ∀ (i : Nat) (f : Field), fs[i]? = some f → ∃ y, DataW.trod enc P w base spare held n f.type ((cs.drop f.offset).take (P.cellsOf f.type)) = some y := by
  obtain ⟨xs, n, _, _, hl, hlen, hf⟩ := DataW.trod_struct ht h
  refine ⟨n, hl, fun i f hi => ?_⟩
  have hi2 : fs.toArray[i]? = some f := by simpa using hi
  have hlt : i < xs.length := by
    have := (List.getElem?_eq_some_iff.1 hi).1
    simp at hlen
    omega
  refine ⟨xs[i], ?_⟩
  rw [hf i f hi2, List.getElem?_eq_getElem hlt]
set_option maxRecDepth 100000 in
theorem keys_cells {H : Type} {enc : TypeId × Value → H} {W : World} {base : Nat} {spare : Nat → Bool} {held : Bool} {n : Nat} {cs : List Value} {x : DataW H × List MemPlace} (h : DataW.trod enc Tryz.prog W base spare held n 24 cs = some x) :
    ∃ e D T, cs = row 65 (ekI e D T) ∧ (Lit.int .i64 e).wf = true := by
  have hC : Tryz.prog.cellsOf 24 = 65 := by kernel_rfl
  have c3 : Tryz.prog.cellsOf 3 = 1 := by kernel_rfl
  have c22 : Tryz.prog.cellsOf 22 = 32 := by kernel_rfl
  obtain ⟨m, hl, hf⟩ := trod_st (fs := [_, _, _]) Tryz.underlying24 h
  rw [hC] at hl
  obtain ⟨y0, h0⟩ := hf 0 _ rfl
  obtain ⟨y1, h1⟩ := hf 1 _ rfl
  obtain ⟨y2, h2⟩ := hf 2 _ rfl
  simp only [c3, c22] at h0 h1 h2
  obtain ⟨k0, e0, _, w0⟩ := DataW.trod_int Tryz.underlying3 h0
  obtain ⟨D, e1⟩ := arr_cells Tryz.underlying22 h1
  obtain ⟨T, e2⟩ := arr_cells Tryz.underlying22 h2
  have q0 := congrArg (·[0]?) e0
  simp only [sub_cells (show 0 < 1 by decide)] at q0
  refine ⟨k0, D, T, row_of hl fun i hi => ?_, w0⟩
  by_cases c1 : i < 1
  · obtain rfl : i = 0 := by omega
    exact q0
  · by_cases c2 : i < 33
    · have := e1 (i - 1) (by omega)
      rw [sub_cells (by omega), show 1 + (i - 1) = i by omega] at this
      rw [this]
      unfold ekI
      rw [if_neg (by omega), if_pos c2]
      rfl
    · have := e2 (i - 33) (by omega)
      rw [sub_cells (by omega), show 33 + (i - 33) = i by omega] at this
      rw [this]
      unfold ekI
      rw [if_neg (by omega), if_neg c2]
      rfl
theorem open_keys {H : Type} {enc : TypeId × Value → H} {W : World} {r : Reach} {b0 base : Nat} {spare : Nat → Bool} {held : Bool} {v : Value} {d : DataW H} {p : List MemPlace}
    (hv : Value.okWide Tryz.prog W r b0 24 v) (h : DataW.Trod enc Tryz.prog W base spare held 24 v d p) : ∃ e D T, v = .agg (row 65 (ekI e D T)).toArray ∧ (Lit.int .i64 e).wf = true := by
  obtain ⟨cs, rfl, _, _⟩ := okWide_st Tryz.underlying24 hv
  obtain ⟨fuel, hf⟩ := h
  obtain ⟨e, D, T, q, hw⟩ := keys_cells hf
  refine ⟨e, D, T, ?_, hw⟩
  rw [← q]
  simp [Value.cells]
theorem keys_lt {e : Int} (h : (Lit.int .i64 e).wf = true) : e < 9223372036854775808 := by
  have q := bounds_i64 h
  omega
end Go.Proofs.YtfpfgbhdehbggaaGreatDoor
