/-
  Parameters and secrets that came in.
-/
import Derived.Test.YtfbmeclpcgdmhabDoorQ19
import Derived.Test.YtfbmeclpcgdmhabDoorQ34
import Derived.Deep.Slices
namespace Go.Proofs.YtfbmeclpcgdmhabDoor
open Go.ChangeShapes Go.WideShapes Go.ChangeAt Go.RowKit
set_option linter.unusedVariables false
theorem sub_cells {cs : List Value} {off m i : Nat} (hi : i < m) : ((cs.drop off).take m)[i]? = cs[off + i]? := by
  rw [List.getElem?_take_of_lt hi, List.getElem?_drop]
theorem row_of {cs : List Value} {n : Nat} {g : Nat → Value} (hl : cs.length = n) (h : ∀ i, i < n → cs[i]? = some (g i)) : cs = row n g := by
  apply List.ext_getElem?
  intro i
  by_cases hi : i < n
  · rw [h i hi, row_get n g i hi]
  · rw [List.getElem?_eq_none (by omega), List.getElem?_eq_none (by rw [row_length]; omega)]
theorem okWide_st {P : Program} {w : World} {r : Reach} {base : Nat} {t : TypeId} {v : Value} {fs : Array Field} (ht : P.underlying t = some (.struct fs)) (h : Value.okWide P w r base t v) : ∃ cs, v = .agg cs ∧ cs.size = P.cellsOf t ∧ Row.okWide P w r base t cs := by
  unfold Value.okWide at h
  rw [ht] at h
  exact h
theorem trod_st {H : Type} {enc : TypeId × Value → H} {P : Program} {w : World} {base : Nat} {spare : Nat → Bool} {held : Bool} {t : TypeId} {fs : List Field} {fuel : Nat} {cs : List Value} {x : DataW H × List MemPlace} (ht : P.underlying t = some (.struct fs.toArray)) (h : DataW.trod enc P w base spare held fuel t cs = some x) :
    ∃ n, cs.length = P.cellsOf t ∧ ∀ (i : Nat) (f : Field), fs[i]? = some f → ∃ y, DataW.trod enc P w base spare held n f.type ((cs.drop f.offset).take (P.cellsOf f.type)) = some y := by
  obtain ⟨xs, n, _, _, hl, hlen, hf⟩ := DataW.trod_struct ht h
  refine ⟨n, hl, fun i f hi => ?_⟩
  have hi2 : fs.toArray[i]? = some f := by simpa using hi
  have hlt : i < xs.length := by
    have := (List.getElem?_eq_some_iff.1 hi).1
    simp at hlen
    omega
  refine ⟨xs[i], ?_⟩
  rw [hf i f hi2, List.getElem?_eq_getElem hlt]
set_option maxRecDepth 100000 in
theorem pa_cells {H : Type} {enc : TypeId × Value → H} {W : World} {base : Nat} {spare : Nat → Bool} {held : Bool} {n : Nat} {cs : List Value} {x : DataW H × List MemPlace} (h : DataW.trod enc Tryd.prog W base spare held n 31 cs = some x) :
    ∃ a b c, ∀ i, i < 3 → cs[i]? = some (pav a b c i) := by
  have c3 : Tryd.prog.cellsOf 3 = 1 := by kernel_rfl
  obtain ⟨m, hl, hf⟩ := trod_st (fs := [_, _, _]) Tryd.underlying31 h
  have _ := hl
  · obtain ⟨y0, h0⟩ := hf 0 _ rfl
    obtain ⟨y1, h1⟩ := hf 1 _ rfl
    obtain ⟨y2, h2⟩ := hf 2 _ rfl
    simp only [c3] at h0 h1 h2
    obtain ⟨k0, e0, _, _⟩ := DataW.trod_int Tryd.underlying3 h0
    obtain ⟨k1, e1, _, _⟩ := DataW.trod_int Tryd.underlying3 h1
    obtain ⟨k2, e2, _, _⟩ := DataW.trod_int Tryd.underlying3 h2
    refine ⟨k0, k1, k2, fun i hi => ?_⟩
    have q0 := congrArg (·[0]?) e0
    have q1 := congrArg (·[0]?) e1
    have q2 := congrArg (·[0]?) e2
    simp only [sub_cells (show 0 < 1 by decide)] at q0 q1 q2
    rcases (by omega : i = 0 ∨ i = 1 ∨ i = 2) with rfl | rfl | rfl
    · exact q0
    · exact q1
    · exact q2
set_option maxRecDepth 100000 in
theorem open_pa {H : Type} {enc : TypeId × Value → H} {W : World} {r : Reach} {b0 base : Nat} {spare : Nat → Bool} {held : Bool} {v : Value} {d : DataW H} {p : List MemPlace}
    (hv : Value.okWide Tryd.prog W r b0 31 v) (h : DataW.Trod enc Tryd.prog W base spare held 31 v d p) : ∃ a b c, v = .agg (row 3 (pav a b c)).toArray := by
  have hC : Tryd.prog.cellsOf 31 = 3 := by kernel_rfl
  obtain ⟨cs, rfl, hcs, _⟩ := okWide_st Tryd.underlying31 hv
  obtain ⟨fuel, hf⟩ := h
  obtain ⟨a, b, c, e⟩ := pa_cells hf
  refine ⟨a, b, c, ?_⟩
  have hl : cs.toList.length = 3 := by rw [← hC, ← hcs]; simp
  rw [← row_of hl e]
/-- a secret that came in -/
def SArg (v : Value) (W : World) : Prop := ∃ (o : Nat → Option Addr) (l k : Nat → Nat) (f : Nat → Nat → BitVec 8), v = .agg (row 4 (scv (.slice (o 0) (l 0) (k 0)) (.slice (o 1) (l 1) (k 1)) (.slice (o 2) (l 2) (k 2)) (.slice (o 3) (l 3) (k 3)))).toArray ∧ ∀ i, i < 4 → BV (.slice (o i) (l i) (k i)) (l i) (f i) W
set_option maxRecDepth 100000 in
theorem sarg {H : Type} {enc : TypeId × Value → H} {W : World} {r : Reach} {b0 base : Nat} {spare : Nat → Bool} {held : Bool} {v : Value} {d : DataW H} {p : List MemPlace}
    (hv : Value.okWide Tryd.prog W r b0 34 v) (h : DataW.Trod enc Tryd.prog W base spare held 34 v d p) : SArg v W := by
  have hC : Tryd.prog.cellsOf 34 = 4 := by kernel_rfl
  have c32 : Tryd.prog.cellsOf 32 = 1 := by kernel_rfl
  have hts : Tryd.prog.cellTypes Tryd.prog.depth 34 = some [32, 32, 32, 32] := by kernel_rfl
  obtain ⟨cs, rfl, hcs, ts, ht, _, hok⟩ := okWide_st Tryd.underlying34 hv
  rw [hts] at ht
  injection ht with ht
  subst ht
  rw [hC] at hcs
  obtain ⟨fuel, hf⟩ := h
  obtain ⟨m, hl, hfl⟩ := trod_st (fs := [_, _, _, _]) Tryd.underlying34 hf
  have hfs : ∀ i, i < 4 → ∃ y, DataW.trod enc Tryd.prog W base spare held m 32 ((cs.toList.drop i).take 1) = some y := fun i hi => by
    rcases (by omega : i = 0 ∨ i = 1 ∨ i = 2 ∨ i = 3) with rfl | rfl | rfl | rfl
    · have := hfl 0 _ rfl; rw [c32] at this; exact this
    · have := hfl 1 _ rfl; rw [c32] at this; exact this
    · have := hfl 2 _ rfl; rw [c32] at this; exact this
    · have := hfl 3 _ rfl; rw [c32] at this; exact this
  have key : ∀ i, i < 4 → ∃ (o : Option Addr) (l k : Nat) (f : Nat → BitVec 8), cs[i]? = some (.slice o l k) ∧ BV (.slice o l k) l f W := fun i hi => by
    obtain ⟨u, hu⟩ : ∃ u, cs[i]? = some u := ⟨_, Array.getElem?_eq_getElem (by omega)⟩
    obtain ⟨t, h1, h2⟩ := hok i u hu
    have ht : t = 32 := by
      rcases (by omega : i = 0 ∨ i = 1 ∨ i = 2 ∨ i = 3) with rfl | rfl | rfl | rfl <;> (injection h1 with h1; exact h1.symm)
    subst ht
    have hw : Value.okWide Tryd.prog W r b0 32 u := by
      unfold Value.okWide
      rw [Tryd.underlying32]
      exact h2
    obtain ⟨y, hy⟩ := hfs i hi
    have hone : (cs.toList.drop i).take 1 = [u] := by
      apply List.ext_getElem?
      intro q
      cases q with
      | zero => rw [sub_cells (by decide), Nat.add_zero, Array.getElem?_toList, hu]; rfl
      | succ q => rw [List.getElem?_eq_none (by simp; omega), List.getElem?_eq_none (by simp)]
    rw [hone] at hy
    obtain ⟨a0, ln, cp, rfl⟩ := okWide_slice Tryd.underlying32 hw
    rcases open_bytes hw ⟨m, hy⟩ with e | ⟨a, l, cap, f, _, _, e, hc, hL, _⟩
    · injection e with e1 e2 e3
      subst e1 e2 e3
      exact ⟨none, 0, 0, fun _ => 0#8, hu, .inl ⟨rfl, rfl⟩⟩
    · injection e with e1 e2 e3
      subst e1 e2 e3
      exact ⟨_, _, _, f, hu, .inr ⟨_, _, rfl, hc, hL⟩⟩
  refine ⟨fun i => if h : i < 4 then (key i h).choose else none, fun i => if h : i < 4 then (key i h).choose_spec.choose else 0, fun i => if h : i < 4 then (key i h).choose_spec.choose_spec.choose else 0, fun i => if h : i < 4 then (key i h).choose_spec.choose_spec.choose_spec.choose else fun _ => 0#8, ?_, fun i hi => ?_⟩
  · have hl4 : cs.toList.length = 4 := by simpa using hcs
    congr 1
    apply Array.ext'
    rw [row_of hl4 fun i hi => ?_]
    rw [Array.getElem?_toList, (key i hi).choose_spec.choose_spec.choose_spec.choose_spec.1]
    rcases (by omega : i = 0 ∨ i = 1 ∨ i = 2 ∨ i = 3) with rfl | rfl | rfl | rfl <;> rfl
  · simp only [dif_pos hi]
    exact (key i hi).choose_spec.choose_spec.choose_spec.choose_spec.2
end Go.Proofs.YtfbmeclpcgdmhabDoor
