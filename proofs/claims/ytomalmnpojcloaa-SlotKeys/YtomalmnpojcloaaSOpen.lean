/-
  How slots and keys that came in read.
-/
import Derived.Test.YtomalmnpojcloaaOpen
import Derived.Test.YtomalmnpojcloaaKy1
import Derived.Deep.Slices
namespace Go.Proofs.Ytomalmnpojcloaa
open Go.ChangeShapes Go.WideShapes Go.ChangeAt Go.RowKit
theorem arr_cells {H : Type} {enc : TypeId × Value → H} {W : World} {base : Nat} {spare : Nat → Bool} {held : Bool} {n : Nat} {cs : List Value} {x : DataW H × List MemPlace} {t : TypeId} {N : Nat} (hu : Try.prog.underlying t = some (.array N 5)) (h : DataW.trod enc Try.prog W base spare held n t cs = some x) :
    ∃ f : Nat → BitVec 8, ∀ i, i < N → cs[i]? = some (.int .u8 ((f i).toNat : Int)) := by
  have hc5 : Try.prog.cellsOf 5 = 1 := by kernel_rfl
  obtain ⟨xs, m, _, _, _, hxl, hx⟩ := DataW.trod_array hu h
  have hall : ∀ i, i < N → ∃ b : BitVec 8, cs[i]? = some (.int .u8 (b.toNat : Int)) := by
    intro i hi
    have h1 := hx i hi
    rw [List.getElem?_eq_getElem (by omega)] at h1
    obtain ⟨n, e0, _, w0⟩ := DataW.trod_int Try.underlying5 h1
    obtain ⟨b, rfl⟩ := of_wf8 w0
    refine ⟨b, ?_⟩
    rw [hc5] at e0
    have h2 : (List.take 1 (List.drop (i * 1) cs))[0]? = some (.int .u8 (b.toNat : Int)) := by rw [e0]; rfl
    simpa [List.getElem?_take, List.getElem?_drop] using h2
  refine ⟨fun i => if h : i < N then (hall i h).choose else 0#8, fun i hi => ?_⟩
  rw [(hall i hi).choose_spec]
  simp only [dif_pos hi]
theorem sub_cells {cs : List Value} {off m i : Nat} (hi : i < m) : ((cs.drop off).take m)[i]? = cs[off + i]? := by
  rw [List.getElem?_take_of_lt hi, List.getElem?_drop]
theorem row_of {cs : List Value} {n : Nat} {g : Nat → Value} (hl : cs.length = n) (h : ∀ i, i < n → cs[i]? = some (g i)) : cs = row n g := by
  apply List.ext_getElem?
  intro i
  by_cases hi : i < n
  · rw [h i hi, row_get n g i hi]
  · rw [List.getElem?_eq_none (by omega), List.getElem?_eq_none (by rw [row_length]; omega)]
theorem okWide_st {P : Program} {w : World} {r : Reach} {base : Nat} {t : TypeId} {v : Value} {fs : Array Field} (ht : P.underlying t = some (.struct fs)) (h : Value.okWide P w r base t v) : ∃ cs, v = .agg cs ∧ cs.size = P.cellsOf t ∧ Row.okWide P w r base t cs := by
  unfold Value.okWide at h
  rw [ht] at h
  exact h
def joinS (f1 f2 f3 : Nat → BitVec 8) (j : Nat) : BitVec 8 := if j < 16 then f1 j else if j < 48 then f2 (j - 16) else f3 (j - 48)
set_option maxRecDepth 100000 in
theorem slot_cells {H : Type} {enc : TypeId × Value → H} {W : World} {base : Nat} {spare : Nat → Bool} {held : Bool} {n : Nat} {cs : List Value} {x : DataW H × List MemPlace} (h : DataW.trod enc Try.prog W base spare held n 25 cs = some x) :
    ∃ a f, cs = row 81 (slv a f) := by
  have hC : Try.prog.cellsOf 25 = 81 := by kernel_rfl
  have c4 : Try.prog.cellsOf 4 = 1 := by kernel_rfl
  have c22 : Try.prog.cellsOf 22 = 16 := by kernel_rfl
  have c23 : Try.prog.cellsOf 23 = 32 := by kernel_rfl
  obtain ⟨y0, y1, y2, y3, m, _, hl, h0, h1, h2, h3⟩ := Joins.trod_struct4 Try.underlying25 h
  simp only [c4, c22, c23] at h0 h1 h2 h3
  rw [hC] at hl
  obtain ⟨a, e0, _⟩ := DataW.trod_bool Try.underlying4 h0
  obtain ⟨f1, e1⟩ := arr_cells Try.underlying22 h1
  obtain ⟨f2, e2⟩ := arr_cells Try.underlying23 h2
  obtain ⟨f3, e3⟩ := arr_cells Try.underlying23 h3
  refine ⟨a, joinS f1 f2 f3, row_of hl fun i hi => ?_⟩
  unfold slv
  by_cases c0 : i = 0
  · subst c0
    have := congrArg (·[0]?) e0
    simp only [sub_cells (show 0 < 1 by decide)] at this
    rw [if_pos rfl]
    exact this
  · rw [if_neg c0]
    unfold joinS
    by_cases c1 : i - 1 < 16
    · have := e1 (i - 1) c1
      rw [sub_cells c1, show 1 + (i - 1) = i by omega] at this
      rw [this, if_pos c1]
    · rw [if_neg c1]
      by_cases c2 : i - 1 < 48
      · have := e2 (i - 1 - 16) (by omega)
        rw [sub_cells (by omega), show 17 + (i - 1 - 16) = i by omega] at this
        rw [this, if_pos c2]
      · have := e3 (i - 1 - 48) (by omega)
        rw [sub_cells (by omega), show 49 + (i - 1 - 48) = i by omega] at this
        rw [this, if_neg c2]
theorem open_slot {H : Type} {enc : TypeId × Value → H} {W : World} {r : Reach} {b0 base : Nat} {spare : Nat → Bool} {held : Bool} {v : Value} {d : DataW H} {p : List MemPlace}
    (hv : Value.okWide Try.prog W r b0 25 v) (h : DataW.Trod enc Try.prog W base spare held 25 v d p) : ∃ a f, v = .agg (row 81 (slv a f)).toArray := by
  obtain ⟨cs, rfl, _, _⟩ := okWide_st Try.underlying25 hv
  obtain ⟨fuel, hf⟩ := h
  obtain ⟨a, f, e⟩ := slot_cells hf
  refine ⟨a, f, ?_⟩
  rw [← e]
  simp [Value.cells]
set_option maxRecDepth 100000 in
theorem ep_cells {H : Type} {enc : TypeId × Value → H} {W : World} {base : Nat} {spare : Nat → Bool} {held : Bool} {n : Nat} {cs : List Value} {x : DataW H × List MemPlace} (h : DataW.trod enc Try.prog W base spare held n 51 cs = some x) :
    ∃ k f, cs = row 65 (epv k f) ∧ -9223372036854775808 ≤ k ∧ k ≤ 9223372036854775807 := by
  have hC : Try.prog.cellsOf 51 = 65 := by kernel_rfl
  have c3 : Try.prog.cellsOf 3 = 1 := by kernel_rfl
  have c49 : Try.prog.cellsOf 49 = 64 := by kernel_rfl
  obtain ⟨y0, y1, m, _, hl, h0, h1⟩ := trod_struct2 Try.underlying51 h
  simp only [c3, c49] at h0 h1
  rw [hC] at hl
  obtain ⟨k, e0, _, w0⟩ := DataW.trod_int Try.underlying3 h0
  obtain ⟨f, e1⟩ := arr_cells Try.underlying49 h1
  have hb := bounds_i64 w0
  refine ⟨k, f, row_of hl fun i hi => ?_, hb.1, hb.2⟩
  unfold epv
  by_cases c0 : i = 0
  · subst c0
    have := congrArg (·[0]?) e0
    simp only [sub_cells (show 0 < 1 by decide)] at this
    rw [if_pos rfl]
    exact this
  · rw [if_neg c0]
    have := e1 (i - 1) (by omega)
    rw [sub_cells (by omega), show 1 + (i - 1) = i by omega] at this
    exact this
/-- keys that came in -/
def KArg (v : Value) (W : World) : Prop := ∃ u n xs fs t, v = .agg (row 33 (kyv u t)).toArray ∧ EV u n xs fs W ∧ inW n xs ∧ n ≤ 9223372036854775807
set_option maxRecDepth 100000 in
theorem open_keys {H : Type} {enc : TypeId × Value → H} {W : World} {r : Reach} {b0 base : Nat} {spare : Nat → Bool} {held : Bool} {v : Value} {d : DataW H} {p : List MemPlace}
    (hv : Value.okWide Try.prog W r b0 37 v) (h : DataW.Trod enc Try.prog W base spare held 37 v d p) : KArg v W := by
  obtain ⟨cs, rfl, hsz, ts, hts, _, hok⟩ := okWide_st Try.underlying37 hv
  have hC : Try.prog.cellsOf 37 = 33 := by kernel_rfl
  have c35 : Try.prog.cellsOf 35 = 1 := by kernel_rfl
  have c23 : Try.prog.cellsOf 23 = 32 := by kernel_rfl
  have hC2 : Try.prog.cellsOf 51 = 65 := by kernel_rfl
  obtain ⟨fuel, hf⟩ := h
  obtain ⟨y0, y1, m, _, hl, h0, h1⟩ := trod_struct2 Try.underlying37 hf
  simp only [c35, c23] at h0 h1
  rw [hC] at hl
  obtain ⟨t, e1⟩ := arr_cells Try.underlying23 h1
  have hcs : (Value.agg cs).cells.toList = cs.toList := by simp [Value.cells]
  rw [hcs] at hl h0 e1
  have hrow : ∀ u, cs.toList[0]? = some u → Value.agg cs = .agg (row 33 (kyv u t)).toArray := fun u hu => by
    rw [← row_of (g := kyv u t) hl fun i hi => ?_]
    unfold kyv
    by_cases c0 : i = 0
    · subst c0; rw [if_pos rfl]; exact hu
    · rw [if_neg c0]
      have := e1 (i - 1) (by omega)
      rw [sub_cells (by omega), show 1 + (i - 1) = i by omega] at this
      exact this
  rcases Go.Deep.open_slice Try.underlying35 h0 with ⟨e0, _⟩ | ⟨x, len, cap, m', n', D, Pl, e0, _, hlc, hm, hmm, _, hx⟩
  · have := congrArg (·[0]?) e0
    simp only [sub_cells (show 0 < 1 by decide)] at this
    exact ⟨_, 0, fun _ => 0, fun _ _ => 0#8, t, hrow _ this, .inl ⟨rfl, rfl⟩, fun i hi => by omega, by omega⟩
  · have hc0 := congrArg (·[0]?) e0
    simp only [sub_cells (show 0 < 1 by decide)] at hc0
    replace hc0 : cs.toList[0]? = some (.slice (some x) len cap) := hc0
    have hsp : x.spot = none := by
      obtain ⟨u, hu, hcell⟩ := hok 0 (.slice (some x) len cap) (by simpa using hc0)
      have hts0 : Try.prog.cellTypes Try.prog.depth 37 = some (35 :: List.replicate 32 5) := by kernel_rfl
      rw [hts0] at hts
      injection hts with hts
      rw [← hts] at hu
      have h35 : u = 35 := by
        have : some (35 : TypeId) = some u := by rw [← hu]; rfl
        injection this with this
        exact this.symm
      subst h35
      simp only [Cell.okWide, Try.underlying35, Cell.ok] at hcell
      exact hcell.2.2.2.1
    have hadd : ∀ i, x.add i = ⟨x.block, x.off + i, none⟩ := fun i => by
      obtain ⟨xb, xo, xs⟩ := x
      cases hsp
      unfold Addr.add
      by_cases hi : i = 0
      · subst hi; simp
      · rw [if_neg hi]
    have hx0 : x = ⟨x.block, x.off, none⟩ := by
      obtain ⟨xb, xo, xs⟩ := x
      cases hsp
      rfl
    have hlm : len ≤ m' := by rw [hmm]; split <;> omega
    have each : ∀ i, i < len → ∃ q : Int × (Nat → BitVec 8), (∀ j, j < 65 → W.cell? ⟨x.block, x.off + i * 65 + j, none⟩ = some (epv q.1 q.2 j)) ∧ -9223372036854775808 ≤ q.1 ∧ q.1 ≤ 9223372036854775807 := by
      intro i hi
      obtain ⟨cs', g1, g2⟩ := hx i (by omega)
      rw [hC2] at g1
      obtain ⟨_, hlen, hcell⟩ := World.cells?_some g1
      obtain ⟨k, f, rfl, hk⟩ := ep_cells g2
      refine ⟨(k, f), fun j hj => ?_, hk⟩
      have e := hcell j hj
      rw [add_add, hadd, ← Nat.add_assoc] at e
      rw [e]
      exact row_get 65 (epv k f) j hj
    obtain ⟨q, hq⟩ := Go.Deep.choose_lt each
    refine ⟨_, len, fun i => (q i).1, fun i => (q i).2, t, hrow _ hc0, .inr ⟨x.block, x.off, cap, ?_, hlc, fun i hi j hj => (hq i hi).1 j hj⟩, fun i hi => (hq i hi).2, ?_⟩
    · rw [← hx0]
    · unfold maxLen at hm; omega
end Go.Proofs.Ytomalmnpojcloaa
