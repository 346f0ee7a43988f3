/-
  How lists of Ops that came in read; blocks made of bytes that came in.
-/
import Derived.Test.YtfaeieaelfjlpaaDk19
namespace Go.Proofs.Ytfaeieaelfjlpaa
open Go.ChangeShapes Go.WideShapes Go.ChangeAt Go.RowKit Go.BigFrame Go.Maps
/-- an Op's five cells -/
def opc (k m : Int) (u : Value) (bad : Bool) (q : Value) (j : Nat) : Value := if j = 0 then .int .i64 k else if j = 1 then .int .i64 m else if j = 2 then u else if j = 3 then .bool bad else q
/-- what an Op holds, besides its numbers -/
def OpD (u q : Value) (W : World) : Prop := (∃ l b, PV u l b W ∧ l ≤ maxLen) ∧ ∃ kk kb kw, KP q kk kb kw W ∧ kk ≤ maxLen ∧ ∀ i, i < kk → okI (kb i) ∧ okI (kw i)
theorem OpD.ext {u q : Value} {W X : World} (h : OpD u q W) (k : Ext W X) : OpD u q X := by
  obtain ⟨⟨l, b, h1, h2⟩, kk, kb, kw, h3, h4⟩ := h
  exact ⟨⟨l, b, h1.ext k, h2⟩, kk, kb, kw, h3.ext k, h4⟩
/-- Ops that came in -/
def OpsA (v : Value) (W : World) : Prop := ∃ (o : Option Addr) (n cap : Nat) (ks ms : Nat → Int), v = .slice o n cap ∧ n ≤ maxLen ∧ ∀ i, i < n → ∃ (ab ao : Nat) (u : Value) (bad : Bool) (q : Value), o = some ⟨ab, ao, none⟩ ∧ (∀ j, j < 5 → W.cell? ⟨ab, ao + i * 5 + j, none⟩ = some (opc (ks i) (ms i) u bad q j)) ∧ okI (ms i) ∧ OpD u q W
set_option maxRecDepth 100000 in
theorem opsarg {H : Type} {enc : TypeId × Value → H} {W : World} {r : Reach} {b0 base : Nat} {spare : Nat → Bool} {held : Bool} {v : Value} {d : DataW H} {p : List MemPlace}
    (hv : Value.okWide Try.prog W r b0 22 v) (h : DataW.Trod enc Try.prog W base spare held 22 v d p) : OpsA v W := by
  obtain ⟨a, len, cap, rfl⟩ := okWide_slice Try.underlying22 hv
  obtain ⟨fuel, hf⟩ := h
  have hC : Try.prog.cellsOf 34 = 5 := by kernel_rfl
  rcases Go.Deep.open_slice Try.underlying22 hf with ⟨hcs, _⟩ | ⟨x, l, c, m, n, D, Pl, hcs, _, hl, hm, hmm, _, hx⟩
  · simp [Value.cells] at hcs
    obtain ⟨rfl, rfl, rfl⟩ := hcs
    exact ⟨none, 0, 0, fun _ => 0, fun _ => 0, rfl, Nat.zero_le _, fun i hi => by omega⟩
  · simp [Value.cells] at hcs
    obtain ⟨rfl, rfl, rfl⟩ := hcs
    have hsp : x.spot = none := by
      simp only [Value.okWide, Try.underlying22, Cell.okWide, Cell.ok] at hv
      exact hv.2.2.2.1
    have hadd : ∀ i, x.add i = ⟨x.block, x.off + i, none⟩ := fun i => by
      obtain ⟨xb, xo, xs⟩ := x
      cases hsp
      unfold Addr.add
      by_cases hi : i = 0
      · subst hi; simp
      · rw [if_neg hi]
    have hxe : x = ⟨x.block, x.off, none⟩ := by
      obtain ⟨xb, xo, xs⟩ := x
      cases hsp
      rfl
    have hlm : len ≤ m := by rw [hmm]; split <;> omega
    have each : ∀ i, i < len → ∃ y : Int × Int, ∃ (u : Value) (bad : Bool) (q : Value), (∀ j, j < 5 → W.cell? ⟨x.block, x.off + i * 5 + j, none⟩ = some (opc y.1 y.2 u bad q j)) ∧ okI y.2 ∧ OpD u q W := by
      intro i hi
      obtain ⟨cs', h1, h2⟩ := hx i (by omega)
      rw [hC] at h1
      obtain ⟨_, hlen, hcell⟩ := World.cells?_some h1
      obtain ⟨k, m', u, bad, q, rfl, hmm', hp, hq⟩ := op_cells h2
      refine ⟨(k, m'), u, bad, q, fun j hj => ?_, hmm', hp, hq⟩
      have e := hcell j (by omega)
      rw [add_add, hadd, ← Nat.add_assoc] at e
      rw [e]
      rcases (by omega : j = 0 ∨ j = 1 ∨ j = 2 ∨ j = 3 ∨ j = 4) with rfl | rfl | rfl | rfl | rfl <;> rfl
    obtain ⟨y, hy⟩ := Go.Deep.choose_lt each
    refine ⟨some x, len, cap, fun i => (y i).1, fun i => (y i).2, rfl, by omega, fun i hi => ?_⟩
    obtain ⟨u, bad, q, a1, a2, a3⟩ := hy i hi
    exact ⟨x.block, x.off, u, bad, q, by rw [← hxe], a1, a2, a3⟩
theorem PV.bv {u : Value} {l : Nat} {b : Nat → BitVec 8} {w : World} (h : PV u l b w) (hl : 0 < l) : BV u l b w := by
  rcases h with ⟨_, h0⟩ | ⟨a, cap, h1, h2, h3⟩
  · omega
  · refine .inr ⟨a, cap, h1, h2, h3, ?_⟩
    have := World.block_lt_of_cell? w (a.add 0) (h3 0 hl)
    rwa [add_block] at this
/-- Block of bytes that came in within an Op -/
theorem block_pv (v : Value) (l : Nat) (f : Nat → BitVec 8) (w : World) (hb : PV v l f w) (hl : l ≤ maxLen) : Calls Try.prog 12 #[v] w fun e w' => ∃ v', e = .returned v' ∧ OwnB w.heap.size 5 v' 512 (yv (blkF l f)) w' ∧ Ext w w' := by
  rcases Nat.eq_zero_or_pos l with h0 | h0
  · subst h0
    obtain ⟨o, cap, rfl⟩ := hb.form
    exact block_zero o cap f w
  · exact block_any v l f w (hb.bv h0) hl
end Go.Proofs.Ytfaeieaelfjlpaa
