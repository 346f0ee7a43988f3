/-
  Lists of ops that came in.
-/
import Derived.Test.YtcipkfalnjgghaaMd28
namespace Go.Proofs.Ytcipkfalnjgghaa
open Go.RowKit Go.BigFrame Go.Maps
set_option linter.unusedVariables false
open Go.ChangeShapes Go.WideShapes Go.ChangeAt
/-- the first four cells of an Op that lies at ab, ao -/
def OpL (ab ao : Nat) (k m : Int) (u1 u2 q : Value) (W : World) : Prop := W.cell? ⟨ab, ao, none⟩ = some (.int .i64 k) ∧ W.cell? ⟨ab, ao + 1, none⟩ = some (.int .i64 m) ∧ W.cell? ⟨ab, ao + 2, none⟩ = some u1 ∧ W.cell? ⟨ab, ao + 3, none⟩ = some u2 ∧ W.cell? ⟨ab, ao + 4, none⟩ = some q
theorem OpL.ext {ab ao : Nat} {k m : Int} {u1 u2 q : Value} {W X : World} (h : OpL ab ao k m u1 u2 q W) (e : Ext W X) : OpL ab ao k m u1 u2 q X := ⟨cell_ext e h.1, cell_ext e h.2.1, cell_ext e h.2.2.1, cell_ext e h.2.2.2.1, cell_ext e h.2.2.2.2⟩
/-- bytes that came in -/
def PB (v : Value) (W : World) : Prop := ∃ l b, PV v l b W ∧ l ≤ maxLen
theorem PB.ext {v : Value} {W X : World} (h : PB v W) (e : Ext W X) : PB v X := by
  obtain ⟨l, b, h1, h2⟩ := h
  exact ⟨l, b, h1.ext e, h2⟩
/-- Ops that came in -/
def OpsA (o : Option Addr) (n : Nat) (W : World) : Prop := ∀ i, i < n → ∃ (ab ao : Nat) (k m : Int) (u1 u2 q : Value), o = some ⟨ab, ao, none⟩ ∧ OpL ab (ao + i * 5) k m u1 u2 q W ∧ okI k ∧ okI m ∧ PB u1 W ∧ PB u2 W
theorem OpsA.ext {o : Option Addr} {n : Nat} {W X : World} (h : OpsA o n W) (e : Ext W X) : OpsA o n X := fun i hi => by
  obtain ⟨ab, ao, k, m, u1, u2, q, h1, h2, h3, h4, h5, h6⟩ := h i hi
  exact ⟨ab, ao, k, m, u1, u2, q, h1, h2.ext e, h3, h4, h5.ext e, h6.ext e⟩
set_option maxRecDepth 100000 in
theorem opsarg {H : Type} {enc : TypeId × Value → H} {W : World} {r : Reach} {b0 base : Nat} {spare : Nat → Bool} {held : Bool} {v : Value} {d : DataW H} {p : List MemPlace}
    (hv : Value.okWide Try.prog W r b0 53 v) (h : DataW.Trod enc Try.prog W base spare held 53 v d p) : ∃ o n cap, v = .slice o n cap ∧ n ≤ maxLen ∧ OpsA o n W := by
  obtain ⟨a, len, cap, rfl⟩ := okWide_slice Try.underlying53 hv
  obtain ⟨fuel, hf⟩ := h
  have hC : Try.prog.cellsOf 25 = 5 := by kernel_rfl
  rcases Go.Deep.open_slice Try.underlying53 hf with ⟨hcs, _⟩ | ⟨x, l, c, m, n, D, Pl, hcs, _, hl, hm, hmm, _, hx⟩
  · simp [Value.cells] at hcs
    obtain ⟨rfl, rfl, rfl⟩ := hcs
    exact ⟨none, 0, 0, rfl, Nat.zero_le _, fun i hi => by omega⟩
  · simp [Value.cells] at hcs
    obtain ⟨rfl, rfl, rfl⟩ := hcs
    have hsp : x.spot = none := by
      simp only [Value.okWide, Try.underlying53, Cell.okWide, Cell.ok] at hv
      exact hv.2.2.2.1
    have hadd : ∀ i, x.add i = ⟨x.block, x.off + i, none⟩ := fun i => by
      obtain ⟨xb, xo, xs⟩ := x
      cases hsp
      unfold Addr.add
      by_cases hi : i = 0
      · subst hi; simp
      · rw [if_neg hi]
    have hxe : x = ⟨x.block, x.off, none⟩ := by
      obtain ⟨xb, xo, xs⟩ := x
      cases hsp
      rfl
    have hlm : len ≤ m := by rw [hmm]; split <;> omega
    refine ⟨some x, len, cap, rfl, by omega, fun i hi => ?_⟩
    obtain ⟨cs', h1, h2⟩ := hx i (by omega)
    rw [hC] at h1
    obtain ⟨_, hlen, hcell⟩ := World.cells?_some h1
    obtain ⟨k, m', u1, u2, ko, kl, kc, rfl, a1, a2, a3, a4⟩ := op_cells h2
    have cl : ∀ j (hj : j < 5), W.cell? ⟨x.block, x.off + i * 5 + j, none⟩ = some ([Value.int .i64 k, .int .i64 m', u1, u2, .slice ko kl kc][j]) := fun j hj => by
      have e := hcell j (by simpa using hj)
      rw [add_add, hadd, ← Nat.add_assoc] at e
      rw [e]
      simp
    exact ⟨x.block, x.off, k, m', u1, u2, .slice ko kl kc, by rw [← hxe], ⟨cl 0 (by decide), cl 1 (by decide), cl 2 (by decide), cl 3 (by decide), cl 4 (by decide)⟩, a1, a2, a3, a4⟩
set_option maxRecDepth 100000 in
theorem open_opP {H : Type} {enc : TypeId × Value → H} {W : World} {r : Reach} {b0 base : Nat} {spare : Nat → Bool} {held : Bool} {v : Value} {d : DataW H} {p : List MemPlace}
    (hv : Value.okWide Try.prog W r b0 25 v) (h : DataW.Trod enc Try.prog W base spare held 25 v d p) : ∃ (k m : Int) (o1 : Option Addr) (l1 c1 : Nat) (o2 : Option Addr) (l2 c2 : Nat) (ko : Option Addr) (kl kc : Nat), v = .agg #[.int .i64 k, .int .i64 m, .slice o1 l1 c1, .slice o2 l2 c2, .slice ko kl kc] ∧ okI k ∧ okI m ∧ PB (.slice o1 l1 c1) W ∧ PB (.slice o2 l2 c2) W := by
  obtain ⟨cs, rfl, _, _⟩ := okWide_st Try.underlying25 hv
  obtain ⟨fuel, hf⟩ := h
  obtain ⟨k, m, u1, u2, ko, kl, kc, hc, i1, i2, ⟨l, b, hp, hl⟩, ⟨l', b', hp', hl'⟩⟩ := op_cells hf
  obtain ⟨o1, c1, rfl⟩ := hp.form
  obtain ⟨o2, c2, rfl⟩ := hp'.form
  refine ⟨k, m, o1, l, c1, o2, l', c2, ko, kl, kc, ?_, i1, i2, ⟨l, b, hp, hl⟩, ⟨l', b', hp', hl'⟩⟩
  congr 1
  apply Array.ext'
  exact hc
/-- what ModelKeeps asks of a model, step by step -/
structure StOk (s : MSt) (i : Nat) : Prop where
  op : s.op = true
  rt : okR s.h s.r
  ct : s.r.ct.toNat ≤ i
theorem ct_add (a : BitVec 64) (i : Nat) (h : a.toNat ≤ i) (hi : i < 1000) : (a + 1#64).toNat = a.toNat + 1 := by
  rw [BitVec.toNat_add, show (1#64).toNat = 1 from rfl, Nat.mod_eq_of_lt (by omega)]
theorem StOk.up {s : MSt} {i : Nat} (h : StOk s i) : StOk s (i + 1) := ⟨h.op, h.rt, Nat.le_succ_of_le h.ct⟩
theorem StOk.wr {s : MSt} {i : Nat} (h : StOk s i) (hi : i < 1000) (n : Int) (f : Nat → BitVec 8) : StOk (wrS s n f) (i + 1) := ⟨h.op, h.rt, by
  show (s.r.ct + 1#64).toNat ≤ i + 1
  rw [ct_add _ i h.ct hi]; have := h.ct; omega⟩
theorem StOk.ad {s : MSt} {i : Nat} (h : StOk s i) (hi : i < 1000) (n : Int) (l : Nat) (f : Nat → BitVec 8) : StOk (adS s n l f) (i + 1) := ⟨h.op, h.rt, by
  show (s.r.ct + 1#64).toNat ≤ i + 1
  rw [ct_add _ i h.ct hi]; have := h.ct; omega⟩
theorem StOk.rv {s : MSt} {i : Nat} (h : StOk s i) (hi : i < 1000) (n : Int) : StOk (rvS s n) (i + 1) := ⟨h.op, h.rt, by
  show (s.r.ct + 1#64).toNat ≤ i + 1
  rw [ct_add _ i h.ct hi]; have := h.ct; omega⟩
theorem StOk.st {s : MSt} {i : Nat} (h : StOk s i) (hi : i < 1000) : StOk (stS s) (i + 1) := ⟨h.op, ⟨h.rt.1, h.rt.2.1, h.rt.2.2.1, .inl rfl⟩, by
  show (s.r.ct + 1#64).toNat ≤ i + 1
  rw [ct_add _ i h.ct hi]; have := h.ct; omega⟩
end Go.Proofs.Ytcipkfalnjgghaa
