/-
  How slices of Ops that came in read.
-/
import Derived.Test.YtboncdlihgpepaaOpen
import Derived.Deep.Slices
namespace Go.Proofs.Ytboncdlihgpepaa
open Go.ChangeShapes Go.WideShapes Go.ChangeAt Go.RowKit
def PV (u : Value) (l : Nat) (b : Nat → BitVec 8) (w : World) : Prop := (u = .slice none 0 0 ∧ l = 0) ∨ ∃ a cap, u = .slice (some a) l cap ∧ l ≤ cap ∧ ∀ j, j < l → w.cell? (a.add j) = some (yv b j)
theorem cell_ext {w X : World} (k : Ext w X) {a : Addr} {v : Value} (h : w.cell? a = some v) : X.cell? a = some v := (Below.cell k (p := a) (World.block_lt_of_cell? w a h)).trans h
theorem PV.ext {u : Value} {l : Nat} {b : Nat → BitVec 8} {w X : World} (h : PV u l b w) (k : Ext w X) : PV u l b X := by
  rcases h with h | ⟨a, cap, h1, h2, h3⟩
  · exact .inl h
  · exact .inr ⟨a, cap, h1, h2, fun j hj => cell_ext k (h3 j hj)⟩
set_option maxRecDepth 100000 in
theorem open_piece {H : Type} {enc : TypeId × Value → H} {W : World} {base : Nat} {spare : Nat → Bool} {held : Bool} {n : Nat} {cs : List Value} {x : DataW H × List MemPlace} (h : DataW.trod enc Try.prog W base spare held n 22 cs = some x) :
    ∃ u l b, cs = [u] ∧ PV u l b W ∧ ((x.1 = .nil ∧ l = 0) ∨ ∃ e s, x.1 = .slice e s ∧ e.length = l) := by
  rcases open_ints Try.underlying22 Try.underlying5 (by kernel_rfl) h with ⟨hcs, hx⟩ | ⟨a, len, cap, zs, hcs, _, hl, _, hz, hd, hcell, hwz⟩
  · exact ⟨.slice none 0 0, 0, fun _ => 0#8, hcs, .inl ⟨rfl, rfl⟩, .inl ⟨by rw [hx], rfl⟩⟩
  · have hlen : len ≤ zs.length := by rw [hz]; split <;> omega
    have hall : ∀ i, i < len → ∃ c : BitVec 8, zs.getD i 0 = (c.toNat : Int) := fun i hi => by
      refine of_wf8 (hwz _ ?_)
      rw [List.getD_eq_getElem?_getD, List.getElem?_eq_getElem (by omega), Option.getD_some]
      exact List.getElem_mem _
    refine ⟨.slice (some a) len cap, len, fun i => if h : i < len then (hall i h).choose else 0#8, hcs, .inr ⟨a, cap, rfl, hl, fun j hj => ?_⟩, .inr ⟨_, _, by rw [hd], by simp [lits]; omega⟩⟩
    rw [hcell j (by omega)]
    simp only [yv, dif_pos hj]
    rw [← (hall j hj).choose_spec]
theorem addr_eta (x : Addr) (h : x.spot = none) : x = ⟨x.block, x.off, none⟩ := by
  cases x
  simp only at h
  subst h
  rfl
/-- four cells, one behind the other -/
def OpAt (ab o : Nat) (k m : Int) (x : BitVec 64) (u : Value) (W : World) : Prop := W.cell? ⟨ab, o, none⟩ = some (.int .i64 k) ∧ W.cell? ⟨ab, o + 1, none⟩ = some (.int .i64 m) ∧ W.cell? ⟨ab, o + 2, none⟩ = some (.int .u64 (x.toNat : Int)) ∧ W.cell? ⟨ab, o + 3, none⟩ = some u
def opv (k m : Int) (x : BitVec 64) (u : Value) : Nat → Value := fun j => if j = 0 then .int .i64 k else if j = 1 then .int .i64 m else if j = 2 then .int .u64 (x.toNat : Int) else u
theorem opv_range {ab o : Nat} {k m : Int} {x : BitVec 64} {u : Value} {W : World} (h : OpAt ab o k m x u W) : W.rangeAt ab o (row 4 (opv k m x u)) := fun j v hv => by
  obtain ⟨hj, rfl⟩ := row_some hv
  obtain ⟨h0, h1, h2, h3⟩ := h
  rcases (by omega : j = 0 ∨ j = 1 ∨ j = 2 ∨ j = 3) with rfl | rfl | rfl | rfl
  · exact h0
  · exact h1
  · exact h2
  · exact h3
theorem opv_one {k m : Int} {x : BitVec 64} {u : Value} (h : u.oneCell' = true) : ∀ j, j < 4 → (opv k m x u j).oneCell' = true := fun j hj => by
  rcases (by omega : j = 0 ∨ j = 1 ∨ j = 2 ∨ j = 3) with rfl | rfl | rfl | rfl
  · rfl
  · rfl
  · rfl
  · exact h
theorem opAt_ext {ab o : Nat} {k m : Int} {x : BitVec 64} {u : Value} {W X : World} (h : OpAt ab o k m x u W) (e : Ext W X) : OpAt ab o k m x u X := ⟨cell_ext e h.1, cell_ext e h.2.1, cell_ext e h.2.2.1, cell_ext e h.2.2.2⟩
theorem PV.one {u : Value} {l : Nat} {b : Nat → BitVec 8} {w : World} (h : PV u l b w) : u.oneCell' = true := by
  rcases h with ⟨rfl, _⟩ | ⟨a, cap, rfl, _⟩ <;> rfl
/-- Ops that came in -/
def OArg (v : Value) (W : World) : Prop := v = .slice none 0 0 ∨ ∃ (ab ao n cap : Nat) (ks ms : Nat → Int) (xs : Nat → BitVec 64) (us : Nat → Value) (ls : Nat → Nat) (bs : Nat → Nat → BitVec 8), v = .slice (some ⟨ab, ao, none⟩) n cap ∧ n ≤ cap ∧ n ≤ 9223372036854775807 ∧ ∀ i, i < n → OpAt ab (ao + i * 4) (ks i) (ms i) (xs i) (us i) W ∧ PV (us i) (ls i) (bs i) W
set_option maxRecDepth 100000 in
theorem open_op {H : Type} {enc : TypeId × Value → H} {W : World} {base : Nat} {spare : Nat → Bool} {held : Bool} {n : Nat} {cs : List Value} {x : DataW H × List MemPlace} (h : DataW.trod enc Try.prog W base spare held n 31 cs = some x) :
    ∃ (k m : Int) (y : BitVec 64) (u : Value) (l : Nat) (b : Nat → BitVec 8), cs = [.int .i64 k, .int .i64 m, .int .u64 (y.toNat : Int), u] ∧ PV u l b W := by
  have hC : Try.prog.cellsOf 31 = 4 := by kernel_rfl
  have c3 : Try.prog.cellsOf 3 = 1 := by kernel_rfl
  have c29 : Try.prog.cellsOf 29 = 1 := by kernel_rfl
  have c22 : Try.prog.cellsOf 22 = 1 := by kernel_rfl
  obtain ⟨y0, y1, y2, y3, n', _, hl, h0, h1, h2, h3⟩ := Joins.trod_struct4 Try.underlying31 h
  rw [hC] at hl
  match cs, hl with
  | [v0, v1, v2, v3], _ =>
    simp only [c3, c29, c22, List.drop_succ_cons, List.drop_zero, List.take_succ_cons, List.take_zero] at h0 h1 h2 h3
    obtain ⟨k, e0, _, _⟩ := DataW.trod_int Try.underlying3 h0
    obtain ⟨m, e1, _, _⟩ := DataW.trod_int Try.underlying3 h1
    obtain ⟨y, e2, _, w2⟩ := DataW.trod_int Try.underlying29 h2
    obtain ⟨y', rfl⟩ := of_wf64 w2
    obtain ⟨u, l, b, e3, hp, _⟩ := open_piece h3
    simp only [List.cons.injEq, and_true] at e0 e1 e2 e3
    subst e0 e1 e2 e3
    exact ⟨k, m, y', _, l, b, rfl, hp⟩
set_option maxRecDepth 100000 in
theorem oarg {H : Type} {enc : TypeId × Value → H} {W : World} {r : Reach} {b0 base : Nat} {spare : Nat → Bool} {held : Bool} {v : Value} {d : DataW H} {p : List MemPlace}
    (hv : Value.okWide Try.prog W r b0 23 v) (h : DataW.Trod enc Try.prog W base spare held 23 v d p) : OArg v W := by
  obtain ⟨a, len, cap, rfl⟩ := okWide_slice Try.underlying23 hv
  obtain ⟨fuel, hf⟩ := h
  have hC : Try.prog.cellsOf 31 = 4 := by kernel_rfl
  rcases Go.Deep.open_slice Try.underlying23 hf with ⟨hcs, _⟩ | ⟨x, l, c, m, n, D, Pl, hcs, _, hl, hm, hmm, _, hx⟩
  · simp [Value.cells] at hcs
    obtain ⟨rfl, rfl, rfl⟩ := hcs
    exact .inl rfl
  · simp [Value.cells] at hcs
    obtain ⟨rfl, rfl, rfl⟩ := hcs
    have hsp : x.spot = none := by
      simp only [Value.okWide, Try.underlying23, Cell.okWide, Cell.ok] at hv
      exact hv.2.2.2.1
    have hadd : ∀ i, x.add i = ⟨x.block, x.off + i, none⟩ := fun i => by
      obtain ⟨xb, xo, xs⟩ := x
      cases hsp
      unfold Addr.add
      by_cases hi : i = 0
      · subst hi; simp
      · rw [if_neg hi]
    have hlm : len ≤ m := by rw [hmm]; split <;> omega
    have each : ∀ i, i < len → ∃ q : Int × Int × BitVec 64 × Value × Nat × (Nat → BitVec 8), OpAt x.block (x.off + i * 4) q.1 q.2.1 q.2.2.1 q.2.2.2.1 W ∧ PV q.2.2.2.1 q.2.2.2.2.1 q.2.2.2.2.2 W := by
      intro i hi
      obtain ⟨cs', h1, h2⟩ := hx i (by omega)
      rw [hC] at h1
      obtain ⟨_, hlen, hcell⟩ := World.cells?_some h1
      obtain ⟨k, m', y, u, l', b, rfl, hp⟩ := open_op h2
      refine ⟨(k, m', y, u, l', b), ⟨?_, ?_, ?_, ?_⟩, hp⟩
      · have e := hcell 0 (by omega)
        rw [add_add, hadd, ← Nat.add_assoc] at e
        simpa using e
      · have e := hcell 1 (by omega)
        rw [add_add, hadd, ← Nat.add_assoc] at e
        simpa using e
      · have e := hcell 2 (by omega)
        rw [add_add, hadd, ← Nat.add_assoc] at e
        simpa using e
      · have e := hcell 3 (by omega)
        rw [add_add, hadd, ← Nat.add_assoc] at e
        simpa using e
    obtain ⟨q, hq⟩ := Go.Deep.choose_lt each
    refine .inr ⟨x.block, x.off, len, cap, fun i => (q i).1, fun i => (q i).2.1, fun i => (q i).2.2.1, fun i => (q i).2.2.2.1, fun i => (q i).2.2.2.2.1, fun i => (q i).2.2.2.2.2, ?_, hl, ?_, hq⟩
    · rw [← addr_eta x hsp]
    · unfold maxLen at hm; omega
end Go.Proofs.Ytboncdlihgpepaa
