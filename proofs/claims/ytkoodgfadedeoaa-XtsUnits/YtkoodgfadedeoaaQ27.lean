/-
  The document's own New: facts on its cells. A slice of the call's own whose elements have several cells: what it holds, what keeps it, and append to it.
-/
import Derived.Test.YtkoodgfadedeoaaQ13
import Derived.Test.YtkoodgfadedeoaaQ24
import Derived.Test.YtkoodgfadedeoaaQ25
import Derived.Test.YtkoodgfadedeoaaQ26
import Derived.Test.YtkoodgfadedeoaaQ18
import Derived.Laws.AppendOwn
import Derived.OwnWalk
import Derived.Deep.CutRange
namespace Go.Proofs.Ytkoodgfadedeoaa
open Go.RowKit Go.BigFrame
def rcv (bx ub : Nat → BitVec 8) (j : Nat) : Value := if j = 0 then .slice none 0 0 else if j < 257 then yv bx (j - 1) else yv ub (j - 257)
def zr : List Value := row 513 (rcv (fun _ => 0#8) (fun _ => 0#8))
theorem zero47 (w : World) : Sem.run Try.prog (zeroValue 39) w = .ok (.agg zr.toArray) w := by kernel_rfl
theorem rcv_step (n : Nat) (hn : n < 256) (j : Nat) (hj : j < 513) : (if j = 257 + (bxT n).toNat then (Value.int .u8 (n : Int)) else rcv bxT (ubP n) j) = rcv bxT (ubP (n + 1)) j := by
  have hb := (bxT n).isLt
  unfold rcv
  by_cases h0 : j = 0
  · rw [if_neg (by omega), if_pos h0, if_pos h0]
  by_cases h1 : j < 257
  · rw [if_neg (by omega), if_neg h0, if_pos h1, if_neg h0, if_pos h1]
  · rw [if_neg h0, if_neg h1, if_neg h0, if_neg h1]
    by_cases e : j = 257 + (bxT n).toNat
    · subst e
      rw [if_pos rfl]
      simp only [yv, ubP, show 257 + (bxT n).toNat - 257 = (bxT n).toNat by omega, ub_bx n]
      rw [if_pos (by simp; omega), of8 n hn]
    · rw [if_neg e]
      have hne : (ubT (j - 257)).toNat ≠ n := fun h => e (by have := ub_eq n (j - 257) hn (by omega) h; omega)
      simp only [yv, ubP, show ((ubT (j - 257)).toNat < n + 1) ↔ ((ubT (j - 257)).toNat < n) by omega]
end Go.Proofs.Ytkoodgfadedeoaa
namespace Go.Proofs.Ytkoodgfadedeoaa
open Go.RowKit
/-- a slice of the call's own: n elements of s cells, told by g cell by cell, in a block at or behind base -/
def OwnN (base : Nat) (e : TypeId) (s : Nat) (v : Value) (n : Nat) (g : Nat → Value) (w : World) : Prop := w.ownsRow base e s v n (row (n * s) g)
section
variable {base : Nat} {e : TypeId} {s : Nat} {v : Value} {n : Nat} {g g' : Nat → Value} {w w' : World}
theorem OwnN.congr (h : OwnN base e s v n g w) (hg : ∀ j, j < n * s → g j = g' j) : OwnN base e s v n g' w := by
  unfold OwnN at h ⊢
  rw [← row_ext hg]
  exact h
theorem OwnN.kept {row : Option Nat} (h : OwnN base e s v n g w) (hg : w.grownBy w' row) (hne : v.ownBlock = none ∨ v.ownBlock ≠ row) : OwnN base e s v n g w' := World.ownsRow.kept h hg hne
theorem OwnN.alloc (h : OwnN base e s v n g w) (o : Obj) : OwnN base e s v n g (w.alloc o) := World.ownsRow.alloc h o
theorem OwnN.ext (h : OwnN base e s v n g w) (k : Ext w w') : OwnN base e s v n g w' :=
  World.ownsRow.kept (row := none) h ⟨Below.os k, Below.tape k, Below.output k, Below.size k, fun i hi _ => Below.block k i hi⟩ (by cases v.ownBlock <;> simp)
theorem OwnN.but {c : Nat} (h : OwnN base e s v n g w) (k : But c w w') (hc : v.ownBlock ≠ some c) : OwnN base e s v n g w' := World.ownsRow.kept h k (.inr hc)
theorem OwnN.lt (h : OwnN base e s v n g w) : ∀ k, v.ownBlock = some k → base ≤ k ∧ k < w.heap.size := World.ownsRow.lt h
/-- where it lies -/
theorem OwnN.lies (h : OwnN base e s v n g w) (hn : 0 < n) : ∃ b cap, v = .slice (some ⟨b, 0, none⟩) n cap ∧ base ≤ b ∧ n ≤ cap ∧ cap ≤ maxLen ∧ RowAt b (n * s) g w := by
  have h0 := h
  rcases h.2 with ⟨_, h2⟩ | ⟨b, cap, cur, rfl, hb, hg, hc, hm, _, ht⟩
  · omega
  · refine ⟨b, cap, rfl, hb, hc, hm, fun j hj => ?_, fun j hj => ?_, (Array.getElem?_eq_some_iff.1 hg).1⟩
    · have h1 := World.ownsRow.cells h0 (g := b) rfl j (g j) (row_get (n * s) g j hj)
      have hadd : (⟨b, 0, none⟩ : Addr).add j = ⟨b, j, none⟩ := by unfold Addr.add; split <;> simp_all
      rwa [hadd] at h1
    · simp [World.frozen?, hg]
theorem ownN_nil (w : World) (base : Nat) (e : TypeId) (s : Nat) (g : Nat → Value) : OwnN base e s (.slice none 0 0) 0 g w := by
  unfold OwnN
  rw [Nat.zero_mul]
  exact World.ownsRow_nil w base e s
/-- facts on the element's type -/
structure ElemN (P : Program) (t e : TypeId) (s : Nat) : Prop where
  slice : P.underlying t = some (.slice e)
  info : ∃ i z, P.info? e = some i ∧ i.zero = some z ∧ i.size = s ∧ i.bytes = s ∧ z.cells.size = s
/-- append of elements whose cells lie somewhere -/
theorem wpList_growN {P : Program} {ops : Array Oper} {rest : List Oper} {o : Oper} {a : Act} {Q : Exit → Act → World → Prop} {t : TypeId} (E : ElemN P t e s) (hs0 : 0 < s) (hgd : o.guard = none) (p x : Operand)
    (ho : o.op = .call { callee := .builtin .append, args := #[p, x], argTypes := #[t, t] }) (hs : a.eval p = v) (hown : OwnN base e s v n g w)
    (ad : Addr) (m c : Nat) (u f : Nat → Value) (hx : a.eval x = .slice (some ad) m c) (hl : LieAt ad (m * s) u w) (h1 : ∀ j, j < m * s → (u j).oneCell' = true) (hf1 : ∀ j, j < n * s → g j = f j) (hf2 : ∀ j, j < m * s → u j = f (n * s + j))
    (hbytes : (n + m) * s ≤ 140737488355328) (hbase : base ≤ w.heap.size)
    (h : ∀ v' w', OwnN base e s v' (n + m) f w' → w.grownBy w' v.ownBlock → (v' = .slice none 0 0 ↔ v = .slice none 0 0 ∧ m = 0) → wpList P ops Q rest (a.put o.dst v') w') : wpList P ops Q (o :: rest) a w := by
  obtain ⟨i, z, e1, e2, e3, e4, e5⟩ := E.info
  have hle : n + m ≤ (n + m) * s := Nat.le_mul_of_pos_right _ hs0
  refine wpList_append_own w hgd p x t ho base e i z s s E.slice e1 e2 e3 e4 e5 hs0 v n (row (n * s) g) hs hown ad m c (row (m * s) u) hx (row_length _ _) (fun j w0 hj => ?_) (fun w0 hw0 => ?_) (by unfold maxLen; omega) hbytes hbase fun v' w' h2 h3 h4 => h v' w' ?_ h3 h4
  · obtain ⟨hj', rfl⟩ := row_some hj
    exact hl.1 j hj'
  · obtain ⟨j, hj, rfl⟩ := List.mem_map.1 hw0
    exact h1 j (by simpa using hj)
  · unfold OwnN
    rwa [row_append (n * s) (m * s) g u f hf1 hf2, ← Nat.add_mul] at h2
end
theorem elem_n {P : Program} {t e : TypeId} {s : Nat} (hs : P.underlying t = some (.slice e)) (h1 : (P.info? e).map (·.size) = some s) (h2 : (P.info? e).map (·.bytes) = some s) (h3 : ((P.info? e).bind (·.zero)).map (·.cells.size) = some s) : ElemN P t e s := by
  refine ⟨hs, ?_⟩
  cases hi : P.info? e with
  | none => rw [hi] at h1; cases h1
  | some i =>
    rw [hi] at h1 h2 h3
    simp only [Option.map_some, Option.some.injEq, Option.bind_some] at h1 h2 h3
    cases hz : i.zero with
    | none => rw [hz] at h3; cases h3
    | some z =>
      rw [hz] at h3
      simp only [Option.map_some, Option.some.injEq] at h3
      exact ⟨i, z, rfl, hz, h1, h2, h3⟩
end Go.Proofs.Ytkoodgfadedeoaa
