/-
  A slice of the call's own whose elements have several cells: what it holds, what keeps it, and append to it. The document's own New: the Cipher as it is built, and the types of its slices.
-/
import Derived.Test.YtkoodgfadedeoaaQ15
import Derived.Test.YtkoodgfadedeoaaQ28
import Derived.Laws.Tables
namespace Go.Proofs.Ytkoodgfadedeoaa
open Go.RowKit
/-- a slice of the call's own: n elements of s cells, told by g cell by cell, in a block at or behind base -/
def OwnN (base : Nat) (e : TypeId) (s : Nat) (v : Value) (n : Nat) (g : Nat → Value) (w : World) : Prop := w.ownsRow base e s v n (row (n * s) g)
section
variable {base : Nat} {e : TypeId} {s : Nat} {v : Value} {n : Nat} {g g' : Nat → Value} {w w' : World}
theorem OwnN.congr (h : OwnN base e s v n g w) (hg : ∀ j, j < n * s → g j = g' j) : OwnN base e s v n g' w := by
  unfold OwnN at h ⊢
  rw [← row_ext hg]
  exact h
theorem OwnN.kept {row : Option Nat} (h : OwnN base e s v n g w) (hg : w.grownBy w' row) (hne : v.ownBlock = none ∨ v.ownBlock ≠ row) : OwnN base e s v n g w' := World.ownsRow.kept h hg hne
theorem OwnN.alloc (h : OwnN base e s v n g w) (o : Obj) : OwnN base e s v n g (w.alloc o) := World.ownsRow.alloc h o
theorem OwnN.ext (h : OwnN base e s v n g w) (k : Ext w w') : OwnN base e s v n g w' :=
  World.ownsRow.kept (row := none) h ⟨Below.os k, Below.tape k, Below.output k, Below.size k, fun i hi _ => Below.block k i hi⟩ (by cases v.ownBlock <;> simp)
theorem OwnN.but {c : Nat} (h : OwnN base e s v n g w) (k : But c w w') (hc : v.ownBlock ≠ some c) : OwnN base e s v n g w' := World.ownsRow.kept h k (.inr hc)
theorem OwnN.lt (h : OwnN base e s v n g w) : ∀ k, v.ownBlock = some k → base ≤ k ∧ k < w.heap.size := World.ownsRow.lt h
/-- where it lies -/
theorem OwnN.lies (h : OwnN base e s v n g w) (hn : 0 < n) : ∃ b cap, v = .slice (some ⟨b, 0, none⟩) n cap ∧ base ≤ b ∧ n ≤ cap ∧ cap ≤ maxLen ∧ RowAt b (n * s) g w := by
  have h0 := h
  rcases h.2 with ⟨_, h2⟩ | ⟨b, cap, cur, rfl, hb, hg, hc, hm, _, ht⟩
  · omega
  · refine ⟨b, cap, rfl, hb, hc, hm, fun j hj => ?_, fun j hj => ?_, (Array.getElem?_eq_some_iff.1 hg).1⟩
    · have h1 := World.ownsRow.cells h0 (g := b) rfl j (g j) (row_get (n * s) g j hj)
      have hadd : (⟨b, 0, none⟩ : Addr).add j = ⟨b, j, none⟩ := by unfold Addr.add; split <;> simp_all
      rwa [hadd] at h1
    · simp [World.frozen?, hg]
theorem ownN_nil (w : World) (base : Nat) (e : TypeId) (s : Nat) (g : Nat → Value) : OwnN base e s (.slice none 0 0) 0 g w := by
  unfold OwnN
  rw [Nat.zero_mul]
  exact World.ownsRow_nil w base e s
/-- facts on the element's type -/
structure ElemN (P : Program) (t e : TypeId) (s : Nat) : Prop where
  slice : P.underlying t = some (.slice e)
  info : ∃ i z, P.info? e = some i ∧ i.zero = some z ∧ i.size = s ∧ i.bytes = s ∧ z.cells.size = s
/-- append of elements whose cells lie somewhere -/
theorem wpList_growN {P : Program} {ops : Array Oper} {rest : List Oper} {o : Oper} {a : Act} {Q : Exit → Act → World → Prop} {t : TypeId} (E : ElemN P t e s) (hs0 : 0 < s) (hgd : o.guard = none) (p x : Operand)
    (ho : o.op = .call { callee := .builtin .append, args := #[p, x], argTypes := #[t, t] }) (hs : a.eval p = v) (hown : OwnN base e s v n g w)
    (ad : Addr) (m c : Nat) (u f : Nat → Value) (hx : a.eval x = .slice (some ad) m c) (hl : LieAt ad (m * s) u w) (h1 : ∀ j, j < m * s → (u j).oneCell' = true) (hf1 : ∀ j, j < n * s → g j = f j) (hf2 : ∀ j, j < m * s → u j = f (n * s + j))
    (hbytes : (n + m) * s ≤ 140737488355328) (hbase : base ≤ w.heap.size)
    (h : ∀ v' w', OwnN base e s v' (n + m) f w' → w.grownBy w' v.ownBlock → (v' = .slice none 0 0 ↔ v = .slice none 0 0 ∧ m = 0) → wpList P ops Q rest (a.put o.dst v') w') : wpList P ops Q (o :: rest) a w := by
  obtain ⟨i, z, e1, e2, e3, e4, e5⟩ := E.info
  have hle : n + m ≤ (n + m) * s := Nat.le_mul_of_pos_right _ hs0
  refine wpList_append_own w hgd p x t ho base e i z s s E.slice e1 e2 e3 e4 e5 hs0 v n (row (n * s) g) hs hown ad m c (row (m * s) u) hx (row_length _ _) (fun j w0 hj => ?_) (fun w0 hw0 => ?_) (by unfold maxLen; omega) hbytes hbase fun v' w' h2 h3 h4 => h v' w' ?_ h3 h4
  · obtain ⟨hj', rfl⟩ := row_some hj
    exact hl.1 j hj'
  · obtain ⟨j, hj, rfl⟩ := List.mem_map.1 hw0
    exact h1 j (by simpa using hj)
  · unfold OwnN
    rwa [row_append (n * s) (m * s) g u f hf1 hf2, ← Nat.add_mul] at h2
end
theorem elem_n {P : Program} {t e : TypeId} {s : Nat} (hs : P.underlying t = some (.slice e)) (h1 : (P.info? e).map (·.size) = some s) (h2 : (P.info? e).map (·.bytes) = some s) (h3 : ((P.info? e).bind (·.zero)).map (·.cells.size) = some s) : ElemN P t e s := by
  refine ⟨hs, ?_⟩
  cases hi : P.info? e with
  | none => rw [hi] at h1; cases h1
  | some i =>
    rw [hi] at h1 h2 h3
    simp only [Option.map_some, Option.some.injEq, Option.bind_some] at h1 h2 h3
    cases hz : i.zero with
    | none => rw [hz] at h3; cases h3
    | some z =>
      rw [hz] at h3
      simp only [Option.map_some, Option.some.injEq] at h3
      exact ⟨i, z, rfl, hz, h1, h2, h3⟩
end Go.Proofs.Ytkoodgfadedeoaa
namespace Go.Proofs.Ytkoodgfadedeoaa
open Go.RowKit
set_option maxRecDepth 100000 in
theorem built39 (b : Nat → BitVec 8) : Try.prog.built 39 [(1, .agg (row 256 (yv b)).toArray)] = some (row 513 (rcv b (fun _ => 0#8))).toArray := by kernel_rfl
theorem build39 (b : Nat → BitVec 8) (w : World) : (Instr.build 39 #[(1, .agg (row 256 (yv b)).toArray)]).run Try.prog w = .ok (.agg (row 513 (rcv b (fun _ => 0#8))).toArray) w := run_build w 39 _ _ (built39 b)
theorem elem63 : ElemN Try.prog 63 64 4 := elem_n Try.underlying63 (by kernel_rfl) (by kernel_rfl) (by kernel_rfl)
theorem elem36 : ElemN Try.prog 36 23 16 := elem_n Try.underlying36 (by kernel_rfl) (by kernel_rfl) (by kernel_rfl)
theorem lie_row {b n : Nat} {g : Nat → Value} {w : World} (h : RowAt b n g w) : LieAt ⟨b, 0, none⟩ n g w := ⟨fun j hj => by
  have hadd : (⟨b, 0, none⟩ : Addr).add j = ⟨b, j, none⟩ := by unfold Addr.add; split <;> simp_all
  rw [hadd]
  exact h.1 j hj, h.2.2⟩
theorem grown_ext {w X Y : World} {row : Option Nat} (h : Ext w X) (hg : X.grownBy Y row) (hr : ∀ k, row = some k → w.heap.size ≤ k) : Ext w Y := Below.trans h (below_grown (Below.size h) hg hr)
theorem bslice63 (y0 y1 y2 y3 : Value) (w : World) : (Instr.buildSlice 63 1 #[(0, .agg #[y0, y1, y2, y3])]).run Try.prog w = .ok (.slice (some ⟨w.heap.size, 0, none⟩) 1 1) (w.alloc (.cells #[y0, y1, y2, y3] 64)) := by kernel_rfl
end Go.Proofs.Ytkoodgfadedeoaa
