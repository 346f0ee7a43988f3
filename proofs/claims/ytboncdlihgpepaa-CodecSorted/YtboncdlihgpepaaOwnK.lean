/-
  Slices of the call's own whose elements have K cells: how they grow by append, how they lie; no word of the program.
-/
import Derived.Test.YtboncdlihgpepaaOwn
namespace Go.Proofs.Ytboncdlihgpepaa
open Go.RowKit Go.BigFrame
/-- facts on the element's type: K cells, B bytes -/
structure ElemK (P : Program) (t e : TypeId) (K B : Nat) : Prop where
  slice : P.underlying t = some (.slice e)
  info : ∃ i z, P.info? e = some i ∧ i.zero = some z ∧ i.size = K ∧ i.bytes = B ∧ z.cells.size = K
theorem elem_k {P : Program} {t e : TypeId} {K B : Nat} (hs : P.underlying t = some (.slice e)) (h1 : (P.info? e).map (·.size) = some K) (h2 : (P.info? e).map (·.bytes) = some B) (h3 : ((P.info? e).bind (·.zero)).map (·.cells.size) = some K) : ElemK P t e K B := by
  refine ⟨hs, ?_⟩
  cases hi : P.info? e with
  | none => rw [hi] at h1; cases h1
  | some i =>
    rw [hi] at h1 h2 h3
    simp only [Option.map_some, Option.some.injEq, Option.bind_some] at h1 h2 h3
    cases hz : i.zero with
    | none => rw [hz] at h3; cases h3
    | some z =>
      rw [hz] at h3
      simp only [Option.map_some, Option.some.injEq] at h3
      exact ⟨i, z, rfl, hz, h1, h2, h3⟩
/-- n elements of K cells, told by g over the cells, in a block at or behind base -/
def OwnK (K base : Nat) (e : TypeId) (v : Value) (n : Nat) (g : Nat → Value) (w : World) : Prop := w.ownsRow base e K v n (row (n * K) g)
section
variable {K base : Nat} {e : TypeId} {v : Value} {n B : Nat} {g g' : Nat → Value} {w w' : World}
theorem OwnK.congr (h : OwnK K base e v n g w) (hg : ∀ j, j < n * K → g j = g' j) : OwnK K base e v n g' w := by
  unfold OwnK at h ⊢
  rw [← row_ext hg]
  exact h
theorem OwnK.ext (h : OwnK K base e v n g w) (k : Ext w w') : OwnK K base e v n g w' :=
  World.ownsRow.kept (row := none) h ⟨Below.os k, Below.tape k, Below.output k, Below.size k, fun i hi _ => Below.block k i hi⟩ (by cases v.ownBlock <;> simp)
theorem OwnK.but {c : Nat} (h : OwnK K base e v n g w) (k : But c w w') (hc : v.ownBlock ≠ some c) : OwnK K base e v n g w' := World.ownsRow.kept h k (.inr hc)
theorem OwnK.kept {row : Option Nat} (h : OwnK K base e v n g w) (hg : w.grownBy w' row) (hne : v.ownBlock = none ∨ v.ownBlock ≠ row) : OwnK K base e v n g w' := World.ownsRow.kept h hg hne
theorem OwnK.lt (h : OwnK K base e v n g w) : ∀ k, v.ownBlock = some k → base ≤ k ∧ k < w.heap.size := World.ownsRow.lt h
theorem OwnK.form (h : OwnK K base e v n g w) : ∃ o cp, v = .slice o n cp := by
  rcases h.2 with ⟨h1, h0⟩ | ⟨k, cap, cur, hv, _⟩
  · exact ⟨none, 0, by rw [h1, h0]⟩
  · exact ⟨_, _, hv⟩
theorem ownK_nil (w : World) (K base : Nat) (e : TypeId) (g : Nat → Value) : OwnK K base e (.slice none 0 0) 0 g w := by
  unfold OwnK
  rw [Nat.zero_mul]
  exact World.ownsRow_nil w base e K
/-- where it lies -/
theorem OwnK.lies (h : OwnK K base e v n g w) (hn : 0 < n) : ∃ b cap, v = .slice (some ⟨b, 0, none⟩) n cap ∧ base ≤ b ∧ n ≤ cap ∧ cap ≤ maxLen ∧ RowAt b (n * K) g w := by
  have h0 := h
  rcases h.2 with ⟨_, h2⟩ | ⟨b, cap, cur, rfl, hb, hg, hc, hm, _, ht⟩
  · omega
  · refine ⟨b, cap, rfl, hb, hc, hm, fun j hj => ?_, fun j hj => ?_, (Array.getElem?_eq_some_iff.1 hg).1⟩
    · have h1 := World.ownsRow.cells h0 (g := b) rfl j (g j) (row_get (n * K) g j hj)
      have hadd : (⟨b, 0, none⟩ : Addr).add j = ⟨b, j, none⟩ := by unfold Addr.add; split <;> simp_all
      rwa [hadd] at h1
    · simp [World.frozen?, hg]
/-- append of elements that lie somewhere -/
theorem wpList_growK {P : Program} {ops : Array Oper} {rest : List Oper} {o : Oper} {a : Act} {Q : Exit → Act → World → Prop} {t : TypeId} (E : ElemK P t e K B) (hK : 0 < K) (hgd : o.guard = none) (s x : Operand)
    (ho : o.op = .call { callee := .builtin .append, args := #[s, x], argTypes := #[t, t] }) (hs : a.eval s = v) (hown : OwnK K base e v n g w)
    (ad : Addr) (m c : Nat) (u f : Nat → Value) (hx : a.eval x = .slice (some ad) m c) (hl : LieAt ad (m * K) u w) (h1 : ∀ j, j < m * K → (u j).oneCell' = true) (hf1 : ∀ j, j < n * K → g j = f j) (hf2 : ∀ j, j < m * K → u j = f (n * K + j))
    (hbytes : (n + m) * B ≤ 140737488355328) (h63 : n + m ≤ 140737488355328) (hbase : base ≤ w.heap.size)
    (h : ∀ v' w', OwnK K base e v' (n + m) f w' → w.grownBy w' v.ownBlock → wpList P ops Q rest (a.put o.dst v') w') : wpList P ops Q (o :: rest) a w := by
  obtain ⟨i, z, e1, e2, e3, e4, e5⟩ := E.info
  refine wpList_append_own w hgd s x t ho base e i z K B E.slice e1 e2 e3 e4 e5 hK v n (row (n * K) g) hs hown ad m c (row (m * K) u) hx (by rw [row_length]) (fun j w0 hj => ?_) (fun w0 hw0 => ?_) (by unfold maxLen; omega) hbytes hbase fun v' w' h2 h3 _ => h v' w' ?_ h3
  · obtain ⟨hj', rfl⟩ := row_some hj
    exact hl.1 j hj'
  · obtain ⟨j, hj, rfl⟩ := List.mem_map.1 hw0
    exact h1 j (by simpa using hj)
  · unfold OwnK
    rw [row_append (n * K) (m * K) g u f hf1 hf2, ← Nat.add_mul] at h2
    exact h2
end
end Go.Proofs.Ytboncdlihgpepaa
