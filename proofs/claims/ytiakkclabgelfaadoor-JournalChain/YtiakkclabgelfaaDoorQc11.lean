/-
  How arrays of bytes and of words that came in read. Slices of integers that a call has made for itself: how they grow by append, how they lie; no word of the program.
-/
import Derived.Test.YtiakkclabgelfaaDoorQc10
import Derived.ProofKit
import Derived.OpenShut
import Derived.Test.YtiakkclabgelfaaDoorQc7
import Derived.Laws.AppendOwn
import Derived.Laws.AppendOwnNone
namespace Go.Proofs.YtiakkclabgelfaaDoor
set_option maxRecDepth 20000
open Go.ChangeShapes Go.WideShapes Go.ChangeAt Go.RowKit
theorem of_wf8 {n : Int} (h : (Lit.int .u8 n).wf = true) : ∃ a : BitVec 8, n = (a.toNat : Int) := by
  have hb := bounds_u8 h
  exact ⟨BitVec.ofNat 8 n.toNat, by rw [BitVec.toNat_ofNat]; omega⟩
end Go.Proofs.YtiakkclabgelfaaDoor
namespace Go.Proofs.YtiakkclabgelfaaDoor
open Go.RowKit Go.BigFrame
theorem RowAt.grown {b n : Nat} {g : Nat → Value} {w w' : World} {row : Option Nat} (h : RowAt b n g w) (hg : w.grownBy w' row) (hne : some b ≠ row) : RowAt b n g w' :=
  ⟨fun j hj => (World.cell?_of_block (a := ⟨b, j, none⟩) (hg.block b h.2.2 hne)).trans (h.1 j hj), fun j hj => (World.frozen?_of_block (a := ⟨b, j, none⟩) (hg.block b h.2.2 hne)).trans (h.2.1 j hj), Nat.lt_of_lt_of_le h.2.2 hg.size⟩
theorem below_grown {B : Nat} {w w' : World} {row : Option Nat} (hB : B ≤ w.heap.size) (hg : w.grownBy w' row) (hr : ∀ k, row = some k → B ≤ k) : Below B w w' :=
  ⟨hg.os, hg.tape, hg.output, hg.size, fun k hk => hg.block k (by omega) (fun e => by have := hr k e.symm; omega)⟩
theorem row_append (m n : Nat) (f g h : Nat → Value) (h1 : ∀ j, j < m → f j = h j) (h2 : ∀ j, j < n → g j = h (m + j)) : row m f ++ row n g = row (m + n) h := by
  apply List.ext_getElem?
  intro i
  rw [List.getElem?_append, row_length]
  by_cases hi : i < m
  · rw [if_pos hi, row_get m f i hi, row_get (m + n) h i (by omega), h1 i hi]
  · rw [if_neg hi]
    by_cases hi2 : i < m + n
    · rw [row_get n g (i - m) (by omega), row_get (m + n) h i hi2, h2 (i - m) (by omega), show m + (i - m) = i by omega]
    · rw [List.getElem?_eq_none (by rw [row_length]; omega), List.getElem?_eq_none (by rw [row_length]; omega)]
def OwnB (base : Nat) (e : TypeId) (v : Value) (n : Nat) (g : Nat → Value) (w : World) : Prop := w.ownsRow base e 1 v n (row n g)
section
variable {base : Nat} {e : TypeId} {v : Value} {n : Nat} {g g' : Nat → Value} {w w' : World}
theorem OwnB.congr (h : OwnB base e v n g w) (hg : ∀ j, j < n → g j = g' j) : OwnB base e v n g' w := by
  unfold OwnB at h ⊢
  rw [← row_ext hg]
  exact h
theorem OwnB.kept {row : Option Nat} (h : OwnB base e v n g w) (hg : w.grownBy w' row) (hne : v.ownBlock = none ∨ v.ownBlock ≠ row) : OwnB base e v n g w' := World.ownsRow.kept h hg hne
theorem OwnB.alloc (h : OwnB base e v n g w) (o : Obj) : OwnB base e v n g (w.alloc o) := World.ownsRow.alloc h o
theorem OwnB.ext (h : OwnB base e v n g w) (k : Ext w w') : OwnB base e v n g w' :=
  World.ownsRow.kept (row := none) h ⟨Below.os k, Below.tape k, Below.output k, Below.size k, fun i hi _ => Below.block k i hi⟩ (by cases v.ownBlock <;> simp)
theorem OwnB.but {c : Nat} (h : OwnB base e v n g w) (k : But c w w') (hc : v.ownBlock ≠ some c) : OwnB base e v n g w' := World.ownsRow.kept h k (.inr hc)
theorem OwnB.lt (h : OwnB base e v n g w) : ∀ k, v.ownBlock = some k → base ≤ k ∧ k < w.heap.size := World.ownsRow.lt h
theorem OwnB.lies (h : OwnB base e v n g w) (hn : 0 < n) : ∃ b cap, v = .slice (some ⟨b, 0, none⟩) n cap ∧ base ≤ b ∧ n ≤ cap ∧ cap ≤ maxLen ∧ RowAt b n g w := by
  have h0 := h
  rcases h.2 with ⟨_, h2⟩ | ⟨b, cap, cur, rfl, hb, hg, hc, hm, _, ht⟩
  · omega
  · refine ⟨b, cap, rfl, hb, hc, hm, fun j hj => ?_, fun j hj => ?_, (Array.getElem?_eq_some_iff.1 hg).1⟩
    · have h1 := World.ownsRow.cells h0 (g := b) rfl j (g j) (row_get n g j hj)
      have hadd : (⟨b, 0, none⟩ : Addr).add j = ⟨b, j, none⟩ := by unfold Addr.add; split <;> simp_all
      rwa [hadd] at h1
    · simp [World.frozen?, hg]
theorem own_empty (w : World) (base : Nat) (e : TypeId) (g : Nat → Value) (hb : base ≤ w.heap.size) : OwnB base e (.slice (some ⟨w.heap.size, 0, none⟩) 0 0) 0 g (w.alloc (.cells #[] e)) :=
  World.ownsRow_made w #[] 0 hb (Nat.zero_le _) (by simp)
theorem own_nil (w : World) (base : Nat) (e : TypeId) (g : Nat → Value) : OwnB base e (.slice none 0 0) 0 g w := World.ownsRow_nil w base e 1
structure ElemIs (P : Program) (t e : TypeId) : Prop where
  slice : P.underlying t = some (.slice e)
  info : ∃ i z, P.info? e = some i ∧ i.zero = some z ∧ i.size = 1 ∧ i.bytes = 1 ∧ z.cells.size = 1
theorem wpList_grow {P : Program} {ops : Array Oper} {rest : List Oper} {o : Oper} {a : Act} {Q : Exit → Act → World → Prop} {t : TypeId} (E : ElemIs P t e) (hgd : o.guard = none) (s x : Operand)
    (ho : o.op = .call { callee := .builtin .append, args := #[s, x], argTypes := #[t, t] }) (hs : a.eval s = v) (hown : OwnB base e v n g w)
    (ad : Addr) (m c : Nat) (u f : Nat → Value) (hx : a.eval x = .slice (some ad) m c) (hl : LieAt ad m u w) (h1 : ∀ j, j < m → (u j).oneCell' = true) (hf1 : ∀ j, j < n → g j = f j) (hf2 : ∀ j, j < m → u j = f (n + j))
    (hbytes : n + m ≤ 140737488355328) (hbase : base ≤ w.heap.size)
    (h : ∀ v' w', OwnB base e v' (n + m) f w' → w.grownBy w' v.ownBlock → wpList P ops Q rest (a.put o.dst v') w') : wpList P ops Q (o :: rest) a w := by
  obtain ⟨i, z, e1, e2, e3, e4, e5⟩ := E.info
  refine wpList_append_own w hgd s x t ho base e i z 1 1 E.slice e1 e2 e3 e4 e5 (by decide) v n (row n g) hs hown ad m c (row m u) hx (by rw [row_length]; omega) (fun j w0 hj => ?_) (fun w0 hw0 => ?_) (by unfold maxLen; omega) (by omega) hbase fun v' w' h2 h3 _ => h v' w' ?_ h3
  · obtain ⟨hj', rfl⟩ := row_some hj
    exact hl.1 j hj'
  · obtain ⟨j, hj, rfl⟩ := List.mem_map.1 hw0
    exact h1 j (by simpa using hj)
  · unfold OwnB
    rwa [row_append n m g u f hf1 hf2] at h2
theorem wpList_grow_none {P : Program} {ops : Array Oper} {rest : List Oper} {o : Oper} {a : Act} {Q : Exit → Act → World → Prop} {t : TypeId} (E : ElemIs P t e) (hgd : o.guard = none) (s x : Operand)
    (ho : o.op = .call { callee := .builtin .append, args := #[s, x], argTypes := #[t, t] }) (hs : a.eval s = v) (hown : OwnB base e v n g w) (hx : a.eval x = .slice none 0 0)
    (h : wpList P ops Q rest (a.put o.dst v) w) : wpList P ops Q (o :: rest) a w := by
  obtain ⟨i, z, e1, e2, e3, e4, e5⟩ := E.info
  exact wpList_append_own_none hgd s x t ho base e i 1 E.slice e1 v n (row n g) hs hown hx h
end
theorem elem_is {P : Program} {t e : TypeId} (hs : P.underlying t = some (.slice e)) (h1 : (P.info? e).map (·.size) = some 1) (h2 : (P.info? e).map (·.bytes) = some 1) (h3 : ((P.info? e).bind (·.zero)).map (·.cells.size) = some 1) : ElemIs P t e := by
  refine ⟨hs, ?_⟩
  cases hi : P.info? e with
  | none => rw [hi] at h1; cases h1
  | some i =>
    rw [hi] at h1 h2 h3
    simp only [Option.map_some, Option.some.injEq, Option.bind_some] at h1 h2 h3
    cases hz : i.zero with
    | none => rw [hz] at h3; cases h3
    | some z =>
      rw [hz] at h3
      simp only [Option.map_some, Option.some.injEq] at h3
      exact ⟨i, z, rfl, hz, h1, h2, h3⟩
end Go.Proofs.YtiakkclabgelfaaDoor
