/-
  Slices of integers that a call has made for itself: how they grow by append, how they lie; no word of the program. Bytes, nil or not, wherever they lie; parts one behind the other.
-/
import Derived.Test.YtfaeieaelfjlpaaQ4
import Derived.Laws.AppendOwn
import Derived.Laws.AppendOwnNone
import Derived.Test.YtfaeieaelfjlpaaQ3
import Derived.Lib.SlBytesConst
namespace Go.Proofs.Ytfaeieaelfjlpaa
open Go.RowKit Go.BigFrame
theorem RowAt.grown {b n : Nat} {g : Nat → Value} {w w' : World} {row : Option Nat} (h : RowAt b n g w) (hg : w.grownBy w' row) (hne : some b ≠ row) : RowAt b n g w' :=
  ⟨fun j hj => (World.cell?_of_block (a := ⟨b, j, none⟩) (hg.block b h.2.2 hne)).trans (h.1 j hj), fun j hj => (World.frozen?_of_block (a := ⟨b, j, none⟩) (hg.block b h.2.2 hne)).trans (h.2.1 j hj), Nat.lt_of_lt_of_le h.2.2 hg.size⟩
theorem below_grown {B : Nat} {w w' : World} {row : Option Nat} (hB : B ≤ w.heap.size) (hg : w.grownBy w' row) (hr : ∀ k, row = some k → B ≤ k) : Below B w w' :=
  ⟨hg.os, hg.tape, hg.output, hg.size, fun k hk => hg.block k (by omega) (fun e => by have := hr k e.symm; omega)⟩
theorem row_append (m n : Nat) (f g h : Nat → Value) (h1 : ∀ j, j < m → f j = h j) (h2 : ∀ j, j < n → g j = h (m + j)) : row m f ++ row n g = row (m + n) h := by
  apply List.ext_getElem?
  intro i
  rw [List.getElem?_append, row_length]
  by_cases hi : i < m
  · rw [if_pos hi, row_get m f i hi, row_get (m + n) h i (by omega), h1 i hi]
  · rw [if_neg hi]
    by_cases hi2 : i < m + n
    · rw [row_get n g (i - m) (by omega), row_get (m + n) h i hi2, h2 (i - m) (by omega), show m + (i - m) = i by omega]
    · rw [List.getElem?_eq_none (by rw [row_length]; omega), List.getElem?_eq_none (by rw [row_length]; omega)]
/-- a slice of the call's own: n cells told by g, in a block at or behind base -/
def OwnB (base : Nat) (e : TypeId) (v : Value) (n : Nat) (g : Nat → Value) (w : World) : Prop := w.ownsRow base e 1 v n (row n g)
section
variable {base : Nat} {e : TypeId} {v : Value} {n : Nat} {g g' : Nat → Value} {w w' : World}
theorem OwnB.congr (h : OwnB base e v n g w) (hg : ∀ j, j < n → g j = g' j) : OwnB base e v n g' w := by
  unfold OwnB at h ⊢
  rw [← row_ext hg]
  exact h
theorem OwnB.kept {row : Option Nat} (h : OwnB base e v n g w) (hg : w.grownBy w' row) (hne : v.ownBlock = none ∨ v.ownBlock ≠ row) : OwnB base e v n g w' := World.ownsRow.kept h hg hne
theorem OwnB.alloc (h : OwnB base e v n g w) (o : Obj) : OwnB base e v n g (w.alloc o) := World.ownsRow.alloc h o
theorem OwnB.ext (h : OwnB base e v n g w) (k : Ext w w') : OwnB base e v n g w' :=
  World.ownsRow.kept (row := none) h ⟨Below.os k, Below.tape k, Below.output k, Below.size k, fun i hi _ => Below.block k i hi⟩ (by cases v.ownBlock <;> simp)
theorem OwnB.but {c : Nat} (h : OwnB base e v n g w) (k : But c w w') (hc : v.ownBlock ≠ some c) : OwnB base e v n g w' := World.ownsRow.kept h k (.inr hc)
theorem OwnB.lt (h : OwnB base e v n g w) : ∀ k, v.ownBlock = some k → base ≤ k ∧ k < w.heap.size := World.ownsRow.lt h
/-- where it lies -/
theorem OwnB.lies (h : OwnB base e v n g w) (hn : 0 < n) : ∃ b cap, v = .slice (some ⟨b, 0, none⟩) n cap ∧ base ≤ b ∧ n ≤ cap ∧ cap ≤ maxLen ∧ RowAt b n g w := by
  have h0 := h
  rcases h.2 with ⟨_, h2⟩ | ⟨b, cap, cur, rfl, hb, hg, hc, hm, _, ht⟩
  · omega
  · refine ⟨b, cap, rfl, hb, hc, hm, fun j hj => ?_, fun j hj => ?_, (Array.getElem?_eq_some_iff.1 hg).1⟩
    · have h1 := World.ownsRow.cells h0 (g := b) rfl j (g j) (row_get n g j hj)
      have hadd : (⟨b, 0, none⟩ : Addr).add j = ⟨b, j, none⟩ := by unfold Addr.add; split <;> simp_all
      rwa [hadd] at h1
    · simp [World.frozen?, hg]
/-- an empty one, just made -/
theorem own_empty (w : World) (base : Nat) (e : TypeId) (g : Nat → Value) (hb : base ≤ w.heap.size) : OwnB base e (.slice (some ⟨w.heap.size, 0, none⟩) 0 0) 0 g (w.alloc (.cells #[] e)) :=
  World.ownsRow_made w #[] 0 hb (Nat.zero_le _) (by simp)
theorem own_nil (w : World) (base : Nat) (e : TypeId) (g : Nat → Value) : OwnB base e (.slice none 0 0) 0 g w := World.ownsRow_nil w base e 1
/-- facts on the element's type -/
structure ElemIs (P : Program) (t e : TypeId) : Prop where
  slice : P.underlying t = some (.slice e)
  info : ∃ i z, P.info? e = some i ∧ i.zero = some z ∧ i.size = 1 ∧ i.bytes = 1 ∧ z.cells.size = 1
/-- append of cells that lie somewhere -/
theorem wpList_grow {P : Program} {ops : Array Oper} {rest : List Oper} {o : Oper} {a : Act} {Q : Exit → Act → World → Prop} {t : TypeId} (E : ElemIs P t e) (hgd : o.guard = none) (s x : Operand)
    (ho : o.op = .call { callee := .builtin .append, args := #[s, x], argTypes := #[t, t] }) (hs : a.eval s = v) (hown : OwnB base e v n g w)
    (ad : Addr) (m c : Nat) (u f : Nat → Value) (hx : a.eval x = .slice (some ad) m c) (hl : LieAt ad m u w) (h1 : ∀ j, j < m → (u j).oneCell' = true) (hf1 : ∀ j, j < n → g j = f j) (hf2 : ∀ j, j < m → u j = f (n + j))
    (hbytes : n + m ≤ 140737488355328) (hbase : base ≤ w.heap.size)
    (h : ∀ v' w', OwnB base e v' (n + m) f w' → w.grownBy w' v.ownBlock → wpList P ops Q rest (a.put o.dst v') w') : wpList P ops Q (o :: rest) a w := by
  obtain ⟨i, z, e1, e2, e3, e4, e5⟩ := E.info
  refine wpList_append_own w hgd s x t ho base e i z 1 1 E.slice e1 e2 e3 e4 e5 (by decide) v n (row n g) hs hown ad m c (row m u) hx (by rw [row_length]; omega) (fun j w0 hj => ?_) (fun w0 hw0 => ?_) (by unfold maxLen; omega) (by omega) hbase fun v' w' h2 h3 _ => h v' w' ?_ h3
  · obtain ⟨hj', rfl⟩ := row_some hj
    exact hl.1 j hj'
  · obtain ⟨j, hj, rfl⟩ := List.mem_map.1 hw0
    exact h1 j (by simpa using hj)
  · unfold OwnB
    rwa [row_append n m g u f hf1 hf2] at h2
theorem wpList_grow_none {P : Program} {ops : Array Oper} {rest : List Oper} {o : Oper} {a : Act} {Q : Exit → Act → World → Prop} {t : TypeId} (E : ElemIs P t e) (hgd : o.guard = none) (s x : Operand)
    (ho : o.op = .call { callee := .builtin .append, args := #[s, x], argTypes := #[t, t] }) (hs : a.eval s = v) (hown : OwnB base e v n g w) (hx : a.eval x = .slice none 0 0)
    (h : wpList P ops Q rest (a.put o.dst v) w) : wpList P ops Q (o :: rest) a w := by
  obtain ⟨i, z, e1, e2, e3, e4, e5⟩ := E.info
  exact wpList_append_own_none hgd s x t ho base e i 1 E.slice e1 v n (row n g) hs hown hx h
end
theorem elem_is {P : Program} {t e : TypeId} (hs : P.underlying t = some (.slice e)) (h1 : (P.info? e).map (·.size) = some 1) (h2 : (P.info? e).map (·.bytes) = some 1) (h3 : ((P.info? e).bind (·.zero)).map (·.cells.size) = some 1) : ElemIs P t e := by
  refine ⟨hs, ?_⟩
  cases hi : P.info? e with
  | none => rw [hi] at h1; cases h1
  | some i =>
    rw [hi] at h1 h2 h3
    simp only [Option.map_some, Option.some.injEq, Option.bind_some] at h1 h2 h3
    cases hz : i.zero with
    | none => rw [hz] at h3; cases h3
    | some z =>
      rw [hz] at h3
      simp only [Option.map_some, Option.some.injEq] at h3
      exact ⟨i, z, rfl, hz, h1, h2, h3⟩
/-- cells that lie in a block just made -/
theorem lieNew (w : World) (n : Nat) (C : Array Value) (t : TypeId) (fz : Nat × Nat) (g : Nat → Value) (h : ∀ j, j < n → C[j]? = some (g j)) : LieAt ⟨w.heap.size, 0, none⟩ n g (w.alloc (.cells C t fz)) :=
  ⟨fun j hj => by
    have h1 : (w.alloc (.cells C t fz)).cell? ⟨w.heap.size, j, none⟩ = C[j]? := by
      have h2 : (w.alloc (.cells C t fz)).heap[w.heap.size]? = some (.cells C t fz) := by
        show (w.heap.push (.cells C t fz))[w.heap.size]? = _
        simp
      unfold World.cell?
      rw [h2]
      rfl
    unfold Addr.add
    by_cases e : j = 0
    · subst e
      rw [if_pos rfl, h1]
      exact h 0 hj
    · rw [if_neg e]
      show (w.alloc (.cells C t fz)).cell? ⟨w.heap.size, 0 + j, none⟩ = _
      rw [Nat.zero_add, h1]
      exact h j hj, by simp⟩
end Go.Proofs.Ytfaeieaelfjlpaa
namespace Go.Proofs.Ytfaeieaelfjlpaa
open Go.RowKit Go.BigFrame
def catF (m : Nat → BitVec 8) (n : Nat) (b : Nat → BitVec 8) (j : Nat) : BitVec 8 := if j < n then m j else b (j - n)
/-- bytes that lie in a block just made -/
theorem lie_new (w : World) (n : Nat) (C : Array Value) (t : TypeId) (fz : Nat × Nat) (b : Nat → BitVec 8) (h : ∀ j, j < n → C[j]? = some (yv b j)) : LieAt ⟨w.heap.size, 0, none⟩ n (yv b) (w.alloc (.cells C t fz)) :=
  ⟨fun j hj => by
    have h1 : (w.alloc (.cells C t fz)).cell? ⟨w.heap.size, j, none⟩ = C[j]? := by
      have h2 : (w.alloc (.cells C t fz)).heap[w.heap.size]? = some (.cells C t fz) := by
        show (w.heap.push (.cells C t fz))[w.heap.size]? = _
        simp
      unfold World.cell?
      rw [h2]
      rfl
    unfold Addr.add
    by_cases e : j = 0
    · subst e
      rw [if_pos rfl, h1]
      exact h 0 hj
    · rw [if_neg e]
      show (w.alloc (.cells C t fz)).cell? ⟨w.heap.size, 0 + j, none⟩ = _
      rw [Nat.zero_add, h1]
      exact h j hj, by simp⟩
theorem mark_const (w : World) (C : Array Value) (n : Nat) : (convert 31 31 (.slice (some ⟨w.heap.size, 0, none⟩) n n)).run Try.prog (w.alloc (.cells C 5)) = .ok (.slice (some ⟨w.heap.size, 0, none⟩) n n) (w.alloc (.cells C 5 (C.size, C.size + 1))) :=
  Go.Lib.run_convert_bytes_const w 31 5 C n n Try.underlying31 Try.underlying5
/-- so many bytes, nil or not -/
def BV (v : Value) (l : Nat) (b : Nat → BitVec 8) (w : World) : Prop := (v = .slice none 0 0 ∧ l = 0) ∨ ∃ a cap, v = .slice (some a) l cap ∧ l ≤ cap ∧ LieAt a l (yv b) w
theorem BV.ext {v : Value} {l : Nat} {b : Nat → BitVec 8} {w X : World} (h : BV v l b w) (k : Ext w X) : BV v l b X := by
  rcases h with h | ⟨a, cap, h1, h2, h3⟩
  · exact .inl h
  · exact .inr ⟨a, cap, h1, h2, h3.carry k⟩
theorem OwnB.bv {base : Nat} {v : Value} {l : Nat} {b : Nat → BitVec 8} {w : World} (h : OwnB base 5 v l (yv b) w) : BV v l b w := by
  rcases Nat.eq_zero_or_pos l with h0 | h0
  · subst h0
    rcases h.2 with ⟨rfl, _⟩ | ⟨g, cap, cur, rfl, _, hg, hc, _⟩
    · exact .inl ⟨rfl, rfl⟩
    · exact .inr ⟨_, cap, rfl, hc, fun j hj => by omega, (Array.getElem?_eq_some_iff.1 hg).1⟩
  · obtain ⟨g, cap, rfl, _, hc, _, hR⟩ := h.lies h0
    refine .inr ⟨_, cap, rfl, hc, fun j hj => ?_, hR.2.2⟩
    have hadd : (⟨g, 0, none⟩ : Addr).add j = ⟨g, j, none⟩ := by unfold Addr.add; split <;> simp_all
    rw [hadd]
    exact hR.1 j hj
theorem loadLie {P : Program} {a : Addr} {n : Nat} {g : Nat → Value} {w : World} (h : LieAt a n g w) : (loadCells a n).run P w = .ok (row n g).toArray w := by
  have := run_loadCells_list (P := P) w a (row n g) (fun j v hv => by
    obtain ⟨hj, rfl⟩ := row_some hv
    exact h.1 j hj)
  rwa [row_length] at this
theorem convV (v : Value) (l : Nat) (b : Nat → BitVec 8) (w : World) (h : BV v l b w) : (convert 31 9 v).run Try.prog w = .ok (.string (bstr l fun j => ((b j).toNat : Int))) w := by
  rcases h with ⟨rfl, rfl⟩ | ⟨a, cap, rfl, h2, h3⟩
  · rw [run_convert_bytes_string w 31 9 5 _ _ _ Try.underlying31 Try.underlying5 Try.underlying9]
    rfl
  · rw [run_convert_bytes_string w 31 9 5 _ _ _ Try.underlying31 Try.underlying5 Try.underlying9]
    refine run_bytesToString w _ l cap ((List.range l).map fun j => ((b j).toNat : Int)) ?_
    rw [loadLie h3, List.map_map]
    rfl
theorem BV.form {v : Value} {l : Nat} {b : Nat → BitVec 8} {w : World} (h : BV v l b w) : ∃ oa cp, v = .slice oa l cp := by
  rcases h with ⟨h, h0⟩ | ⟨a, cap, h, _⟩
  · exact ⟨none, 0, by rw [h, h0]⟩
  · exact ⟨_, cap, h⟩
theorem RowAt.lie {b n : Nat} {g : Nat → Value} {w : World} (h : RowAt b n g w) (m : Nat) (hm : m ≤ n) : LieAt ⟨b, 0, none⟩ m g w :=
  ⟨fun j hj => by
    have hadd : (⟨b, 0, none⟩ : Addr).add j = ⟨b, j, none⟩ := by unfold Addr.add; split <;> simp_all
    rw [hadd]
    exact h.1 j (by omega), h.2.2⟩
def bT (l : List Nat) (j : Nat) : BitVec 8 := BitVec.ofNat 8 (l.getD j 0)
/-- bytes of a text that stands in the program -/
theorem constB (w : World) (C : Array Value) (n : Nat) (f : Nat → BitVec 8) (hC : ∀ j, j < n → C[j]? = some (yv f j)) : ∃ X, (convert 31 31 (.slice (some ⟨w.heap.size, 0, none⟩) n n)).run Try.prog (w.alloc (.cells C 5)) = .ok (.slice (some ⟨w.heap.size, 0, none⟩) n n) X ∧ BV (.slice (some ⟨w.heap.size, 0, none⟩) n n) n f X ∧ Ext w X :=
  ⟨_, mark_const w C n, .inr ⟨_, n, rfl, Nat.le_refl _, lie_new w n C 5 _ f hC⟩, (Below.refl _ _).alloc (Nat.le_refl _) _⟩
/-- bytes just made -/
theorem newB (w : World) (C : Array Value) (n : Nat) (f : Nat → BitVec 8) (hC : ∀ j, j < n → C[j]? = some (yv f j)) : BV (.slice (some ⟨w.heap.size, 0, none⟩) n n) n f (w.alloc (.cells C 5)) ∧ Ext w (w.alloc (.cells C 5)) :=
  ⟨.inr ⟨_, n, rfl, Nat.le_refl _, lie_new w n C 5 (0, 0) f hC⟩, (Below.refl _ _).alloc (Nat.le_refl _) _⟩
def sumL (ls : Nat → Nat) : Nat → Nat
  | 0 => 0
  | n + 1 => sumL ls n + ls n
theorem sumL_mono (ls : Nat → Nat) (i n : Nat) (h : i ≤ n) : sumL ls i ≤ sumL ls n := by
  induction n with
  | zero =>
    obtain rfl : i = 0 := by omega
    exact Nat.le_refl _
  | succ n ih =>
    rcases Nat.lt_or_ge n i with h1 | h1
    · obtain rfl : i = n + 1 := by omega
      exact Nat.le_refl _
    · have := ih h1
      simp only [sumL]
      omega
/-- parts one behind the other, behind what came -/
def joinF (m : Nat → BitVec 8) (n : Nat) (ls : Nat → Nat) (bs : Nat → Nat → BitVec 8) : Nat → Nat → BitVec 8
  | 0 => m
  | i + 1 => catF (joinF m n ls bs i) (n + sumL ls i) (bs i)
/-- a list of parts -/
def Parts (v : Value) (n : Nat) (us : Nat → Value) (ls : Nat → Nat) (bs : Nat → Nat → BitVec 8) (w : World) : Prop :=
  ((v = .slice none 0 0 ∧ n = 0) ∨ ∃ a cap, v = .slice (some a) n cap ∧ n ≤ cap ∧ LieAt a n us w) ∧ ∀ i, i < n → BV (us i) (ls i) (bs i) w
theorem Parts.ext {v : Value} {n : Nat} {us : Nat → Value} {ls : Nat → Nat} {bs : Nat → Nat → BitVec 8} {w X : World} (h : Parts v n us ls bs w) (k : Ext w X) : Parts v n us ls bs X := by
  refine ⟨?_, fun i hi => (h.2 i hi).ext k⟩
  rcases h.1 with h1 | ⟨a, cap, h1, h2, h3⟩
  · exact .inl h1
  · exact .inr ⟨a, cap, h1, h2, h3.carry k⟩
def allF (ls : Nat → Nat) (bs : Nat → Nat → BitVec 8) (k : Nat) : Nat → BitVec 8 := joinF (fun _ => 0#8) 0 ls bs k
theorem join_all (m : Nat → BitVec 8) (n : Nat) (ls : Nat → Nat) (bs : Nat → Nat → BitVec 8) : ∀ k j, j < n + sumL ls k → joinF m n ls bs k j = catF m n (allF ls bs k) j
  | 0, j, h => by
    simp only [sumL] at h
    unfold catF
    rw [if_pos (by omega)]
    rfl
  | k + 1, j, h => by
    simp only [sumL] at h
    show catF (joinF m n ls bs k) (n + sumL ls k) (bs k) j = catF m n (catF (allF ls bs k) (0 + sumL ls k) (bs k)) j
    unfold catF
    by_cases h1 : j < n + sumL ls k
    · rw [if_pos h1, join_all m n ls bs k j h1]
      unfold catF
      by_cases h2 : j < n
      · rw [if_pos h2, if_pos h2]
      · rw [if_neg h2, if_neg h2, if_pos (by omega)]
    · rw [if_neg h1, if_neg (by omega), if_neg (by omega), show j - (n + sumL ls k) = j - n - (0 + sumL ls k) by omega]
theorem add_add (a : Addr) (i j : Nat) : (a.add i).add j = a.add (i + j) := by
  unfold Addr.add
  by_cases hi : i = 0
  · subst hi; simp
  · rw [if_neg hi]
    by_cases hj : j = 0
    · subst hj; simp [hi]
    · rw [if_neg hj, if_neg (by omega)]; simp; omega
theorem elem31 : ElemIs Try.prog 31 5 := elem_is Try.underlying31 (by kernel_rfl) (by kernel_rfl) (by kernel_rfl)
end Go.Proofs.Ytfaeieaelfjlpaa
