/-
  Bytes, nil or not, wherever they lie: their digest by the program and by the document, and as a string. Bytes, nil or not, wherever they lie; parts one behind the other.
-/
import Derived.Test.YtiakkclabgelfaaDoorQc12
import Derived.Test.YtiakkclabgelfaaDoorQc9
import Derived.Test.YtiakkclabgelfaaDoorQc10
import Derived.Test.YtiakkclabgelfaaDoorQc11
import Derived.Lib.SlBytesConst
namespace Go.Proofs.YtiakkclabgelfaaDoor
set_option maxRecDepth 20000
open Go.RowKit Go.BigFrame
def BV (v : Value) (l : Nat) (b : Nat → BitVec 8) (w : World) : Prop := (v = .slice none 0 0 ∧ l = 0) ∨ ∃ a cap, v = .slice (some a) l cap ∧ l ≤ cap ∧ LieAt a l (yv b) w
theorem BV.ext {v : Value} {l : Nat} {b : Nat → BitVec 8} {w X : World} (h : BV v l b w) (k : Ext w X) : BV v l b X := by
  rcases h with h | ⟨a, cap, h1, h2, h3⟩
  · exact .inl h
  · exact .inr ⟨a, cap, h1, h2, h3.carry k⟩
theorem BArg.bv {v : Value} {w : World} (h : BArg v w) : ∃ l b, BV v l b w ∧ l ≤ 140737488351232 := by
  rcases h with rfl | ⟨a, l, cap, b, rfl, hl, hb, hm⟩
  · exact ⟨0, fun _ => 0#8, .inl ⟨rfl, rfl⟩, by omega⟩
  · exact ⟨l, b, .inr ⟨a, cap, rfl, hl, hb⟩, hm⟩
theorem OwnB.bv {base : Nat} {v : Value} {l : Nat} {b : Nat → BitVec 8} {w : World} (h : OwnB base 5 v l (yv b) w) : BV v l b w := by
  rcases Nat.eq_zero_or_pos l with h0 | h0
  · subst h0
    rcases h.2 with ⟨rfl, _⟩ | ⟨g, cap, cur, rfl, _, hg, hc, _⟩
    · exact .inl ⟨rfl, rfl⟩
    · exact .inr ⟨_, cap, rfl, hc, fun j hj => by omega, (Array.getElem?_eq_some_iff.1 hg).1⟩
  · obtain ⟨g, cap, rfl, _, hc, _, hR⟩ := h.lies h0
    refine .inr ⟨_, cap, rfl, hc, fun j hj => ?_, hR.2.2⟩
    have hadd : (⟨g, 0, none⟩ : Addr).add j = ⟨g, j, none⟩ := by unfold Addr.add; split <;> simp_all
    rw [hadd]
    exact hR.1 j hj
theorem loadLie {P : Program} {a : Addr} {n : Nat} {g : Nat → Value} {w : World} (h : LieAt a n g w) : (loadCells a n).run P w = .ok (row n g).toArray w := by
  have := run_loadCells_list (P := P) w a (row n g) (fun j v hv => by
    obtain ⟨hj, rfl⟩ := row_some hv
    exact h.1 j hj)
  rwa [row_length] at this
theorem convV (v : Value) (l : Nat) (b : Nat → BitVec 8) (w : World) (h : BV v l b w) : (convert 39 9 v).run Tryd.prog w = .ok (.string (bstr l fun j => ((b j).toNat : Int))) w := by
  rcases h with ⟨rfl, rfl⟩ | ⟨a, cap, rfl, h2, h3⟩
  · rw [run_convert_bytes_string w 39 9 5 _ _ _ Tryd.underlying39 Tryd.underlying5 Tryd.underlying9]
    rfl
  · rw [run_convert_bytes_string w 39 9 5 _ _ _ Tryd.underlying39 Tryd.underlying5 Tryd.underlying9]
    refine run_bytesToString w _ l cap ((List.range l).map fun j => ((b j).toNat : Int)) ?_
    rw [loadLie h3, List.map_map]
    rfl
end Go.Proofs.YtiakkclabgelfaaDoor
namespace Go.Proofs.YtiakkclabgelfaaDoor
set_option maxRecDepth 20000
open Go.RowKit Go.BigFrame
theorem elem22 : ElemIs Tryd.prog 39 5 := elem_is Tryd.underlying39 (by kernel_rfl) (by kernel_rfl) (by kernel_rfl)
theorem BV.form {v : Value} {l : Nat} {b : Nat → BitVec 8} {w : World} (h : BV v l b w) : ∃ oa cp, v = .slice oa l cp := by
  rcases h with ⟨h, h0⟩ | ⟨a, cap, h, _⟩
  · exact ⟨none, 0, by rw [h, h0]⟩
  · exact ⟨_, cap, h⟩
theorem RowAt.lie {b n : Nat} {g : Nat → Value} {w : World} (h : RowAt b n g w) (m : Nat) (hm : m ≤ n) : LieAt ⟨b, 0, none⟩ m g w :=
  ⟨fun j hj => by
    have hadd : (⟨b, 0, none⟩ : Addr).add j = ⟨b, j, none⟩ := by unfold Addr.add; split <;> simp_all
    rw [hadd]
    exact h.1 j (by omega), h.2.2⟩
theorem constB (w : World) (C : Array Value) (n : Nat) (f : Nat → BitVec 8) (hC : ∀ j, j < n → C[j]? = some (yv f j)) : ∃ X, (convert 39 39 (.slice (some ⟨w.heap.size, 0, none⟩) n n)).run Tryd.prog (w.alloc (.cells C 5)) = .ok (.slice (some ⟨w.heap.size, 0, none⟩) n n) X ∧ BV (.slice (some ⟨w.heap.size, 0, none⟩) n n) n f X ∧ Ext w X :=
  ⟨_, mark_const w C n, .inr ⟨_, n, rfl, Nat.le_refl _, lie_new w n C 5 _ f hC⟩, (Below.refl _ _).alloc (Nat.le_refl _) _⟩
theorem newB (w : World) (C : Array Value) (n : Nat) (f : Nat → BitVec 8) (hC : ∀ j, j < n → C[j]? = some (yv f j)) : BV (.slice (some ⟨w.heap.size, 0, none⟩) n n) n f (w.alloc (.cells C 5)) ∧ Ext w (w.alloc (.cells C 5)) :=
  ⟨.inr ⟨_, n, rfl, Nat.le_refl _, lie_new w n C 5 (0, 0) f hC⟩, (Below.refl _ _).alloc (Nat.le_refl _) _⟩
def sumL (ls : Nat → Nat) : Nat → Nat
  | 0 => 0
  | n + 1 => sumL ls n + ls n
theorem sumL_mono (ls : Nat → Nat) (i n : Nat) (h : i ≤ n) : sumL ls i ≤ sumL ls n := by
  induction n with
  | zero =>
    obtain rfl : i = 0 := by omega
    exact Nat.le_refl _
  | succ n ih =>
    rcases Nat.lt_or_ge n i with h1 | h1
    · obtain rfl : i = n + 1 := by omega
      exact Nat.le_refl _
    · have := ih h1
      simp only [sumL]
      omega
def joinF (m : Nat → BitVec 8) (n : Nat) (ls : Nat → Nat) (bs : Nat → Nat → BitVec 8) : Nat → Nat → BitVec 8
  | 0 => m
  | i + 1 => catF (joinF m n ls bs i) (n + sumL ls i) (bs i)
def Parts (v : Value) (n : Nat) (us : Nat → Value) (ls : Nat → Nat) (bs : Nat → Nat → BitVec 8) (w : World) : Prop :=
  ((v = .slice none 0 0 ∧ n = 0) ∨ ∃ a cap, v = .slice (some a) n cap ∧ n ≤ cap ∧ LieAt a n us w) ∧ ∀ i, i < n → BV (us i) (ls i) (bs i) w
theorem Parts.ext {v : Value} {n : Nat} {us : Nat → Value} {ls : Nat → Nat} {bs : Nat → Nat → BitVec 8} {w X : World} (h : Parts v n us ls bs w) (k : Ext w X) : Parts v n us ls bs X := by
  refine ⟨?_, fun i hi => (h.2 i hi).ext k⟩
  rcases h.1 with h1 | ⟨a, cap, h1, h2, h3⟩
  · exact .inl h1
  · exact .inr ⟨a, cap, h1, h2, h3.carry k⟩
def allF (ls : Nat → Nat) (bs : Nat → Nat → BitVec 8) (k : Nat) : Nat → BitVec 8 := joinF (fun _ => 0#8) 0 ls bs k
end Go.Proofs.YtiakkclabgelfaaDoor
