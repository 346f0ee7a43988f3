/-
  The document's digest: of any bytes, in every world, of which nothing that was there turns. Bytes, nil or not, wherever they lie: their digest by the program and by the document, and as a string.
-/
import Derived.Test.YtgjabfjkokpkiaaDoorQ12
import Derived.Test.YtgjabfjkokpkiaaDoorQ9
import Derived.Test.YtgjabfjkokpkiaaDoorQ11
namespace Go.Proofs.YtgjabfjkokpkiaaDoor
set_option maxRecDepth 20000
open Go.RowKit Go.BigFrame
def SLA (B : Nat) (w : World) (F : Nat → BitVec 8) (v : Value) (n : Nat) (X : World) : Prop := OwnB (B + 1) 5 v n (yv F) X ∧ RowAt B 32 (yv fun _ => 0#8) X ∧ Ext w X ∧ w.heap.size = B
theorem SLA.alloc {B : Nat} {w X : World} {F : Nat → BitVec 8} {v : Value} {n : Nat} (h : SLA B w F v n X) (o : Obj) : SLA B w F v n (X.alloc o) :=
  ⟨h.1.alloc o, h.2.1.alloc o, Below.alloc h.2.2.1 (Below.size h.2.2.1) o, h.2.2.2⟩
theorem SLA.ext {B : Nat} {w X Y : World} {F : Nat → BitVec 8} {v : Value} {n : Nat} (h : SLA B w F v n X) (k : Ext X Y) : SLA B w F v n Y :=
  ⟨h.1.ext k, h.2.1.carry k, Ext.trans h.2.2.1 k, h.2.2.2⟩
theorem SLA.but {B c : Nat} {w X Y : World} {F : Nat → BitVec 8} {v : Value} {n : Nat} (h : SLA B w F v n X) (k : But c X Y) (hc : v.ownBlock ≠ some c) (hB : B < c) : SLA B w F v n Y :=
  ⟨h.1.but k hc, h.2.1.but k (by omega), Below.but h.2.2.1 k (by have := h.2.2.2; omega) (Below.size h.2.2.1), h.2.2.2⟩
def L3 (B g d T : Nat) (w : World) (F : Nat → BitVec 8) (s : Nat → BitVec 32) (X : World) : Prop :=
  RowAt g T (yv F) X ∧ RowAt d 8 (wv s) X ∧ RowAt B 32 (yv fun _ => 0#8) X ∧ Ext w X ∧ w.heap.size = B ∧ B < g ∧ g < d
theorem L3.ext {B g d T : Nat} {w X Y : World} {F : Nat → BitVec 8} {s : Nat → BitVec 32} (h : L3 B g d T w F s X) (k : Ext X Y) : L3 B g d T w F s Y :=
  ⟨h.1.carry k, h.2.1.carry k, h.2.2.1.carry k, Ext.trans h.2.2.2.1 k, h.2.2.2.2⟩
theorem L3.but {B g d T c : Nat} {w X Y : World} {F : Nat → BitVec 8} {s : Nat → BitVec 32} (h : L3 B g d T w F s X) (k : But c X Y) (hc : d < c) : L3 B g d T w F s Y := by
  obtain ⟨h1, h2, h3, h4, h5, h6, h7⟩ := h
  exact ⟨h1.but k (by omega), h2.but k (by omega), h3.but k (by omega), Ext.but h4 k (by omega), h5, h6, h7⟩
theorem L3.setS {B g d T : Nat} {w X : World} {F : Nat → BitVec 8} {s : Nat → BitVec 32} (h : L3 B g d T w F s X) (s' : Nat → BitVec 32) : L3 B g d T w F s' (X.setCells d 0 (row 8 (wv s'))) := by
  obtain ⟨h1, h2, h3, h4, h5, h6, h7⟩ := h
  exact ⟨h1.cellsOther (by omega) _ _, h2.cells, h3.cellsOther (by omega) _ _, below_setCells _ (by omega) _ _ _ h4, h5, h6, h7⟩
theorem elem22 : ElemIs Tryd.prog 22 5 := elem_is Tryd.underlying22 (by kernel_rfl) (by kernel_rfl) (by kernel_rfl)
end Go.Proofs.YtgjabfjkokpkiaaDoor
namespace Go.Proofs.YtgjabfjkokpkiaaDoor
set_option maxRecDepth 20000
open Go.RowKit Go.BigFrame
def BV (v : Value) (l : Nat) (b : Nat → BitVec 8) (w : World) : Prop := (v = .slice none 0 0 ∧ l = 0) ∨ ∃ a cap, v = .slice (some a) l cap ∧ l ≤ cap ∧ LieAt a l (yv b) w
theorem BV.ext {v : Value} {l : Nat} {b : Nat → BitVec 8} {w X : World} (h : BV v l b w) (k : Ext w X) : BV v l b X := by
  rcases h with h | ⟨a, cap, h1, h2, h3⟩
  · exact .inl h
  · exact .inr ⟨a, cap, h1, h2, h3.carry k⟩
theorem BArg.bv {v : Value} {w : World} (h : BArg v w) : ∃ l b, BV v l b w ∧ l ≤ 140737488351232 := by
  rcases h with rfl | ⟨a, l, cap, b, rfl, hl, hb, hm⟩
  · exact ⟨0, fun _ => 0#8, .inl ⟨rfl, rfl⟩, by omega⟩
  · exact ⟨l, b, .inr ⟨a, cap, rfl, hl, hb⟩, hm⟩
theorem OwnB.bv {base : Nat} {v : Value} {l : Nat} {b : Nat → BitVec 8} {w : World} (h : OwnB base 5 v l (yv b) w) : BV v l b w := by
  rcases Nat.eq_zero_or_pos l with h0 | h0
  · subst h0
    rcases h.2 with ⟨rfl, _⟩ | ⟨g, cap, cur, rfl, _, hg, hc, _⟩
    · exact .inl ⟨rfl, rfl⟩
    · exact .inr ⟨_, cap, rfl, hc, fun j hj => by omega, (Array.getElem?_eq_some_iff.1 hg).1⟩
  · obtain ⟨g, cap, rfl, _, hc, _, hR⟩ := h.lies h0
    refine .inr ⟨_, cap, rfl, hc, fun j hj => ?_, hR.2.2⟩
    have hadd : (⟨g, 0, none⟩ : Addr).add j = ⟨g, j, none⟩ := by unfold Addr.add; split <;> simp_all
    rw [hadd]
    exact hR.1 j hj
theorem loadLie {P : Program} {a : Addr} {n : Nat} {g : Nat → Value} {w : World} (h : LieAt a n g w) : (loadCells a n).run P w = .ok (row n g).toArray w := by
  have := run_loadCells_list (P := P) w a (row n g) (fun j v hv => by
    obtain ⟨hj, rfl⟩ := row_some hv
    exact h.1 j hj)
  rwa [row_length] at this
theorem convV (v : Value) (l : Nat) (b : Nat → BitVec 8) (w : World) (h : BV v l b w) : (convert 22 9 v).run Tryd.prog w = .ok (.string (bstr l fun j => ((b j).toNat : Int))) w := by
  rcases h with ⟨rfl, rfl⟩ | ⟨a, cap, rfl, h2, h3⟩
  · rw [run_convert_bytes_string w 22 9 5 _ _ _ Tryd.underlying22 Tryd.underlying5 Tryd.underlying9]
    rfl
  · rw [run_convert_bytes_string w 22 9 5 _ _ _ Tryd.underlying22 Tryd.underlying5 Tryd.underlying9]
    refine run_bytesToString w _ l cap ((List.range l).map fun j => ((b j).toNat : Int)) ?_
    rw [loadLie h3, List.map_map]
    rfl
end Go.Proofs.YtgjabfjkokpkiaaDoor
