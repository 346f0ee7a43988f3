/-
  Bytes, nil or not, wherever they lie: their digest by the program and by the document, and as a string.
-/
import Derived.Test.YtapmheocllicnaaDoorOpenB
import Derived.Test.YtapmheocllicnaaDoorRSum
namespace Go.Proofs.YtapmheocllicnaaDoor
open Go.RowKit Go.BigFrame
/-- so many bytes, nil or not -/
def BV (v : Value) (l : Nat) (b : Nat → BitVec 8) (w : World) : Prop := (v = .slice none 0 0 ∧ l = 0) ∨ ∃ a cap, v = .slice (some a) l cap ∧ l ≤ cap ∧ LieAt a l (yv b) w
theorem BV.ext {v : Value} {l : Nat} {b : Nat → BitVec 8} {w X : World} (h : BV v l b w) (k : Ext w X) : BV v l b X := by
  rcases h with h | ⟨a, cap, h1, h2, h3⟩
  · exact .inl h
  · exact .inr ⟨a, cap, h1, h2, h3.carry k⟩
theorem BArg.bv {v : Value} {w : World} (h : BArg v w) : ∃ l b, BV v l b w ∧ l ≤ 140737488351232 := by
  rcases h with rfl | ⟨a, l, cap, b, rfl, hl, hb, hm⟩
  · exact ⟨0, fun _ => 0#8, .inl ⟨rfl, rfl⟩, by omega⟩
  · exact ⟨l, b, .inr ⟨a, cap, rfl, hl, hb⟩, hm⟩
theorem OwnB.bv {base : Nat} {v : Value} {l : Nat} {b : Nat → BitVec 8} {w : World} (h : OwnB base 5 v l (yv b) w) : BV v l b w := by
  rcases Nat.eq_zero_or_pos l with h0 | h0
  · subst h0
    rcases h.2 with ⟨rfl, _⟩ | ⟨g, cap, cur, rfl, _, hg, hc, _⟩
    · exact .inl ⟨rfl, rfl⟩
    · exact .inr ⟨_, cap, rfl, hc, fun j hj => by omega, (Array.getElem?_eq_some_iff.1 hg).1⟩
  · obtain ⟨g, cap, rfl, _, hc, _, hR⟩ := h.lies h0
    refine .inr ⟨_, cap, rfl, hc, fun j hj => ?_, hR.2.2⟩
    have hadd : (⟨g, 0, none⟩ : Addr).add j = ⟨g, j, none⟩ := by unfold Addr.add; split <;> simp_all
    rw [hadd]
    exact hR.1 j hj
theorem rsumV (v : Value) (l : Nat) (b : Nat → BitVec 8) (w : World) (h : BV v l b w) (hl : l ≤ 140737488355000) : Calls Tryd.prog 31 #[v] w fun e w' => e = .returned (.agg (row 32 (yv (shaF b l))).toArray) ∧ Below w.heap.size w w' := by
  rcases h with ⟨rfl, rfl⟩ | ⟨a, cap, rfl, h2, h3⟩
  · have := rsum_none w
    rwa [shaF_congr (fun _ => 0#8) b 0 (fun j hj => by omega)] at this
  · exact rsum_any l cap b a w h3 hl
theorem loadLie {P : Program} {a : Addr} {n : Nat} {g : Nat → Value} {w : World} (h : LieAt a n g w) : (loadCells a n).run P w = .ok (row n g).toArray w := by
  have := run_loadCells_list (P := P) w a (row n g) (fun j v hv => by
    obtain ⟨hj, rfl⟩ := row_some hv
    exact h.1 j hj)
  rwa [row_length] at this
theorem convV (v : Value) (l : Nat) (b : Nat → BitVec 8) (w : World) (h : BV v l b w) : (convert 23 9 v).run Tryd.prog w = .ok (.string (bstr l fun j => ((b j).toNat : Int))) w := by
  rcases h with ⟨rfl, rfl⟩ | ⟨a, cap, rfl, h2, h3⟩
  · rw [run_convert_bytes_string w 23 9 5 _ _ _ Tryd.underlying23 Tryd.underlying5 Tryd.underlying9]
    rfl
  · rw [run_convert_bytes_string w 23 9 5 _ _ _ Tryd.underlying23 Tryd.underlying5 Tryd.underlying9]
    refine run_bytesToString w _ l cap ((List.range l).map fun j => ((b j).toNat : Int)) ?_
    rw [loadLie h3, List.map_map]
    rfl
end Go.Proofs.YtapmheocllicnaaDoor
