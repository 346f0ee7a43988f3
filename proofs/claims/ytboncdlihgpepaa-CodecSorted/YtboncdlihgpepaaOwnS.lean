/-
  Cells of a slice of the call's own, set.
-/
import Derived.Test.YtboncdlihgpepaaMade
import Derived.Lib.BufferMore
namespace Go.Proofs.Ytboncdlihgpepaa
open Go.RowKit Go.BigFrame
section
variable {base : Nat} {e : TypeId} {v : Value} {n : Nat} {g : Nat → Value} {w : World}
theorem OwnB.down (h : OwnB base e v n g w) {base' : Nat} (hb : base' ≤ base) : OwnB base' e v n g w := by
  obtain ⟨h1, h2⟩ := h
  refine ⟨h1, ?_⟩
  rcases h2 with h2 | ⟨k, cap, cur, hv, hg, r⟩
  · exact .inl h2
  · exact .inr ⟨k, cap, cur, hv, Nat.le_trans hb hg, r⟩
theorem OwnB.set (h : OwnB base e v n g w) {b : Nat} (hb : v.ownBlock = some b) (i : Nat) (hi : i < n) (u : Value) : OwnB base e v n (fun j => if j = i then u else g j) (w.setCell ⟨b, i, none⟩ u) := by
  obtain ⟨h1, h2⟩ := h
  refine ⟨by rw [row_length, Nat.mul_one], ?_⟩
  rcases h2 with ⟨rfl, h0⟩ | ⟨k, cap, cur, rfl, hg, hh, hc, hm, hs, ht⟩
  · omega
  · simp only [Value.ownBlock, Option.some.injEq] at hb
    subst hb
    refine .inr ⟨k, cap, cur.setIfInBounds i u, rfl, hg, Lib.heap_setCell_same hh u, hc, hm, by simpa using hs, ?_⟩
    rw [Nat.mul_one] at ht hs ⊢
    apply List.ext_getElem?
    intro j
    have hj0 : ∀ j, j < n → cur.toList[j]? = some (g j) := fun j hj => by
      have := congrArg (fun l => l[j]?) ht
      simp only [List.getElem?_take, hj, if_true, row_get n g j hj] at this
      exact this
    by_cases hj : j < n
    · rw [row_get n _ j hj, List.getElem?_take, if_pos hj, Array.toList_setIfInBounds, List.getElem?_set]
      by_cases e : i = j
      · subst e
        rw [if_pos rfl, if_pos rfl, if_pos (by simp; omega)]
      · rw [if_neg e, if_neg (Ne.symm e)]
        exact hj0 j hj
    · rw [List.getElem?_eq_none (by simp; omega), List.getElem?_eq_none (by rw [row_length]; omega)]
theorem OwnB.other (h : OwnB base e v n g w) (a : Addr) (ha : v.ownBlock ≠ some a.block) (u : Value) : OwnB base e v n g (w.setCell a u) := by
  obtain ⟨h1, h2⟩ := h
  refine ⟨h1, ?_⟩
  rcases h2 with h2 | ⟨k, cap, cur, hv, hg, hh, r⟩
  · exact .inl h2
  · subst hv
    refine .inr ⟨k, cap, cur, rfl, hg, ?_, r⟩
    rw [Below.heap_setCell _ _ _ _ (fun e => ha (by simp [Value.ownBlock, e]))]
    exact hh
end
end Go.Proofs.Ytboncdlihgpepaa
