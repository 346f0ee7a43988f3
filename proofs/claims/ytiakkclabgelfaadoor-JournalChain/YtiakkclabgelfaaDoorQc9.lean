/-
  The digest of the document's example, step by step against tables. sha.Sum: the digest of any bytes, in every world that holds the constants, of which nothing that was there turns.
-/
import Derived.Test.YtiakkclabgelfaaDoorQc8
namespace Go.Proofs.YtiakkclabgelfaaDoor
theorem pend_zero (m : Nat → BitVec 8) : pend m 0 = fun _ => 0#8 := by
  funext j
  unfold pend
  rw [if_neg (by omega)]
theorem fillF_congr (m m' : Nat → BitVec 8) (n : Nat) (h : ∀ j, j < n → m j = m' j) : fillF m n = fillF m' n := by
  funext j
  unfold fillF
  split
  · exact h j ‹_›
  · rfl
theorem shaF_congr (m m' : Nat → BitVec 8) (n : Nat) (h : ∀ j, j < n → m j = m' j) : shaF m n = shaF m' n := by
  unfold shaF
  rw [fillF_congr m m' n h]
end Go.Proofs.YtiakkclabgelfaaDoor
namespace Go.Proofs.YtiakkclabgelfaaDoor
open Go.RowKit Go.BigFrame
set_option maxHeartbeats 400000 in
theorem write_none (c : Nat) (w : World) : Calls Tryd.prog 75 #[.pointer (some ⟨c, 0, none⟩), .slice none 0 0] w fun e w' => e = .returned (.tuple #[]) ∧ w' = w := by
  go_enter Tryd.func75, Tryd.ntmps75
  go_wp2
  go_loopw [1] (fun v wr => v = .slice none 0 0 ∧ wr = w) (fun _ _ => 0)
  case atStart => exact ⟨rfl, rfl⟩
  case round =>
    obtain ⟨rfl, rfl⟩ := hrel
    go_wp2
    exact bodyPost_end (v := .tuple #[]) (by simp [results, Tryd.results75]) rfl ⟨rfl, rfl⟩
end Go.Proofs.YtiakkclabgelfaaDoor
