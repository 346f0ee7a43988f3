/-
  What another leaf changes in a tree.
-/
import Derived.Test.YtienaaiaeinifaaDoorPok
namespace Go.Proofs.YtienaaiaeinifaaDoor
open Go.RowKit
/-- the leaves with another one at a place -/
def dch (d : Nat → Nat → BitVec 8) (x : Nat) (leaf : Nat → BitVec 8) (i : Nat) : Nat → BitVec 8 := if i = x then leaf else d i
theorem nodeF_congr (c : BitVec 8) (b b' : Nat → BitVec 8) (l : Nat) (h : ∀ j, j < l → b j = b' j) : nodeF c b l = nodeF c b' l := by
  unfold nodeF
  refine shaF_congr _ _ _ fun j hj => ?_
  unfold nodeT
  by_cases h0 : j = 0
  · rw [if_pos h0, if_pos h0]
  · rw [if_neg h0, if_neg h0]
    by_cases h1 : j = 1
    · rw [if_pos h1, if_pos h1]
    · rw [if_neg h1, if_neg h1, h _ (by omega)]
theorem node_of_dig (f g : Nat → Nat → BitVec 8) (m X : Nat) (h : ∀ i, i ≠ X → f i = g i) (i j : Nat) (hi : i ≠ X / 16) (hj : j < 512) : nodeC f m i j = nodeC g m i j := by
  unfold nodeC
  rw [h (16 * i + j / 32) (by omega)]
theorem dig_other (n : Nat) (d : Nat → Nat → BitVec 8) (x : Nat) (leaf : Nat → BitVec 8) : ∀ q i, i ≠ x / 16 ^ q → digB n (dch d x leaf) q i = digB n d q i
  | 0, i, h => by
    rw [Nat.pow_zero, Nat.div_one] at h
    show dch d x leaf i = d i
    unfold dch
    rw [if_neg h]
  | q + 1, i, h => by
    rw [Nat.pow_succ, ← Nat.div_div_eq_div_mul] at h
    show nodeF _ (nodeC (digB n (dch d x leaf) q) (lcP n q) i) 512 = nodeF _ (nodeC (digB n d q) (lcP n q) i) 512
    exact nodeF_congr _ _ _ _ fun j hj => node_of_dig _ _ _ _ (dig_other n d x leaf q) i j h hj
theorem node_other (n : Nat) (d : Nat → Nat → BitVec 8) (x : Nat) (leaf : Nat → BitVec 8) (q i j : Nat) (hi : i ≠ x / 16 ^ (q + 1)) (hj : j < 512) : nodeB n (dch d x leaf) q i j = nodeB n d q i j := by
  rw [Nat.pow_succ, ← Nat.div_div_eq_div_mul] at hi
  exact node_of_dig _ _ _ _ (dig_other n d x leaf q) i j hi hj
theorem node_path (n : Nat) (d : Nat → Nat → BitVec 8) (x : Nat) (leaf : Nat → BitVec 8) (hx : x < n) (q j : Nat) : pbs n (dch d x leaf) x q j = putF (pbs n d x q) (plc x q) (digB n (dch d x leaf) q (x / 16 ^ q)) j := by
  have hu := up_lt n x hx q
  have ho := dig_other n d x leaf q
  unfold pbs nodeB putF plc
  rw [Nat.pow_succ, ← Nat.div_div_eq_div_mul]
  generalize x / 16 ^ q = X at *
  unfold nodeC
  by_cases h : 32 * (X % 16) ≤ j ∧ j < 32 * (X % 16) + 32
  · rw [if_pos h, show 16 * (X / 16) + j / 32 = X by omega, if_pos hu, show j % 32 = j - 32 * (X % 16) by omega]
  · rw [if_neg h, ho (16 * (X / 16) + j / 32) (by omega)]
end Go.Proofs.YtienaaiaeinifaaDoor
