/-
  The path of a leaf in its tree is right, and its root the tree's.
-/
import Derived.Test.YtienaaiaeinifaaDoorPat
import Derived.Test.YtienaaiaeinifaaDoorChk
namespace Go.Proofs.YtienaaiaeinifaaDoor
open Go.RowKit
/-- the nodes of a leaf's path -/
def pbs (n : Nat) (d : Nat → Nat → BitVec 8) (x j : Nat) : Nat → BitVec 8 := nodeB n d j (x / 16 ^ (j + 1))
theorem pbs_child (n : Nat) (d : Nat → Nat → BitVec 8) (x q t : Nat) (hx : x < n) (ht : t < 32) : pbs n d x q (32 * plc x q + t) = digB n d q (x / 16 ^ q) t := by
  have hu := up_lt n x hx q
  unfold pbs nodeB nodeC plc
  rw [Nat.pow_succ, ← Nat.div_div_eq_div_mul]
  generalize x / 16 ^ q = X at *
  rw [show 16 * (X / 16) + (32 * (X % 16) + t) / 32 = X by omega, show (32 * (X % 16) + t) % 32 = t by omega, if_pos hu]
theorem path_ok (n : Nat) (d : Nat → Nat → BitVec 8) (x : Nat) (hx : x < n) : ∀ q, (chL (d x) x (pbs n d x) (List.range q)).1 = digB n d q (x / 16 ^ q) ∧ (chL (d x) x (pbs n d x) (List.range q)).2
  | 0 => ⟨by rw [Nat.pow_zero, Nat.div_one]; rfl, trivial⟩
  | q + 1 => by
    obtain ⟨h1, h2⟩ := path_ok n d x hx q
    have e : chL (d x) x (pbs n d x) (List.range (q + 1)) = chS x (pbs n d x) (chL (d x) x (pbs n d x) (List.range q)) q := by
      unfold chL
      rw [List.range_succ, List.foldl_append]
      rfl
    rw [e]
    exact ⟨rfl, h2, fun t ht => by rw [h1]; exact pbs_child n d x q t hx ht⟩
theorem top_zero (n x N : Nat) (h1 : 1 ≤ n) (h2 : n ≤ 4096) (hN : N = lvN n) (hx : x < n) : x / 16 ^ N = 0 := by
  have := up_lt n x hx N
  have e := bld_top n h1 h2
  rw [← hN] at e
  rw [e] at this
  exact Nat.lt_one_iff.1 this
theorem root_top (n x N : Nat) (d : Nat → Nat → BitVec 8) (h1 : 1 ≤ n) (h2 : n ≤ 4096) (hN : N = lvN n) (hx : x < n) : nodeF (BitVec.ofNat 8 (N - 1)) (pbs n d x (N - 1)) 512 = digB n d N 0 := by
  have hp := lvN_pos n
  have hz := top_zero n x N h1 h2 hN hx
  obtain ⟨q, rfl⟩ : ∃ q, N = q + 1 := ⟨N - 1, by omega⟩
  rw [Nat.add_sub_cancel]
  unfold pbs
  rw [hz]
  rfl
theorem path_right (n x N : Nat) (d : Nat → Nat → BitVec 8) (h1 : 1 ≤ n) (h2 : n ≤ 4096) (hN : N = lvN n) (hx : x < n) :
    (chL (d x) x (pbs n d x) (List.range N)).2 ∧ ∀ t, t < 32 → rootF n (chL (d x) x (pbs n d x) (List.range N)).1 t = rootF n (digB n d N 0) t := by
  obtain ⟨e1, e2⟩ := path_ok n d x hx N
  refine ⟨e2, fun t _ => ?_⟩
  rw [e1, top_zero n x N h1 h2 hN hx]
end Go.Proofs.YtienaaiaeinifaaDoor
