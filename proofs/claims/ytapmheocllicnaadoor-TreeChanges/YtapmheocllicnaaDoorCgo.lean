/-
  Change in a tree: what Build makes of the changed leaves.
-/
import Derived.Test.YtapmheocllicnaaDoorCg2
import Derived.Test.YtapmheocllicnaaDoorSam
namespace Go.Proofs.YtapmheocllicnaaDoor
open Go.RowKit Go.BigFrame
theorem gL_succ (leaf : Nat → BitVec 8) (x : Nat) (bs : Nat → Nat → BitVec 8) (q : Nat) : gL leaf x bs (List.range (q + 1)) = gst x bs (gL leaf x bs (List.range q)) q := by
  unfold gL
  rw [List.range_succ, List.foldl_append]
  rfl
theorem chg_all (n : Nat) (d : Nat → Nat → BitVec 8) (x : Nat) (lf : Nat → BitVec 8) (hx : x < n) : ∀ q, (gL lf x (pbs n d x) (List.range q)).2.2 ∧ (gL lf x (pbs n d x) (List.range q)).2.1 = digB n (dch d x lf) q (x / 16 ^ q) ∧ (0 < q → (gL lf x (pbs n d x) (List.range q)).1 = digB n d q (x / 16 ^ q))
  | 0 => ⟨trivial, by
      rw [Nat.pow_zero, Nat.div_one]
      show lf = dch d x lf x
      unfold dch
      rw [if_pos rfl], fun h => absurd h (by omega)⟩
  | q + 1 => by
    obtain ⟨h1, h2, h3⟩ := chg_all n d x lf hx q
    rw [gL_succ]
    refine ⟨⟨h1, fun h t ht => ?_⟩, ?_, fun _ => rfl⟩
    · rw [h3 h]
      exact pbs_child n d x q t hx ht
    · show nodeF _ (putF (pbs n d x q) (plc x q) (gL lf x (pbs n d x) (List.range q)).2.1) 512 = nodeF _ (pbs n (dch d x lf) x q) 512
      rw [h2]
      exact nodeF_congr _ _ _ _ fun j _ => (node_path n d x lf hx q j).symm
theorem chg_ok (n : Nat) (d : Nat → Nat → BitVec 8) (x : Nat) (lf : Nat → BitVec 8) (hx : x < n) (q : Nat) : (gL lf x (pbs n d x) (List.range q)).2.2 ∧ (gL lf x (pbs n d x) (List.range q)).2.1 = digB n (dch d x lf) q (x / 16 ^ q) := ⟨(chg_all n d x lf hx q).1, (chg_all n d x lf hx q).2.1⟩
theorem ct_at (n : Nat) (d : Nat → Nat → BitVec 8) (x : Nat) (lf : Nat → BitVec 8) (hx : x < n) (N i j : Nat) (hi : i < N) : ctL lf x (pbs n d x) (List.range N) i j = pbs n (dch d x lf) x i j := by
  unfold ctL
  rw [List.take_range, Nat.min_eq_left (by omega), List.getD_eq_getElem?_getD, List.getElem?_range hi, Option.getD_some, (chg_ok n d x lf hx i).2]
  exact (node_path n d x lf hx i j).symm
theorem chg_use {n x N : Nat} {lf : Nat → BitVec 8} (d : Nat → Nat → BitVec 8) {RT : Nat → BitVec 8} {w w' : World} {e : Ending} (hx : x < n) (h0 : 0 < N) (hok : (gL lf x (pbs n d x) (List.range N)).2.2) (hroot : rootF n (gL lf x (pbs n d x) (List.range N)).2.1 = RT)
    (h : ((gL lf x (pbs n d x) (List.range N)).2.2 ∧ ∃ cv nb nc, e = .returned (.tuple #[cv, .agg (row 32 (yv (rootF n (gL lf x (pbs n d x) (List.range N)).2.1))).toArray, .int .i64 0]) ∧ OwnB w.heap.size 23 cv N (chV nb nc) w' ∧ (∀ i, i < N → w.heap.size ≤ nb i ∧ 512 ≤ nc i ∧ RowAt (nb i) 512 (yv (ctL lf x (pbs n d x) (List.range N) i)) w') ∧ Ext w w') ∨
      (¬ (gL lf x (pbs n d x) (List.range N)).2.2 ∧ e = .returned (.tuple #[.slice none 0 0, .agg (row 32 (yv fun _ => 0#8)).toArray, .int .i64 160]) ∧ Ext w w')) :
    ∃ cv, e = .returned (.tuple #[cv, .agg (row 32 (yv RT)).toArray, .int .i64 0]) ∧ (∃ us, Parts cv N us (fun _ => 512) (pbs n (dch d x lf) x) w') ∧ Ext w w' := by
  rcases h with ⟨_, cv, nb, nc, he, hO, hn, hE⟩ | ⟨h, _⟩
  · refine ⟨cv, by rw [he, hroot], ⟨chV nb nc, ?_⟩, hE⟩
    obtain ⟨b, cap, rfl, _, hc, _, hr⟩ := hO.lies h0
    refine ⟨.inr ⟨_, cap, rfl, hc, hr.lie N (Nat.le_refl _)⟩, fun i hi => ?_⟩
    obtain ⟨_, n2, n3⟩ := hn i hi
    exact .inr ⟨_, nc i, rfl, n2, (n3.congr (g' := yv (pbs n (dch d x lf) x i)) fun j _ => by unfold yv; rw [ct_at n d x lf hx N i j hi]).lie 512 (Nat.le_refl _)⟩
  · exact absurd hok h
end Go.Proofs.YtapmheocllicnaaDoor
