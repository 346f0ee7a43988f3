/-
  The law on a nil Hash, walked.
-/
import Derived.Test.YtbejodcgigdjaaaDoorLives
namespace Go.Proofs.YtbejodcgigdjaaaDoor
open Go.RowKit Go.BigFrame
set_option maxRecDepth 20000 in
set_option maxHeartbeats 1000000 in
theorem nobody_any (v : Value) (w : World) (hC : TabC w) : Calls Tryd.prog 7 #[v] w fun e w' => e = .returned (.bool true) ∧ Below w.heap.size w w' := by
  replace hC := hideit hC
  have hb : ∀ X, (Instr.build 24 #[]).run Tryd.prog X = .ok (.agg (row 32 (yv fun _ => 0#8)).toArray) X := fun X => by kernel_rfl
  have hq := eq24 (fun _ => 0#8)
  go_enter Tryd.func7, Tryd.ntmps7
  go_upto_region 3 with (go_at_call 18; refine (nil_write v _).mono ?_; rintro e w' ⟨rfl, hw'⟩; subst hw')
  refine wp_region_lit ?_
  refine wpList_call rfl (by simp [go_sem]) ((lives_any _ hC.out).mono ?_)
  rintro e w1 ⟨rfl, hw1⟩
  refine ⟨_, rfl, ?_⟩
  simp only [Act.put, List.setIfInBounds_toArray, List.set_cons_zero, List.set_cons_succ]
  refine wpList_run rfl (.bool true) (by simp [go_sem]) ?_
  simp only [Act.put, List.setIfInBounds_toArray, List.set_cons_zero, List.set_cons_succ]
  refine wpList_runW rfl (.pointer none) (by simp [go_sem]) ?_
  simp only [Act.put, List.setIfInBounds_toArray, List.set_cons_zero, List.set_cons_succ]
  refine wpList_callW rfl (by simp [go_sem]) ((nil_sum _).mono ?_)
  rintro e w2 ⟨rfl, hw2⟩
  refine ⟨_, rfl, ?_⟩
  simp only [Act.put, List.setIfInBounds_toArray, List.set_cons_zero, List.set_cons_succ]
  refine wpList_buildW rfl 24 [] rfl _ (hb _) ?_
  simp only [Act.put, List.setIfInBounds_toArray, List.set_cons_zero, List.set_cons_succ]
  clear hb
  replace hw1 := hideit hw1
  replace hw2 := hideit hw2
  go_wp2_with (first | (go_at_call 20; refine (nil_len _).mono ?_; rintro e w3 ⟨rfl, hw3⟩; subst hw3) | (go_at_call 17; refine (nil_fork _).mono ?_; rintro e w4 ⟨rfl, hw4⟩; subst hw4))
  go_ret
  exact ⟨rfl, Ext.trans hw1.out hw2.out⟩
end Go.Proofs.YtbejodcgigdjaaaDoor
