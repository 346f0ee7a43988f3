/-
  The walk of PlanBounds.
-/
import Derived.Test.YtchieinmpcdhfaaPl11
namespace Go.Proofs.Ytchieinmpcdhfaa
open Go.RowKit Go.BigFrame
set_option linter.unusedVariables false
set_option maxRecDepth 20000 in
set_option maxHeartbeats 4000000 in
theorem bounds_bad (h : Hd) (x : Int) (w : World) (hk : ¬ okH h) : Calls Try.prog 6 #[.agg (row 24 (hdv h)).toArray, .int .i64 x] w fun e w' => e = .returned (.bool true) ∧ Ext w w' := by
  have hr : Hid (¬ okR h ⟨0#64, true, 0, fun _ => 0#8⟩) := fun q => hk q.1
  obtain ⟨c, w1, hw, hc, H0, hE⟩ := boxes1 w 24 (hdv h) 27
  go_enter Try.func6, Try.ntmps6
  go_upto_region 1 with (fail)
  rw [← hw.out, ← hc.out]
  clear hw hc
  refine wp_region_lit ?_
  refine wpList_run rfl (.agg (row 24 (hdv h)).toArray) (xload 27 (.tmp 2) rfl c 0 24 _ rfl H0.out.range Try.underlying27 rfl infoH) ?_
  simp only [Act.put, List.setIfInBounds_toArray, List.set_cons_zero, List.set_cons_succ]
  refine wpList_call rfl (by simp [go_sem]) ((bound_no h 0 w1 hk).mono ?_)
  rintro e y1 ⟨rfl, hX2⟩
  refine ⟨_, rfl, ?_⟩
  simp only [Act.put, List.setIfInBounds_toArray, List.set_cons_zero, List.set_cons_succ]
  replace H0 := hideit (H0.out.carry hX2)
  replace hE := hideit (Ext.trans hE.out hX2)
  clear hX2
  refine wpList_run rfl (.int .i64 0) (by simp [go_sem]) ?_
  simp only [Act.put, List.setIfInBounds_toArray, List.set_cons_zero, List.set_cons_succ]
  go_upto_region 2 with (fail)
  refine wp_region_lit ?_
  refine wpList_run rfl (.agg (row 24 (hdv h)).toArray) (xload 27 (.tmp 2) rfl c 0 24 _ rfl H0.out.range Try.underlying27 rfl infoH) ?_
  simp only [Act.put, List.setIfInBounds_toArray, List.set_cons_zero, List.set_cons_succ]
  refine wpList_run rfl (.agg (row 35 (rtv ⟨0#64, true, 0, fun _ => 0#8⟩)).toArray) (xbuild 30 [(1, .const (.bool true))] rfl _ (buildR1 y1 true)) ?_
  simp only [Act.put, List.setIfInBounds_toArray, List.set_cons_zero, List.set_cons_succ]
  refine wpList_call rfl (by simp [go_sem]) ((steps_badt h 0#64 0 (fun _ => 0#8) y1 hr.out).mono ?_)
  rintro e y3 ⟨rfl, hX4⟩
  refine ⟨_, rfl, ?_⟩
  simp only [Act.put, List.setIfInBounds_toArray, List.set_cons_zero, List.set_cons_succ]
  replace H0 := hideit (H0.out.carry hX4)
  replace hE := hideit (Ext.trans hE.out hX4)
  clear hX4
  refine wpList_run rfl (.tuple #[.int .i64 0, .int .i64 1]) (by simp [go_sem]) ?_
  simp only [Act.put, List.setIfInBounds_toArray, List.set_cons_zero, List.set_cons_succ]
  refine wpList_run rfl (.int .i64 0) (by simp [go_sem]) ?_
  simp only [Act.put, List.setIfInBounds_toArray, List.set_cons_zero, List.set_cons_succ]
  refine wpList_run rfl (.int .i64 1) (by simp [go_sem]) ?_
  simp only [Act.put, List.setIfInBounds_toArray, List.set_cons_zero, List.set_cons_succ]
  refine wpList_run rfl (.int .i64 0) (by simp [go_sem]) ?_
  simp only [Act.put, List.setIfInBounds_toArray, List.set_cons_zero, List.set_cons_succ]
  refine wpList_run rfl (.int .i64 1) (by simp [go_sem]) ?_
  simp only [Act.put, List.setIfInBounds_toArray, List.set_cons_zero, List.set_cons_succ]
  go_upto_region 3 with (fail)
  refine wp_region_lit ?_
  refine wpList_call rfl (by simp [go_sem]) ((lives_any y3).mono ?_)
  rintro e y5 ⟨rfl, hX6⟩
  refine ⟨_, rfl, ?_⟩
  simp only [Act.put, List.setIfInBounds_toArray, List.set_cons_zero, List.set_cons_succ]
  replace H0 := hideit (H0.out.carry hX6)
  replace hE := hideit (Ext.trans hE.out hX6)
  clear hX6
  refine wpList_run rfl (.bool false) (by simp [go_sem]) ?_
  simp only [Act.put, List.setIfInBounds_toArray, List.set_cons_zero, List.set_cons_succ]
  go_upto_region 5 with (fail)
  refine wp_region_lit ?_
  refine wpList_run rfl (.int .i64 1) (by simp [go_sem]) ?_
  simp only [Act.put, List.setIfInBounds_toArray, List.set_cons_zero, List.set_cons_succ]
  refine wpList_run rfl (.bool true) (by simp [go_sem]) ?_
  simp only [Act.put, List.setIfInBounds_toArray, List.set_cons_zero, List.set_cons_succ]
  go_upto_region 6 with (fail)
  refine wp_region_lit ?_
  refine wpList_run rfl (.int .i64 0) (by simp [go_sem]) ?_
  simp only [Act.put, List.setIfInBounds_toArray, List.set_cons_zero, List.set_cons_succ]
  refine wpList_run rfl (.bool true) (by simp [go_sem]) ?_
  simp only [Act.put, List.setIfInBounds_toArray, List.set_cons_zero, List.set_cons_succ]
  refine wpList_run rfl (.bool true) (by simp [go_sem]) ?_
  simp only [Act.put, List.setIfInBounds_toArray, List.set_cons_zero, List.set_cons_succ]
  refine wpList_runW rfl (.int .i64 0) (by simp [go_sem]) ?_
  simp only [Act.put, List.setIfInBounds_toArray, List.set_cons_zero, List.set_cons_succ]
  refine wpList_runW rfl (.bool true) (by simp [go_sem]) ?_
  simp only [Act.put, List.setIfInBounds_toArray, List.set_cons_zero, List.set_cons_succ]
  refine wpList_run rfl (.bool true) (by simp [go_sem]) ?_
  simp only [Act.put, List.setIfInBounds_toArray, List.set_cons_zero, List.set_cons_succ]
  refine wpList_run rfl (.bool true) (by simp [go_sem]) ?_
  simp only [Act.put, List.setIfInBounds_toArray, List.set_cons_zero, List.set_cons_succ]
  go_wp2
  go_ret
  exact ⟨rfl, hE.out⟩
set_option maxRecDepth 20000 in
set_option maxHeartbeats 4000000 in
theorem bounds_neg (h : Hd) (x : Int) (w : World) (hk : okH h) (a1 : Hid (x < 0)) : Calls Try.prog 6 #[.agg (row 24 (hdv h)).toArray, .int .i64 x] w fun e w' => e = .returned (.bool true) ∧ Ext w w' := by
  have b1 := hideit hk.1.2.1
  have b2 := hideit hk.1.2.2.2.2.1
  have b3 := hideit (sgF_le b2.out.1 ⟨by have := b1.out.1; omega, b1.out.2⟩ b2.out.2)
  have hr : Hid (okR h ⟨0#64, true, 0, fun _ => 0#8⟩) := ⟨hk, by decide, by have := b1.out.1; show 0 ≤ h.se; omega, .inl rfl⟩
  have hr0 : Hid (okR h ⟨0#64, false, 0, fun _ => 0#8⟩) := ⟨hk, by decide, by have := b1.out.1; show 0 ≤ h.se; omega, .inr rfl⟩
  obtain ⟨N, hN⟩ : ∃ N : Int, N = sgF h h.se := ⟨_, rfl⟩
  rw [← hN] at b3
  have n1 : 1 ≤ N := by
    have h1 : (h.se + h.sg - 1).tdiv h.sg = (h.se + h.sg - 1) / h.sg := Int.tdiv_eq_ediv_of_nonneg (by have := b1.out; have := b2.out; omega)
    have h2 : 1 ≤ (h.se + h.sg - 1) / h.sg := Int.le_ediv_of_mul_le (by have := b2.out; omega) (by have := b1.out; omega)
    rw [hN]; unfold sgF; omega
  have e0 := hideit (show bdF h 0 = N by unfold bdF; rw [← hN]; simp)
  have es := hideit (show stF h 0 = N by unfold stF; rw [Int.sub_zero, ← hN, if_neg (by omega)])
  have em := hideit (show bdF h (-1) = N by unfold bdF; rw [← hN]; simp)
  have ew : IntKind.i64.wrap N = N := by have := b3.out; rw [IntKind.wrap_i64]; omega
  replace n1 := hideit n1
  clear hN
  obtain ⟨c, w1, hw, hc, H0, hE⟩ := boxes1 w 24 (hdv h) 27
  go_enter Try.func6, Try.ntmps6
  go_upto_region 1 with (fail)
  rw [← hw.out, ← hc.out]
  clear hw hc
  refine wp_region_lit ?_
  refine wpList_run rfl (.agg (row 24 (hdv h)).toArray) (xload 27 (.tmp 2) rfl c 0 24 _ rfl H0.out.range Try.underlying27 rfl infoH) ?_
  simp only [Act.put, List.setIfInBounds_toArray, List.set_cons_zero, List.set_cons_succ]
  have kk3 := bound_ok h 0 w1 hk (by decide)
  rw [e0.out] at kk3
  refine wpList_call rfl (by simp [go_sem]) ((kk3).mono ?_)
  rintro e y1 ⟨rfl, hX2⟩
  refine ⟨_, rfl, ?_⟩
  simp only [Act.put, List.setIfInBounds_toArray, List.set_cons_zero, List.set_cons_succ]
  replace H0 := hideit (H0.out.carry hX2)
  replace hE := hideit (Ext.trans hE.out hX2)
  clear hX2 kk3
  refine wpList_run rfl (.int .i64 (N)) (by simp [go_sem]) ?_
  simp only [Act.put, List.setIfInBounds_toArray, List.set_cons_zero, List.set_cons_succ]
  go_upto_region 2 with (fail)
  refine wp_region_lit ?_
  refine wpList_run rfl (.agg (row 24 (hdv h)).toArray) (xload 27 (.tmp 2) rfl c 0 24 _ rfl H0.out.range Try.underlying27 rfl infoH) ?_
  simp only [Act.put, List.setIfInBounds_toArray, List.set_cons_zero, List.set_cons_succ]
  refine wpList_run rfl (.agg (row 35 (rtv ⟨0#64, true, 0, fun _ => 0#8⟩)).toArray) (xbuild 30 [(1, .const (.bool true))] rfl _ (buildR1 y1 true)) ?_
  simp only [Act.put, List.setIfInBounds_toArray, List.set_cons_zero, List.set_cons_succ]
  have kk6 := steps_go h 0#64 0 (fun _ => 0#8) y1 hr.out
  rw [es.out] at kk6
  refine wpList_call rfl (by simp [go_sem]) ((kk6).mono ?_)
  rintro e y4 ⟨rfl, hX5⟩
  refine ⟨_, rfl, ?_⟩
  simp only [Act.put, List.setIfInBounds_toArray, List.set_cons_zero, List.set_cons_succ]
  replace H0 := hideit (H0.out.carry hX5)
  replace hE := hideit (Ext.trans hE.out hX5)
  clear hX5 kk6
  refine wpList_run rfl (.tuple #[.int .i64 (N), .int .i64 0]) (by simp [go_sem]) ?_
  simp only [Act.put, List.setIfInBounds_toArray, List.set_cons_zero, List.set_cons_succ]
  refine wpList_run rfl (.int .i64 (N)) (by simp [go_sem]) ?_
  simp only [Act.put, List.setIfInBounds_toArray, List.set_cons_zero, List.set_cons_succ]
  refine wpList_run rfl (.int .i64 0) (by simp [go_sem]) ?_
  simp only [Act.put, List.setIfInBounds_toArray, List.set_cons_zero, List.set_cons_succ]
  refine wpList_run rfl (.int .i64 (N)) (by simp [go_sem]) ?_
  simp only [Act.put, List.setIfInBounds_toArray, List.set_cons_zero, List.set_cons_succ]
  refine wpList_run rfl (.int .i64 0) (by simp [go_sem]) ?_
  simp only [Act.put, List.setIfInBounds_toArray, List.set_cons_zero, List.set_cons_succ]
  go_upto_region 3 with (fail)
  refine wp_region_lit ?_
  refine wpList_call rfl (by simp [go_sem]) ((lives_any y4).mono ?_)
  rintro e y7 ⟨rfl, hX8⟩
  refine ⟨_, rfl, ?_⟩
  simp only [Act.put, List.setIfInBounds_toArray, List.set_cons_zero, List.set_cons_succ]
  replace H0 := hideit (H0.out.carry hX8)
  replace hE := hideit (Ext.trans hE.out hX8)
  clear hX8
  refine wpList_run rfl (.bool false) (by simp [go_sem]) ?_
  simp only [Act.put, List.setIfInBounds_toArray, List.set_cons_zero, List.set_cons_succ]
  go_upto_region 5 with (fail)
  refine wp_region_lit ?_
  refine wpList_run rfl (.int .i64 0) (by simp [go_sem]) ?_
  simp only [Act.put, List.setIfInBounds_toArray, List.set_cons_zero, List.set_cons_succ]
  refine wpList_run rfl (.bool false) (by simp [go_sem]) ?_
  simp only [Act.put, List.setIfInBounds_toArray, List.set_cons_zero, List.set_cons_succ]
  go_upto_region 7 with (fail)
  refine wp_region_lit ?_
  refine wpList_run rfl (.int .i64 (x)) (by simp [go_sem]) ?_
  simp only [Act.put, List.setIfInBounds_toArray, List.set_cons_zero, List.set_cons_succ]
  refine wpList_run rfl (.bool true) (by simp [go_sem, a1.out]) ?_
  simp only [Act.put, List.setIfInBounds_toArray, List.set_cons_zero, List.set_cons_succ]
  refine wpList_run rfl (.bool true) (by simp [go_sem]) ?_
  simp only [Act.put, List.setIfInBounds_toArray, List.set_cons_zero, List.set_cons_succ]
  with_reducible refine xnot (by with_unfolding_all rfl) ?_
  simp only [Act.put, List.setIfInBounds_toArray, List.set_cons_zero, List.set_cons_succ]
  with_reducible refine xnot (by with_unfolding_all rfl) ?_
  simp only [Act.put, List.setIfInBounds_toArray, List.set_cons_zero, List.set_cons_succ]
  refine wpList_run rfl (.bool true) (by simp [go_sem]) ?_
  simp only [Act.put, List.setIfInBounds_toArray, List.set_cons_zero, List.set_cons_succ]
  go_upto_region 8 with (fail)
  refine wp_region_lit ?_
  refine wpList_run rfl (.int .i64 0) (by simp [go_sem]) ?_
  simp only [Act.put, List.setIfInBounds_toArray, List.set_cons_zero, List.set_cons_succ]
  go_upto_region 9 with (fail)
  refine wp_region_lit ?_
  refine wpList_run rfl (.agg (row 24 (hdv h)).toArray) (xload 27 (.tmp 2) rfl c 0 24 _ rfl H0.out.range Try.underlying27 rfl infoH) ?_
  simp only [Act.put, List.setIfInBounds_toArray, List.set_cons_zero, List.set_cons_succ]
  refine wpList_run rfl (.agg (row 35 (rtv ⟨0#64, false, 0, fun _ => 0#8⟩)).toArray) (xbuild 30 [] rfl _ (build30 y7)) ?_
  simp only [Act.put, List.setIfInBounds_toArray, List.set_cons_zero, List.set_cons_succ]
  refine wpList_call rfl (by simp [go_sem]) ((next_idle h 0#64 0 (fun _ => 0#8) y7 hr0.out).mono ?_)
  rintro e y9 ⟨rfl, hX10⟩
  refine ⟨_, rfl, ?_⟩
  simp only [Act.put, List.setIfInBounds_toArray, List.set_cons_zero, List.set_cons_succ]
  replace H0 := hideit (H0.out.carry hX10)
  replace hE := hideit (Ext.trans hE.out hX10)
  clear hX10
  refine wpList_run rfl (.tuple #[.int .i64 0, .int .i64 0, .int .i64 231]) (by simp [go_sem]) ?_
  simp only [Act.put, List.setIfInBounds_toArray, List.set_cons_zero, List.set_cons_succ]
  refine wpList_run rfl (.int .i64 0) (by simp [go_sem]) ?_
  simp only [Act.put, List.setIfInBounds_toArray, List.set_cons_zero, List.set_cons_succ]
  refine wpList_run rfl (.int .i64 0) (by simp [go_sem]) ?_
  simp only [Act.put, List.setIfInBounds_toArray, List.set_cons_zero, List.set_cons_succ]
  refine wpList_run rfl (.int .i64 231) (by simp [go_sem]) ?_
  simp only [Act.put, List.setIfInBounds_toArray, List.set_cons_zero, List.set_cons_succ]
  refine wpList_run rfl (.int .i64 0) (by simp [go_sem]) ?_
  simp only [Act.put, List.setIfInBounds_toArray, List.set_cons_zero, List.set_cons_succ]
  refine wpList_run rfl (.int .i64 0) (by simp [go_sem]) ?_
  simp only [Act.put, List.setIfInBounds_toArray, List.set_cons_zero, List.set_cons_succ]
  refine wpList_run rfl (.int .i64 231) (by simp [go_sem]) ?_
  simp only [Act.put, List.setIfInBounds_toArray, List.set_cons_zero, List.set_cons_succ]
  go_upto_region 10 with (fail)
  refine wp_region_lit ?_
  refine wpList_run rfl (.int .i64 (N)) (by simp [go_sem]) ?_
  simp only [Act.put, List.setIfInBounds_toArray, List.set_cons_zero, List.set_cons_succ]
  refine wpList_run rfl (.int .i64 (N)) (by simp [go_sem]) ?_
  simp only [Act.put, List.setIfInBounds_toArray, List.set_cons_zero, List.set_cons_succ]
  refine wpList_run rfl (.bool true) (by simp [go_sem]) ?_
  simp only [Act.put, List.setIfInBounds_toArray, List.set_cons_zero, List.set_cons_succ]
  refine wpList_run rfl (.bool true) (by simp [go_sem]) ?_
  simp only [Act.put, List.setIfInBounds_toArray, List.set_cons_zero, List.set_cons_succ]
  refine wpList_runW rfl (.agg (row 24 (hdv h)).toArray) (xload 27 (.tmp 2) rfl c 0 24 _ rfl H0.out.range Try.underlying27 rfl infoH) ?_
  simp only [Act.put, List.setIfInBounds_toArray, List.set_cons_zero, List.set_cons_succ]
  refine wpList_runW rfl (.int .i64 0) (by simp [go_sem]) ?_
  simp only [Act.put, List.setIfInBounds_toArray, List.set_cons_zero, List.set_cons_succ]
  have kk13 := bound_ok h 0 y9 hk (by decide)
  rw [e0.out] at kk13
  refine wpList_callW rfl (by simp [go_sem]) ((kk13).mono ?_)
  rintro e y11 ⟨rfl, hX12⟩
  refine ⟨_, rfl, ?_⟩
  simp only [Act.put, List.setIfInBounds_toArray, List.set_cons_zero, List.set_cons_succ]
  replace H0 := hideit (H0.out.carry hX12)
  replace hE := hideit (Ext.trans hE.out hX12)
  clear hX12 kk13
  refine wpList_runW rfl (.int .i64 (N)) (by simp [go_sem]) ?_
  simp only [Act.put, List.setIfInBounds_toArray, List.set_cons_zero, List.set_cons_succ]
  refine wpList_runW rfl (.int .i64 0) (by simp [go_sem]) ?_
  simp only [Act.put, List.setIfInBounds_toArray, List.set_cons_zero, List.set_cons_succ]
  refine wpList_runW rfl (.int .i64 (N)) (by simp [go_sem, ew]) ?_
  simp only [Act.put, List.setIfInBounds_toArray, List.set_cons_zero, List.set_cons_succ]
  refine wpList_runW rfl (.bool true) (by simp [go_sem]) ?_
  simp only [Act.put, List.setIfInBounds_toArray, List.set_cons_zero, List.set_cons_succ]
  refine wpList_run rfl (.bool true) (by simp [go_sem]) ?_
  simp only [Act.put, List.setIfInBounds_toArray, List.set_cons_zero, List.set_cons_succ]
  refine wpList_run rfl (.bool true) (by simp [go_sem]) ?_
  simp only [Act.put, List.setIfInBounds_toArray, List.set_cons_zero, List.set_cons_succ]
  refine wpList_runW rfl (.agg (row 24 (hdv h)).toArray) (xload 27 (.tmp 2) rfl c 0 24 _ rfl H0.out.range Try.underlying27 rfl infoH) ?_
  simp only [Act.put, List.setIfInBounds_toArray, List.set_cons_zero, List.set_cons_succ]
  have kk16 := bound_ok h (-1) y11 hk (by decide)
  rw [em.out] at kk16
  refine wpList_callW rfl (by simp [go_sem]) ((kk16).mono ?_)
  rintro e y14 ⟨rfl, hX15⟩
  refine ⟨_, rfl, ?_⟩
  simp only [Act.put, List.setIfInBounds_toArray, List.set_cons_zero, List.set_cons_succ]
  replace H0 := hideit (H0.out.carry hX15)
  replace hE := hideit (Ext.trans hE.out hX15)
  clear hX15 kk16
  refine wpList_runW rfl (.int .i64 (N)) (by simp [go_sem]) ?_
  simp only [Act.put, List.setIfInBounds_toArray, List.set_cons_zero, List.set_cons_succ]
  refine wpList_runW rfl (.bool true) (by simp [go_sem]) ?_
  simp only [Act.put, List.setIfInBounds_toArray, List.set_cons_zero, List.set_cons_succ]
  refine wpList_run rfl (.bool true) (by simp [go_sem]) ?_
  simp only [Act.put, List.setIfInBounds_toArray, List.set_cons_zero, List.set_cons_succ]
  refine wpList_run rfl (.bool true) (by simp [go_sem]) ?_
  simp only [Act.put, List.setIfInBounds_toArray, List.set_cons_zero, List.set_cons_succ]
  refine wpList_runW rfl (.int .i64 231) (by simp [go_sem]) ?_
  simp only [Act.put, List.setIfInBounds_toArray, List.set_cons_zero, List.set_cons_succ]
  refine wpList_runW rfl (.bool true) (by simp [go_sem]) ?_
  simp only [Act.put, List.setIfInBounds_toArray, List.set_cons_zero, List.set_cons_succ]
  refine wpList_run rfl (.bool true) (by simp [go_sem]) ?_
  simp only [Act.put, List.setIfInBounds_toArray, List.set_cons_zero, List.set_cons_succ]
  refine wpList_run rfl (.bool true) (by simp [go_sem]) ?_
  simp only [Act.put, List.setIfInBounds_toArray, List.set_cons_zero, List.set_cons_succ]
  refine wpList_runW rfl (.int .i64 (N)) (by simp [go_sem]) ?_
  simp only [Act.put, List.setIfInBounds_toArray, List.set_cons_zero, List.set_cons_succ]
  refine wpList_runW rfl (.bool true) (by simp [go_sem, n1.out]) ?_
  simp only [Act.put, List.setIfInBounds_toArray, List.set_cons_zero, List.set_cons_succ]
  refine wpList_run rfl (.bool true) (by simp [go_sem]) ?_
  simp only [Act.put, List.setIfInBounds_toArray, List.set_cons_zero, List.set_cons_succ]
  refine wpList_run rfl (.bool true) (by simp [go_sem]) ?_
  simp only [Act.put, List.setIfInBounds_toArray, List.set_cons_zero, List.set_cons_succ]
  go_wp2
  go_ret
  exact ⟨rfl, hE.out⟩
set_option maxRecDepth 20000 in
set_option maxHeartbeats 4000000 in
theorem bounds_big (h : Hd) (x : Int) (w : World) (hk : okH h) (a1 : Hid (¬ x < 0)) (a2 : Hid (1099511627776 < x)) : Calls Try.prog 6 #[.agg (row 24 (hdv h)).toArray, .int .i64 x] w fun e w' => e = .returned (.bool true) ∧ Ext w w' := by
  have b1 := hideit hk.1.2.1
  have b2 := hideit hk.1.2.2.2.2.1
  have b3 := hideit (sgF_le b2.out.1 ⟨by have := b1.out.1; omega, b1.out.2⟩ b2.out.2)
  have hr : Hid (okR h ⟨0#64, true, 0, fun _ => 0#8⟩) := ⟨hk, by decide, by have := b1.out.1; show 0 ≤ h.se; omega, .inl rfl⟩
  have hr0 : Hid (okR h ⟨0#64, false, 0, fun _ => 0#8⟩) := ⟨hk, by decide, by have := b1.out.1; show 0 ≤ h.se; omega, .inr rfl⟩
  obtain ⟨N, hN⟩ : ∃ N : Int, N = sgF h h.se := ⟨_, rfl⟩
  rw [← hN] at b3
  have n1 : 1 ≤ N := by
    have h1 : (h.se + h.sg - 1).tdiv h.sg = (h.se + h.sg - 1) / h.sg := Int.tdiv_eq_ediv_of_nonneg (by have := b1.out; have := b2.out; omega)
    have h2 : 1 ≤ (h.se + h.sg - 1) / h.sg := Int.le_ediv_of_mul_le (by have := b2.out; omega) (by have := b1.out; omega)
    rw [hN]; unfold sgF; omega
  have e0 := hideit (show bdF h 0 = N by unfold bdF; rw [← hN]; simp)
  have es := hideit (show stF h 0 = N by unfold stF; rw [Int.sub_zero, ← hN, if_neg (by omega)])
  have em := hideit (show bdF h (-1) = N by unfold bdF; rw [← hN]; simp)
  have ew : IntKind.i64.wrap N = N := by have := b3.out; rw [IntKind.wrap_i64]; omega
  replace n1 := hideit n1
  clear hN
  obtain ⟨c, w1, hw, hc, H0, hE⟩ := boxes1 w 24 (hdv h) 27
  go_enter Try.func6, Try.ntmps6
  go_upto_region 1 with (fail)
  rw [← hw.out, ← hc.out]
  clear hw hc
  refine wp_region_lit ?_
  refine wpList_run rfl (.agg (row 24 (hdv h)).toArray) (xload 27 (.tmp 2) rfl c 0 24 _ rfl H0.out.range Try.underlying27 rfl infoH) ?_
  simp only [Act.put, List.setIfInBounds_toArray, List.set_cons_zero, List.set_cons_succ]
  have kk3 := bound_ok h 0 w1 hk (by decide)
  rw [e0.out] at kk3
  refine wpList_call rfl (by simp [go_sem]) ((kk3).mono ?_)
  rintro e y1 ⟨rfl, hX2⟩
  refine ⟨_, rfl, ?_⟩
  simp only [Act.put, List.setIfInBounds_toArray, List.set_cons_zero, List.set_cons_succ]
  replace H0 := hideit (H0.out.carry hX2)
  replace hE := hideit (Ext.trans hE.out hX2)
  clear hX2 kk3
  refine wpList_run rfl (.int .i64 (N)) (by simp [go_sem]) ?_
  simp only [Act.put, List.setIfInBounds_toArray, List.set_cons_zero, List.set_cons_succ]
  go_upto_region 2 with (fail)
  refine wp_region_lit ?_
  refine wpList_run rfl (.agg (row 24 (hdv h)).toArray) (xload 27 (.tmp 2) rfl c 0 24 _ rfl H0.out.range Try.underlying27 rfl infoH) ?_
  simp only [Act.put, List.setIfInBounds_toArray, List.set_cons_zero, List.set_cons_succ]
  refine wpList_run rfl (.agg (row 35 (rtv ⟨0#64, true, 0, fun _ => 0#8⟩)).toArray) (xbuild 30 [(1, .const (.bool true))] rfl _ (buildR1 y1 true)) ?_
  simp only [Act.put, List.setIfInBounds_toArray, List.set_cons_zero, List.set_cons_succ]
  have kk6 := steps_go h 0#64 0 (fun _ => 0#8) y1 hr.out
  rw [es.out] at kk6
  refine wpList_call rfl (by simp [go_sem]) ((kk6).mono ?_)
  rintro e y4 ⟨rfl, hX5⟩
  refine ⟨_, rfl, ?_⟩
  simp only [Act.put, List.setIfInBounds_toArray, List.set_cons_zero, List.set_cons_succ]
  replace H0 := hideit (H0.out.carry hX5)
  replace hE := hideit (Ext.trans hE.out hX5)
  clear hX5 kk6
  refine wpList_run rfl (.tuple #[.int .i64 (N), .int .i64 0]) (by simp [go_sem]) ?_
  simp only [Act.put, List.setIfInBounds_toArray, List.set_cons_zero, List.set_cons_succ]
  refine wpList_run rfl (.int .i64 (N)) (by simp [go_sem]) ?_
  simp only [Act.put, List.setIfInBounds_toArray, List.set_cons_zero, List.set_cons_succ]
  refine wpList_run rfl (.int .i64 0) (by simp [go_sem]) ?_
  simp only [Act.put, List.setIfInBounds_toArray, List.set_cons_zero, List.set_cons_succ]
  refine wpList_run rfl (.int .i64 (N)) (by simp [go_sem]) ?_
  simp only [Act.put, List.setIfInBounds_toArray, List.set_cons_zero, List.set_cons_succ]
  refine wpList_run rfl (.int .i64 0) (by simp [go_sem]) ?_
  simp only [Act.put, List.setIfInBounds_toArray, List.set_cons_zero, List.set_cons_succ]
  go_upto_region 3 with (fail)
  refine wp_region_lit ?_
  refine wpList_call rfl (by simp [go_sem]) ((lives_any y4).mono ?_)
  rintro e y7 ⟨rfl, hX8⟩
  refine ⟨_, rfl, ?_⟩
  simp only [Act.put, List.setIfInBounds_toArray, List.set_cons_zero, List.set_cons_succ]
  replace H0 := hideit (H0.out.carry hX8)
  replace hE := hideit (Ext.trans hE.out hX8)
  clear hX8
  refine wpList_run rfl (.bool false) (by simp [go_sem]) ?_
  simp only [Act.put, List.setIfInBounds_toArray, List.set_cons_zero, List.set_cons_succ]
  go_upto_region 5 with (fail)
  refine wp_region_lit ?_
  refine wpList_run rfl (.int .i64 0) (by simp [go_sem]) ?_
  simp only [Act.put, List.setIfInBounds_toArray, List.set_cons_zero, List.set_cons_succ]
  refine wpList_run rfl (.bool false) (by simp [go_sem]) ?_
  simp only [Act.put, List.setIfInBounds_toArray, List.set_cons_zero, List.set_cons_succ]
  go_upto_region 7 with (fail)
  refine wp_region_lit ?_
  refine wpList_run rfl (.int .i64 (x)) (by simp [go_sem]) ?_
  simp only [Act.put, List.setIfInBounds_toArray, List.set_cons_zero, List.set_cons_succ]
  refine wpList_run rfl (.bool false) (by simp [go_sem, a1.out]) ?_
  simp only [Act.put, List.setIfInBounds_toArray, List.set_cons_zero, List.set_cons_succ]
  refine wpList_run rfl (.bool false) (by simp [go_sem]) ?_
  simp only [Act.put, List.setIfInBounds_toArray, List.set_cons_zero, List.set_cons_succ]
  refine wpList_runW rfl (.int .i64 (x)) (by simp [go_sem]) ?_
  simp only [Act.put, List.setIfInBounds_toArray, List.set_cons_zero, List.set_cons_succ]
  refine wpList_runW rfl (.bool true) (by simp [go_sem, a2.out]) ?_
  simp only [Act.put, List.setIfInBounds_toArray, List.set_cons_zero, List.set_cons_succ]
  refine wpList_run rfl (.bool true) (by simp [go_sem]) ?_
  simp only [Act.put, List.setIfInBounds_toArray, List.set_cons_zero, List.set_cons_succ]
  go_upto_region 8 with (fail)
  refine wp_region_lit ?_
  refine wpList_run rfl (.int .i64 0) (by simp [go_sem]) ?_
  simp only [Act.put, List.setIfInBounds_toArray, List.set_cons_zero, List.set_cons_succ]
  go_upto_region 9 with (fail)
  refine wp_region_lit ?_
  refine wpList_run rfl (.agg (row 24 (hdv h)).toArray) (xload 27 (.tmp 2) rfl c 0 24 _ rfl H0.out.range Try.underlying27 rfl infoH) ?_
  simp only [Act.put, List.setIfInBounds_toArray, List.set_cons_zero, List.set_cons_succ]
  refine wpList_run rfl (.agg (row 35 (rtv ⟨0#64, false, 0, fun _ => 0#8⟩)).toArray) (xbuild 30 [] rfl _ (build30 y7)) ?_
  simp only [Act.put, List.setIfInBounds_toArray, List.set_cons_zero, List.set_cons_succ]
  refine wpList_call rfl (by simp [go_sem]) ((next_idle h 0#64 0 (fun _ => 0#8) y7 hr0.out).mono ?_)
  rintro e y9 ⟨rfl, hX10⟩
  refine ⟨_, rfl, ?_⟩
  simp only [Act.put, List.setIfInBounds_toArray, List.set_cons_zero, List.set_cons_succ]
  replace H0 := hideit (H0.out.carry hX10)
  replace hE := hideit (Ext.trans hE.out hX10)
  clear hX10
  refine wpList_run rfl (.tuple #[.int .i64 0, .int .i64 0, .int .i64 231]) (by simp [go_sem]) ?_
  simp only [Act.put, List.setIfInBounds_toArray, List.set_cons_zero, List.set_cons_succ]
  refine wpList_run rfl (.int .i64 0) (by simp [go_sem]) ?_
  simp only [Act.put, List.setIfInBounds_toArray, List.set_cons_zero, List.set_cons_succ]
  refine wpList_run rfl (.int .i64 0) (by simp [go_sem]) ?_
  simp only [Act.put, List.setIfInBounds_toArray, List.set_cons_zero, List.set_cons_succ]
  refine wpList_run rfl (.int .i64 231) (by simp [go_sem]) ?_
  simp only [Act.put, List.setIfInBounds_toArray, List.set_cons_zero, List.set_cons_succ]
  refine wpList_run rfl (.int .i64 0) (by simp [go_sem]) ?_
  simp only [Act.put, List.setIfInBounds_toArray, List.set_cons_zero, List.set_cons_succ]
  refine wpList_run rfl (.int .i64 0) (by simp [go_sem]) ?_
  simp only [Act.put, List.setIfInBounds_toArray, List.set_cons_zero, List.set_cons_succ]
  refine wpList_run rfl (.int .i64 231) (by simp [go_sem]) ?_
  simp only [Act.put, List.setIfInBounds_toArray, List.set_cons_zero, List.set_cons_succ]
  go_upto_region 10 with (fail)
  refine wp_region_lit ?_
  refine wpList_run rfl (.int .i64 (N)) (by simp [go_sem]) ?_
  simp only [Act.put, List.setIfInBounds_toArray, List.set_cons_zero, List.set_cons_succ]
  refine wpList_run rfl (.int .i64 (N)) (by simp [go_sem]) ?_
  simp only [Act.put, List.setIfInBounds_toArray, List.set_cons_zero, List.set_cons_succ]
  refine wpList_run rfl (.bool true) (by simp [go_sem]) ?_
  simp only [Act.put, List.setIfInBounds_toArray, List.set_cons_zero, List.set_cons_succ]
  refine wpList_run rfl (.bool true) (by simp [go_sem]) ?_
  simp only [Act.put, List.setIfInBounds_toArray, List.set_cons_zero, List.set_cons_succ]
  refine wpList_runW rfl (.agg (row 24 (hdv h)).toArray) (xload 27 (.tmp 2) rfl c 0 24 _ rfl H0.out.range Try.underlying27 rfl infoH) ?_
  simp only [Act.put, List.setIfInBounds_toArray, List.set_cons_zero, List.set_cons_succ]
  refine wpList_runW rfl (.int .i64 0) (by simp [go_sem]) ?_
  simp only [Act.put, List.setIfInBounds_toArray, List.set_cons_zero, List.set_cons_succ]
  have kk13 := bound_ok h 0 y9 hk (by decide)
  rw [e0.out] at kk13
  refine wpList_callW rfl (by simp [go_sem]) ((kk13).mono ?_)
  rintro e y11 ⟨rfl, hX12⟩
  refine ⟨_, rfl, ?_⟩
  simp only [Act.put, List.setIfInBounds_toArray, List.set_cons_zero, List.set_cons_succ]
  replace H0 := hideit (H0.out.carry hX12)
  replace hE := hideit (Ext.trans hE.out hX12)
  clear hX12 kk13
  refine wpList_runW rfl (.int .i64 (N)) (by simp [go_sem]) ?_
  simp only [Act.put, List.setIfInBounds_toArray, List.set_cons_zero, List.set_cons_succ]
  refine wpList_runW rfl (.int .i64 0) (by simp [go_sem]) ?_
  simp only [Act.put, List.setIfInBounds_toArray, List.set_cons_zero, List.set_cons_succ]
  refine wpList_runW rfl (.int .i64 (N)) (by simp [go_sem, ew]) ?_
  simp only [Act.put, List.setIfInBounds_toArray, List.set_cons_zero, List.set_cons_succ]
  refine wpList_runW rfl (.bool true) (by simp [go_sem]) ?_
  simp only [Act.put, List.setIfInBounds_toArray, List.set_cons_zero, List.set_cons_succ]
  refine wpList_run rfl (.bool true) (by simp [go_sem]) ?_
  simp only [Act.put, List.setIfInBounds_toArray, List.set_cons_zero, List.set_cons_succ]
  refine wpList_run rfl (.bool true) (by simp [go_sem]) ?_
  simp only [Act.put, List.setIfInBounds_toArray, List.set_cons_zero, List.set_cons_succ]
  refine wpList_runW rfl (.agg (row 24 (hdv h)).toArray) (xload 27 (.tmp 2) rfl c 0 24 _ rfl H0.out.range Try.underlying27 rfl infoH) ?_
  simp only [Act.put, List.setIfInBounds_toArray, List.set_cons_zero, List.set_cons_succ]
  have kk16 := bound_ok h (-1) y11 hk (by decide)
  rw [em.out] at kk16
  refine wpList_callW rfl (by simp [go_sem]) ((kk16).mono ?_)
  rintro e y14 ⟨rfl, hX15⟩
  refine ⟨_, rfl, ?_⟩
  simp only [Act.put, List.setIfInBounds_toArray, List.set_cons_zero, List.set_cons_succ]
  replace H0 := hideit (H0.out.carry hX15)
  replace hE := hideit (Ext.trans hE.out hX15)
  clear hX15 kk16
  refine wpList_runW rfl (.int .i64 (N)) (by simp [go_sem]) ?_
  simp only [Act.put, List.setIfInBounds_toArray, List.set_cons_zero, List.set_cons_succ]
  refine wpList_runW rfl (.bool true) (by simp [go_sem]) ?_
  simp only [Act.put, List.setIfInBounds_toArray, List.set_cons_zero, List.set_cons_succ]
  refine wpList_run rfl (.bool true) (by simp [go_sem]) ?_
  simp only [Act.put, List.setIfInBounds_toArray, List.set_cons_zero, List.set_cons_succ]
  refine wpList_run rfl (.bool true) (by simp [go_sem]) ?_
  simp only [Act.put, List.setIfInBounds_toArray, List.set_cons_zero, List.set_cons_succ]
  refine wpList_runW rfl (.int .i64 231) (by simp [go_sem]) ?_
  simp only [Act.put, List.setIfInBounds_toArray, List.set_cons_zero, List.set_cons_succ]
  refine wpList_runW rfl (.bool true) (by simp [go_sem]) ?_
  simp only [Act.put, List.setIfInBounds_toArray, List.set_cons_zero, List.set_cons_succ]
  refine wpList_run rfl (.bool true) (by simp [go_sem]) ?_
  simp only [Act.put, List.setIfInBounds_toArray, List.set_cons_zero, List.set_cons_succ]
  refine wpList_run rfl (.bool true) (by simp [go_sem]) ?_
  simp only [Act.put, List.setIfInBounds_toArray, List.set_cons_zero, List.set_cons_succ]
  refine wpList_runW rfl (.int .i64 (N)) (by simp [go_sem]) ?_
  simp only [Act.put, List.setIfInBounds_toArray, List.set_cons_zero, List.set_cons_succ]
  refine wpList_runW rfl (.bool true) (by simp [go_sem, n1.out]) ?_
  simp only [Act.put, List.setIfInBounds_toArray, List.set_cons_zero, List.set_cons_succ]
  refine wpList_run rfl (.bool true) (by simp [go_sem]) ?_
  simp only [Act.put, List.setIfInBounds_toArray, List.set_cons_zero, List.set_cons_succ]
  refine wpList_run rfl (.bool true) (by simp [go_sem]) ?_
  simp only [Act.put, List.setIfInBounds_toArray, List.set_cons_zero, List.set_cons_succ]
  go_wp2
  go_ret
  exact ⟨rfl, hE.out⟩
set_option maxRecDepth 20000 in
set_option maxHeartbeats 4000000 in
theorem bounds_mid (h : Hd) (x : Int) (w : World) (hk : okH h) (a1 : Hid (¬ x < 0)) (a2 : Hid (¬ 1099511627776 < x)) : Calls Try.prog 6 #[.agg (row 24 (hdv h)).toArray, .int .i64 x] w fun e w' => e = .returned (.bool true) ∧ Ext w w' := by
  have b1 := hideit hk.1.2.1
  have b2 := hideit hk.1.2.2.2.2.1
  have b3 := hideit (sgF_le b2.out.1 ⟨by have := b1.out.1; omega, b1.out.2⟩ b2.out.2)
  have hr : Hid (okR h ⟨0#64, true, 0, fun _ => 0#8⟩) := ⟨hk, by decide, by have := b1.out.1; show 0 ≤ h.se; omega, .inl rfl⟩
  have hr0 : Hid (okR h ⟨0#64, false, 0, fun _ => 0#8⟩) := ⟨hk, by decide, by have := b1.out.1; show 0 ≤ h.se; omega, .inr rfl⟩
  obtain ⟨N, hN⟩ : ∃ N : Int, N = sgF h h.se := ⟨_, rfl⟩
  rw [← hN] at b3
  have n1 : 1 ≤ N := by
    have h1 : (h.se + h.sg - 1).tdiv h.sg = (h.se + h.sg - 1) / h.sg := Int.tdiv_eq_ediv_of_nonneg (by have := b1.out; have := b2.out; omega)
    have h2 : 1 ≤ (h.se + h.sg - 1) / h.sg := Int.le_ediv_of_mul_le (by have := b2.out; omega) (by have := b1.out; omega)
    rw [hN]; unfold sgF; omega
  have e0 := hideit (show bdF h 0 = N by unfold bdF; rw [← hN]; simp)
  have es := hideit (show stF h 0 = N by unfold stF; rw [Int.sub_zero, ← hN, if_neg (by omega)])
  have em := hideit (show bdF h (-1) = N by unfold bdF; rw [← hN]; simp)
  have ex := hideit (show bdF h x = N + x by have := a1.out; unfold bdF; rw [← hN]; split <;> omega)
  have ew : IntKind.i64.wrap (N + x) = N + x := by have := b3.out; have := a1.out; have := a2.out; rw [IntKind.wrap_i64]; omega
  replace n1 := hideit n1
  clear hN
  obtain ⟨c, w1, hw, hc, H0, hE⟩ := boxes1 w 24 (hdv h) 27
  go_enter Try.func6, Try.ntmps6
  go_upto_region 1 with (fail)
  rw [← hw.out, ← hc.out]
  clear hw hc
  refine wp_region_lit ?_
  refine wpList_run rfl (.agg (row 24 (hdv h)).toArray) (xload 27 (.tmp 2) rfl c 0 24 _ rfl H0.out.range Try.underlying27 rfl infoH) ?_
  simp only [Act.put, List.setIfInBounds_toArray, List.set_cons_zero, List.set_cons_succ]
  have kk3 := bound_ok h 0 w1 hk (by decide)
  rw [e0.out] at kk3
  refine wpList_call rfl (by simp [go_sem]) ((kk3).mono ?_)
  rintro e y1 ⟨rfl, hX2⟩
  refine ⟨_, rfl, ?_⟩
  simp only [Act.put, List.setIfInBounds_toArray, List.set_cons_zero, List.set_cons_succ]
  replace H0 := hideit (H0.out.carry hX2)
  replace hE := hideit (Ext.trans hE.out hX2)
  clear hX2 kk3
  refine wpList_run rfl (.int .i64 (N)) (by simp [go_sem]) ?_
  simp only [Act.put, List.setIfInBounds_toArray, List.set_cons_zero, List.set_cons_succ]
  go_upto_region 2 with (fail)
  refine wp_region_lit ?_
  refine wpList_run rfl (.agg (row 24 (hdv h)).toArray) (xload 27 (.tmp 2) rfl c 0 24 _ rfl H0.out.range Try.underlying27 rfl infoH) ?_
  simp only [Act.put, List.setIfInBounds_toArray, List.set_cons_zero, List.set_cons_succ]
  refine wpList_run rfl (.agg (row 35 (rtv ⟨0#64, true, 0, fun _ => 0#8⟩)).toArray) (xbuild 30 [(1, .const (.bool true))] rfl _ (buildR1 y1 true)) ?_
  simp only [Act.put, List.setIfInBounds_toArray, List.set_cons_zero, List.set_cons_succ]
  have kk6 := steps_go h 0#64 0 (fun _ => 0#8) y1 hr.out
  rw [es.out] at kk6
  refine wpList_call rfl (by simp [go_sem]) ((kk6).mono ?_)
  rintro e y4 ⟨rfl, hX5⟩
  refine ⟨_, rfl, ?_⟩
  simp only [Act.put, List.setIfInBounds_toArray, List.set_cons_zero, List.set_cons_succ]
  replace H0 := hideit (H0.out.carry hX5)
  replace hE := hideit (Ext.trans hE.out hX5)
  clear hX5 kk6
  refine wpList_run rfl (.tuple #[.int .i64 (N), .int .i64 0]) (by simp [go_sem]) ?_
  simp only [Act.put, List.setIfInBounds_toArray, List.set_cons_zero, List.set_cons_succ]
  refine wpList_run rfl (.int .i64 (N)) (by simp [go_sem]) ?_
  simp only [Act.put, List.setIfInBounds_toArray, List.set_cons_zero, List.set_cons_succ]
  refine wpList_run rfl (.int .i64 0) (by simp [go_sem]) ?_
  simp only [Act.put, List.setIfInBounds_toArray, List.set_cons_zero, List.set_cons_succ]
  refine wpList_run rfl (.int .i64 (N)) (by simp [go_sem]) ?_
  simp only [Act.put, List.setIfInBounds_toArray, List.set_cons_zero, List.set_cons_succ]
  refine wpList_run rfl (.int .i64 0) (by simp [go_sem]) ?_
  simp only [Act.put, List.setIfInBounds_toArray, List.set_cons_zero, List.set_cons_succ]
  go_upto_region 3 with (fail)
  refine wp_region_lit ?_
  refine wpList_call rfl (by simp [go_sem]) ((lives_any y4).mono ?_)
  rintro e y7 ⟨rfl, hX8⟩
  refine ⟨_, rfl, ?_⟩
  simp only [Act.put, List.setIfInBounds_toArray, List.set_cons_zero, List.set_cons_succ]
  replace H0 := hideit (H0.out.carry hX8)
  replace hE := hideit (Ext.trans hE.out hX8)
  clear hX8
  refine wpList_run rfl (.bool false) (by simp [go_sem]) ?_
  simp only [Act.put, List.setIfInBounds_toArray, List.set_cons_zero, List.set_cons_succ]
  go_upto_region 5 with (fail)
  refine wp_region_lit ?_
  refine wpList_run rfl (.int .i64 0) (by simp [go_sem]) ?_
  simp only [Act.put, List.setIfInBounds_toArray, List.set_cons_zero, List.set_cons_succ]
  refine wpList_run rfl (.bool false) (by simp [go_sem]) ?_
  simp only [Act.put, List.setIfInBounds_toArray, List.set_cons_zero, List.set_cons_succ]
  go_upto_region 7 with (fail)
  refine wp_region_lit ?_
  refine wpList_run rfl (.int .i64 (x)) (by simp [go_sem]) ?_
  simp only [Act.put, List.setIfInBounds_toArray, List.set_cons_zero, List.set_cons_succ]
  refine wpList_run rfl (.bool false) (by simp [go_sem, a1.out]) ?_
  simp only [Act.put, List.setIfInBounds_toArray, List.set_cons_zero, List.set_cons_succ]
  refine wpList_run rfl (.bool false) (by simp [go_sem]) ?_
  simp only [Act.put, List.setIfInBounds_toArray, List.set_cons_zero, List.set_cons_succ]
  refine wpList_runW rfl (.int .i64 (x)) (by simp [go_sem]) ?_
  simp only [Act.put, List.setIfInBounds_toArray, List.set_cons_zero, List.set_cons_succ]
  refine wpList_runW rfl (.bool false) (by simp [go_sem, a2.out]) ?_
  simp only [Act.put, List.setIfInBounds_toArray, List.set_cons_zero, List.set_cons_succ]
  refine wpList_run rfl (.bool false) (by simp [go_sem]) ?_
  simp only [Act.put, List.setIfInBounds_toArray, List.set_cons_zero, List.set_cons_succ]
  go_upto_region 9 with (fail)
  refine wp_region_lit ?_
  refine wpList_run rfl (.agg (row 24 (hdv h)).toArray) (xload 27 (.tmp 2) rfl c 0 24 _ rfl H0.out.range Try.underlying27 rfl infoH) ?_
  simp only [Act.put, List.setIfInBounds_toArray, List.set_cons_zero, List.set_cons_succ]
  refine wpList_run rfl (.agg (row 35 (rtv ⟨0#64, false, 0, fun _ => 0#8⟩)).toArray) (xbuild 30 [] rfl _ (build30 y7)) ?_
  simp only [Act.put, List.setIfInBounds_toArray, List.set_cons_zero, List.set_cons_succ]
  refine wpList_call rfl (by simp [go_sem]) ((next_idle h 0#64 0 (fun _ => 0#8) y7 hr0.out).mono ?_)
  rintro e y9 ⟨rfl, hX10⟩
  refine ⟨_, rfl, ?_⟩
  simp only [Act.put, List.setIfInBounds_toArray, List.set_cons_zero, List.set_cons_succ]
  replace H0 := hideit (H0.out.carry hX10)
  replace hE := hideit (Ext.trans hE.out hX10)
  clear hX10
  refine wpList_run rfl (.tuple #[.int .i64 0, .int .i64 0, .int .i64 231]) (by simp [go_sem]) ?_
  simp only [Act.put, List.setIfInBounds_toArray, List.set_cons_zero, List.set_cons_succ]
  refine wpList_run rfl (.int .i64 0) (by simp [go_sem]) ?_
  simp only [Act.put, List.setIfInBounds_toArray, List.set_cons_zero, List.set_cons_succ]
  refine wpList_run rfl (.int .i64 0) (by simp [go_sem]) ?_
  simp only [Act.put, List.setIfInBounds_toArray, List.set_cons_zero, List.set_cons_succ]
  refine wpList_run rfl (.int .i64 231) (by simp [go_sem]) ?_
  simp only [Act.put, List.setIfInBounds_toArray, List.set_cons_zero, List.set_cons_succ]
  refine wpList_run rfl (.int .i64 0) (by simp [go_sem]) ?_
  simp only [Act.put, List.setIfInBounds_toArray, List.set_cons_zero, List.set_cons_succ]
  refine wpList_run rfl (.int .i64 0) (by simp [go_sem]) ?_
  simp only [Act.put, List.setIfInBounds_toArray, List.set_cons_zero, List.set_cons_succ]
  refine wpList_run rfl (.int .i64 231) (by simp [go_sem]) ?_
  simp only [Act.put, List.setIfInBounds_toArray, List.set_cons_zero, List.set_cons_succ]
  go_upto_region 10 with (fail)
  refine wp_region_lit ?_
  refine wpList_run rfl (.int .i64 (N)) (by simp [go_sem]) ?_
  simp only [Act.put, List.setIfInBounds_toArray, List.set_cons_zero, List.set_cons_succ]
  refine wpList_run rfl (.int .i64 (N)) (by simp [go_sem]) ?_
  simp only [Act.put, List.setIfInBounds_toArray, List.set_cons_zero, List.set_cons_succ]
  refine wpList_run rfl (.bool true) (by simp [go_sem]) ?_
  simp only [Act.put, List.setIfInBounds_toArray, List.set_cons_zero, List.set_cons_succ]
  refine wpList_run rfl (.bool true) (by simp [go_sem]) ?_
  simp only [Act.put, List.setIfInBounds_toArray, List.set_cons_zero, List.set_cons_succ]
  refine wpList_runW rfl (.agg (row 24 (hdv h)).toArray) (xload 27 (.tmp 2) rfl c 0 24 _ rfl H0.out.range Try.underlying27 rfl infoH) ?_
  simp only [Act.put, List.setIfInBounds_toArray, List.set_cons_zero, List.set_cons_succ]
  refine wpList_runW rfl (.int .i64 (x)) (by simp [go_sem]) ?_
  simp only [Act.put, List.setIfInBounds_toArray, List.set_cons_zero, List.set_cons_succ]
  have kk13 := bound_ok h x y9 hk (by have := a2.out; omega)
  rw [ex.out] at kk13
  refine wpList_callW rfl (by simp [go_sem]) ((kk13).mono ?_)
  rintro e y11 ⟨rfl, hX12⟩
  refine ⟨_, rfl, ?_⟩
  simp only [Act.put, List.setIfInBounds_toArray, List.set_cons_zero, List.set_cons_succ]
  replace H0 := hideit (H0.out.carry hX12)
  replace hE := hideit (Ext.trans hE.out hX12)
  clear hX12 kk13
  refine wpList_runW rfl (.int .i64 (N)) (by simp [go_sem]) ?_
  simp only [Act.put, List.setIfInBounds_toArray, List.set_cons_zero, List.set_cons_succ]
  refine wpList_runW rfl (.int .i64 (x)) (by simp [go_sem]) ?_
  simp only [Act.put, List.setIfInBounds_toArray, List.set_cons_zero, List.set_cons_succ]
  refine wpList_runW rfl (.int .i64 (N + x)) (by simp [go_sem, ew]) ?_
  simp only [Act.put, List.setIfInBounds_toArray, List.set_cons_zero, List.set_cons_succ]
  refine wpList_runW rfl (.bool true) (by simp [go_sem]) ?_
  simp only [Act.put, List.setIfInBounds_toArray, List.set_cons_zero, List.set_cons_succ]
  refine wpList_run rfl (.bool true) (by simp [go_sem]) ?_
  simp only [Act.put, List.setIfInBounds_toArray, List.set_cons_zero, List.set_cons_succ]
  refine wpList_run rfl (.bool true) (by simp [go_sem]) ?_
  simp only [Act.put, List.setIfInBounds_toArray, List.set_cons_zero, List.set_cons_succ]
  refine wpList_runW rfl (.agg (row 24 (hdv h)).toArray) (xload 27 (.tmp 2) rfl c 0 24 _ rfl H0.out.range Try.underlying27 rfl infoH) ?_
  simp only [Act.put, List.setIfInBounds_toArray, List.set_cons_zero, List.set_cons_succ]
  have kk16 := bound_ok h (-1) y11 hk (by decide)
  rw [em.out] at kk16
  refine wpList_callW rfl (by simp [go_sem]) ((kk16).mono ?_)
  rintro e y14 ⟨rfl, hX15⟩
  refine ⟨_, rfl, ?_⟩
  simp only [Act.put, List.setIfInBounds_toArray, List.set_cons_zero, List.set_cons_succ]
  replace H0 := hideit (H0.out.carry hX15)
  replace hE := hideit (Ext.trans hE.out hX15)
  clear hX15 kk16
  refine wpList_runW rfl (.int .i64 (N)) (by simp [go_sem]) ?_
  simp only [Act.put, List.setIfInBounds_toArray, List.set_cons_zero, List.set_cons_succ]
  refine wpList_runW rfl (.bool true) (by simp [go_sem]) ?_
  simp only [Act.put, List.setIfInBounds_toArray, List.set_cons_zero, List.set_cons_succ]
  refine wpList_run rfl (.bool true) (by simp [go_sem]) ?_
  simp only [Act.put, List.setIfInBounds_toArray, List.set_cons_zero, List.set_cons_succ]
  refine wpList_run rfl (.bool true) (by simp [go_sem]) ?_
  simp only [Act.put, List.setIfInBounds_toArray, List.set_cons_zero, List.set_cons_succ]
  refine wpList_runW rfl (.int .i64 231) (by simp [go_sem]) ?_
  simp only [Act.put, List.setIfInBounds_toArray, List.set_cons_zero, List.set_cons_succ]
  refine wpList_runW rfl (.bool true) (by simp [go_sem]) ?_
  simp only [Act.put, List.setIfInBounds_toArray, List.set_cons_zero, List.set_cons_succ]
  refine wpList_run rfl (.bool true) (by simp [go_sem]) ?_
  simp only [Act.put, List.setIfInBounds_toArray, List.set_cons_zero, List.set_cons_succ]
  refine wpList_run rfl (.bool true) (by simp [go_sem]) ?_
  simp only [Act.put, List.setIfInBounds_toArray, List.set_cons_zero, List.set_cons_succ]
  refine wpList_runW rfl (.int .i64 (N)) (by simp [go_sem]) ?_
  simp only [Act.put, List.setIfInBounds_toArray, List.set_cons_zero, List.set_cons_succ]
  refine wpList_runW rfl (.bool true) (by simp [go_sem, n1.out]) ?_
  simp only [Act.put, List.setIfInBounds_toArray, List.set_cons_zero, List.set_cons_succ]
  refine wpList_run rfl (.bool true) (by simp [go_sem]) ?_
  simp only [Act.put, List.setIfInBounds_toArray, List.set_cons_zero, List.set_cons_succ]
  refine wpList_run rfl (.bool true) (by simp [go_sem]) ?_
  simp only [Act.put, List.setIfInBounds_toArray, List.set_cons_zero, List.set_cons_succ]
  go_wp2
  go_ret
  exact ⟨rfl, hE.out⟩
end Go.Proofs.Ytchieinmpcdhfaa
