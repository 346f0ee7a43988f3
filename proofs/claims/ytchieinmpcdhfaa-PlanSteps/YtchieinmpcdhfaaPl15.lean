/-
  The walk of PlanSteps.
-/
import Derived.Test.YtchieinmpcdhfaaPl11
namespace Go.Proofs.Ytchieinmpcdhfaa
open Go.RowKit Go.BigFrame
set_option linter.unusedVariables false
theorem rtv_t3 (r : Rt) (j : Nat) : rtv r (3 + j) = .int .u8 ((r.tr j).toNat : Int) := by
  unfold rtv
  rw [if_neg (by omega), if_neg (by omega), if_neg (by omega), show 3 + j - 3 = j by omega]
theorem info28 : (Try.prog.info? 28).map (·.size) = some 32 := by kernel_rfl
theorem neq28 (f : Nat → BitVec 8) (w : World) : (binOp .neq 28 (.agg (row 32 fun j => .int .u8 ((f j).toNat : Int)).toArray) (.agg (row 32 fun j => .int .u8 ((f j).toNat : Int)).toArray)).run Try.prog w = .ok (.bool false) w := by
  have e := equalIn_row (P := Try.prog) 9998 28 5 32 .u8 Try.underlying28 Try.underlying5 Try.sizeOf5 (fun j => ((f j).toNat : Int)) (fun j => ((f j).toNat : Int)) w
  rw [all_iff] at e
  rw [run_neq_struct]
  show ((Op.equalIn (9998 + 2) 28 (.agg (row 32 fun j => .int .u8 ((f j).toNat : Int)).toArray) (.agg (row 32 fun j => .int .u8 ((f j).toNat : Int)).toArray)).run Try.prog w).andThen _ = _
  rw [e]
  simp
theorem st_bd {h : Hd} {ct : BitVec 64} {fr : Int} {tr : Nat → BitVec 8} (hk : okR h ⟨ct, true, fr, tr⟩) : stF h fr ≤ bdF h 0 := by
  have q := okR_b hk
  have q3 : 0 ≤ fr := q.2.2.1
  have q4 : fr ≤ h.se := q.2.2.2
  have h1 : (h.se + h.sg - 1).tdiv h.sg = (h.se + h.sg - 1) / h.sg := Int.tdiv_eq_ediv_of_nonneg (by omega)
  have h2 : 1 ≤ (h.se + h.sg - 1) / h.sg := Int.le_ediv_of_mul_le (by omega) (by omega)
  have h3 : (h.se - fr + h.sg - 1).tdiv h.sg = (h.se - fr + h.sg - 1) / h.sg := Int.tdiv_eq_ediv_of_nonneg (by omega)
  have h4 : (h.se - fr + h.sg - 1) / h.sg ≤ (h.se + h.sg - 1) / h.sg := Int.ediv_le_ediv (by omega) (by omega)
  unfold stF bdF sgF
  rw [h1, h3]
  split <;> simp <;> omega
/-- where the next step begins -/
def atK (h : Hd) (fr : Int) (k : Nat) : Int := if (k : Int) < stF h fr then fr + k * h.sg else h.se
set_option maxRecDepth 20000 in
set_option maxHeartbeats 4000000 in
theorem stp_idle (h : Hd) (ct : BitVec 64) (fr : Int) (tr : Nat → BitVec 8) (w : World) (hk : okR h ⟨ct, false, fr, tr⟩) : Calls Try.prog 4 #[.agg (row 24 (hdv h)).toArray, .agg (row 35 (rtv ⟨ct, false, fr, tr⟩)).toArray] w fun e w' => e = .returned (.bool true) ∧ Ext w w' := by
  obtain ⟨c, d, w1, hw, hd, hc, H0, H1, hE⟩ := boxes2 w 24 (hdv h) 27 35 (rtv ⟨ct, false, fr, tr⟩) 30
  go_enter Try.func4, Try.ntmps4
  go_upto_region 1 with (fail)
  rw [← hw.out, ← hd.out, ← hc.out]
  clear hw hd hc
  refine wp_region_lit ?_
  refine wpList_run rfl (.agg (row 24 (hdv h)).toArray) (xload 27 (.tmp 2) rfl c 0 24 _ rfl H0.out.range Try.underlying27 rfl infoH) ?_
  simp only [Act.put, List.setIfInBounds_toArray, List.set_cons_zero, List.set_cons_succ]
  refine wpList_run rfl (.agg (row 35 (rtv ⟨ct, false, fr, tr⟩)).toArray) (xload 30 (.tmp 3) rfl d 0 35 _ rfl H1.out.range Try.underlying30 rfl infoR) ?_
  simp only [Act.put, List.setIfInBounds_toArray, List.set_cons_zero, List.set_cons_succ]
  refine wpList_call rfl (by simp [go_sem]) ((steps_idle h ct fr tr w1 hk).mono ?_)
  rintro e y1 ⟨rfl, hX2⟩
  refine ⟨_, rfl, ?_⟩
  simp only [Act.put, List.setIfInBounds_toArray, List.set_cons_zero, List.set_cons_succ]
  replace H0 := hideit (H0.out.carry hX2)
  replace H1 := hideit (H1.out.carry hX2)
  replace hE := hideit (Ext.trans hE.out hX2)
  clear hX2
  refine wpList_run rfl (.tuple #[.int .i64 0, .int .i64 0]) (by simp [go_sem]) ?_
  simp only [Act.put, List.setIfInBounds_toArray, List.set_cons_zero, List.set_cons_succ]
  refine wpList_run rfl (.int .i64 0) (by simp [go_sem]) ?_
  simp only [Act.put, List.setIfInBounds_toArray, List.set_cons_zero, List.set_cons_succ]
  refine wpList_run rfl (.int .i64 0) (by simp [go_sem]) ?_
  simp only [Act.put, List.setIfInBounds_toArray, List.set_cons_zero, List.set_cons_succ]
  refine wpList_run rfl (.int .i64 0) (by simp [go_sem]) ?_
  simp only [Act.put, List.setIfInBounds_toArray, List.set_cons_zero, List.set_cons_succ]
  refine wpList_run rfl (.int .i64 0) (by simp [go_sem]) ?_
  simp only [Act.put, List.setIfInBounds_toArray, List.set_cons_zero, List.set_cons_succ]
  go_upto_region 2 with (fail)
  refine wp_region_lit ?_
  refine wpList_call rfl (by simp [go_sem]) ((lives_any y1).mono ?_)
  rintro e y3 ⟨rfl, hX4⟩
  refine ⟨_, rfl, ?_⟩
  simp only [Act.put, List.setIfInBounds_toArray, List.set_cons_zero, List.set_cons_succ]
  replace H0 := hideit (H0.out.carry hX4)
  replace H1 := hideit (H1.out.carry hX4)
  replace hE := hideit (Ext.trans hE.out hX4)
  clear hX4
  refine wpList_run rfl (.bool false) (by simp [go_sem]) ?_
  simp only [Act.put, List.setIfInBounds_toArray, List.set_cons_zero, List.set_cons_succ]
  go_upto_region 4 with (fail)
  refine wp_region_lit ?_
  refine wpList_run rfl (.int .i64 0) (by simp [go_sem]) ?_
  simp only [Act.put, List.setIfInBounds_toArray, List.set_cons_zero, List.set_cons_succ]
  refine wpList_run rfl (.bool false) (by simp [go_sem]) ?_
  simp only [Act.put, List.setIfInBounds_toArray, List.set_cons_zero, List.set_cons_succ]
  go_upto_region 6 with (fail)
  refine wp_region_lit ?_
  refine wpList_run rfl (.pointer (some ⟨d, 1, none⟩)) (by simp [go_sem]) ?_
  simp only [Act.put, List.setIfInBounds_toArray, List.set_cons_zero, List.set_cons_succ]
  have m5 : y3.cell? ⟨d, 1, none⟩ = some (.bool false) := H1.out.1 1 (by decide)
  refine wpList_run rfl (.bool false) (by simp [go_sem, m5]) ?_
  simp only [Act.put, List.setIfInBounds_toArray, List.set_cons_zero, List.set_cons_succ]
  clear m5
  refine wpList_run rfl (.bool true) (by simp [go_sem]) ?_
  simp only [Act.put, List.setIfInBounds_toArray, List.set_cons_zero, List.set_cons_succ]
  go_upto_region 7 with (fail)
  refine wp_region_lit ?_
  refine wpList_run rfl (.int .i64 0) (by simp [go_sem]) ?_
  simp only [Act.put, List.setIfInBounds_toArray, List.set_cons_zero, List.set_cons_succ]
  refine wpList_run rfl (.bool true) (by simp [go_sem]) ?_
  simp only [Act.put, List.setIfInBounds_toArray, List.set_cons_zero, List.set_cons_succ]
  refine wpList_run rfl (.bool true) (by simp [go_sem]) ?_
  simp only [Act.put, List.setIfInBounds_toArray, List.set_cons_zero, List.set_cons_succ]
  go_wp2
  go_ret
  exact ⟨rfl, hE.out⟩
set_option maxRecDepth 20000 in
set_option maxHeartbeats 4000000 in
theorem stp_badt (h : Hd) (ct : BitVec 64) (fr : Int) (tr : Nat → BitVec 8) (w : World) (hk : ¬ okR h ⟨ct, true, fr, tr⟩) : Calls Try.prog 4 #[.agg (row 24 (hdv h)).toArray, .agg (row 35 (rtv ⟨ct, true, fr, tr⟩)).toArray] w fun e w' => e = .returned (.bool true) ∧ Ext w w' := by
  obtain ⟨c, d, w1, hw, hd, hc, H0, H1, hE⟩ := boxes2 w 24 (hdv h) 27 35 (rtv ⟨ct, true, fr, tr⟩) 30
  go_enter Try.func4, Try.ntmps4
  go_upto_region 1 with (fail)
  rw [← hw.out, ← hd.out, ← hc.out]
  clear hw hd hc
  refine wp_region_lit ?_
  refine wpList_run rfl (.agg (row 24 (hdv h)).toArray) (xload 27 (.tmp 2) rfl c 0 24 _ rfl H0.out.range Try.underlying27 rfl infoH) ?_
  simp only [Act.put, List.setIfInBounds_toArray, List.set_cons_zero, List.set_cons_succ]
  refine wpList_run rfl (.agg (row 35 (rtv ⟨ct, true, fr, tr⟩)).toArray) (xload 30 (.tmp 3) rfl d 0 35 _ rfl H1.out.range Try.underlying30 rfl infoR) ?_
  simp only [Act.put, List.setIfInBounds_toArray, List.set_cons_zero, List.set_cons_succ]
  refine wpList_call rfl (by simp [go_sem]) ((steps_badt h ct fr tr w1 hk).mono ?_)
  rintro e y1 ⟨rfl, hX2⟩
  refine ⟨_, rfl, ?_⟩
  simp only [Act.put, List.setIfInBounds_toArray, List.set_cons_zero, List.set_cons_succ]
  replace H0 := hideit (H0.out.carry hX2)
  replace H1 := hideit (H1.out.carry hX2)
  replace hE := hideit (Ext.trans hE.out hX2)
  clear hX2
  refine wpList_run rfl (.tuple #[.int .i64 0, .int .i64 1]) (by simp [go_sem]) ?_
  simp only [Act.put, List.setIfInBounds_toArray, List.set_cons_zero, List.set_cons_succ]
  refine wpList_run rfl (.int .i64 0) (by simp [go_sem]) ?_
  simp only [Act.put, List.setIfInBounds_toArray, List.set_cons_zero, List.set_cons_succ]
  refine wpList_run rfl (.int .i64 1) (by simp [go_sem]) ?_
  simp only [Act.put, List.setIfInBounds_toArray, List.set_cons_zero, List.set_cons_succ]
  refine wpList_run rfl (.int .i64 0) (by simp [go_sem]) ?_
  simp only [Act.put, List.setIfInBounds_toArray, List.set_cons_zero, List.set_cons_succ]
  refine wpList_run rfl (.int .i64 1) (by simp [go_sem]) ?_
  simp only [Act.put, List.setIfInBounds_toArray, List.set_cons_zero, List.set_cons_succ]
  go_upto_region 2 with (fail)
  refine wp_region_lit ?_
  refine wpList_call rfl (by simp [go_sem]) ((lives_any y1).mono ?_)
  rintro e y3 ⟨rfl, hX4⟩
  refine ⟨_, rfl, ?_⟩
  simp only [Act.put, List.setIfInBounds_toArray, List.set_cons_zero, List.set_cons_succ]
  replace H0 := hideit (H0.out.carry hX4)
  replace H1 := hideit (H1.out.carry hX4)
  replace hE := hideit (Ext.trans hE.out hX4)
  clear hX4
  refine wpList_run rfl (.bool false) (by simp [go_sem]) ?_
  simp only [Act.put, List.setIfInBounds_toArray, List.set_cons_zero, List.set_cons_succ]
  go_upto_region 4 with (fail)
  refine wp_region_lit ?_
  refine wpList_run rfl (.int .i64 1) (by simp [go_sem]) ?_
  simp only [Act.put, List.setIfInBounds_toArray, List.set_cons_zero, List.set_cons_succ]
  refine wpList_run rfl (.bool true) (by simp [go_sem]) ?_
  simp only [Act.put, List.setIfInBounds_toArray, List.set_cons_zero, List.set_cons_succ]
  go_upto_region 5 with (fail)
  refine wp_region_lit ?_
  refine wpList_run rfl (.agg (row 24 (hdv h)).toArray) (xload 27 (.tmp 2) rfl c 0 24 _ rfl H0.out.range Try.underlying27 rfl infoH) ?_
  simp only [Act.put, List.setIfInBounds_toArray, List.set_cons_zero, List.set_cons_succ]
  refine wpList_run rfl (.agg (row 35 (rtv ⟨ct, true, fr, tr⟩)).toArray) (xload 30 (.tmp 3) rfl d 0 35 _ rfl H1.out.range Try.underlying30 rfl infoR) ?_
  simp only [Act.put, List.setIfInBounds_toArray, List.set_cons_zero, List.set_cons_succ]
  refine wpList_call rfl (by simp [go_sem]) ((rmay_any h ⟨ct, true, fr, tr⟩ y3 false (iff_of_false (by decide) hk)).mono ?_)
  rintro e y5 ⟨rfl, hX6⟩
  refine ⟨_, rfl, ?_⟩
  simp only [Act.put, List.setIfInBounds_toArray, List.set_cons_zero, List.set_cons_succ]
  replace H0 := hideit (H0.out.carry hX6)
  replace H1 := hideit (H1.out.carry hX6)
  replace hE := hideit (Ext.trans hE.out hX6)
  clear hX6
  refine wpList_run rfl (.bool true) (by simp [go_sem]) ?_
  simp only [Act.put, List.setIfInBounds_toArray, List.set_cons_zero, List.set_cons_succ]
  refine wpList_run rfl (.bool true) (by simp [go_sem]) ?_
  simp only [Act.put, List.setIfInBounds_toArray, List.set_cons_zero, List.set_cons_succ]
  go_wp2
  go_ret
  exact ⟨rfl, hE.out⟩
set_option maxRecDepth 20000 in
set_option maxHeartbeats 4000000 in
theorem stp_badf (h : Hd) (ct : BitVec 64) (fr : Int) (tr : Nat → BitVec 8) (w : World) (hk : ¬ okR h ⟨ct, false, fr, tr⟩) : Calls Try.prog 4 #[.agg (row 24 (hdv h)).toArray, .agg (row 35 (rtv ⟨ct, false, fr, tr⟩)).toArray] w fun e w' => e = .returned (.bool true) ∧ Ext w w' := by
  obtain ⟨c, d, w1, hw, hd, hc, H0, H1, hE⟩ := boxes2 w 24 (hdv h) 27 35 (rtv ⟨ct, false, fr, tr⟩) 30
  go_enter Try.func4, Try.ntmps4
  go_upto_region 1 with (fail)
  rw [← hw.out, ← hd.out, ← hc.out]
  clear hw hd hc
  refine wp_region_lit ?_
  refine wpList_run rfl (.agg (row 24 (hdv h)).toArray) (xload 27 (.tmp 2) rfl c 0 24 _ rfl H0.out.range Try.underlying27 rfl infoH) ?_
  simp only [Act.put, List.setIfInBounds_toArray, List.set_cons_zero, List.set_cons_succ]
  refine wpList_run rfl (.agg (row 35 (rtv ⟨ct, false, fr, tr⟩)).toArray) (xload 30 (.tmp 3) rfl d 0 35 _ rfl H1.out.range Try.underlying30 rfl infoR) ?_
  simp only [Act.put, List.setIfInBounds_toArray, List.set_cons_zero, List.set_cons_succ]
  refine wpList_call rfl (by simp [go_sem]) ((steps_badf h ct fr tr w1 hk).mono ?_)
  rintro e y1 ⟨rfl, hX2⟩
  refine ⟨_, rfl, ?_⟩
  simp only [Act.put, List.setIfInBounds_toArray, List.set_cons_zero, List.set_cons_succ]
  replace H0 := hideit (H0.out.carry hX2)
  replace H1 := hideit (H1.out.carry hX2)
  replace hE := hideit (Ext.trans hE.out hX2)
  clear hX2
  refine wpList_run rfl (.tuple #[.int .i64 0, .int .i64 1]) (by simp [go_sem]) ?_
  simp only [Act.put, List.setIfInBounds_toArray, List.set_cons_zero, List.set_cons_succ]
  refine wpList_run rfl (.int .i64 0) (by simp [go_sem]) ?_
  simp only [Act.put, List.setIfInBounds_toArray, List.set_cons_zero, List.set_cons_succ]
  refine wpList_run rfl (.int .i64 1) (by simp [go_sem]) ?_
  simp only [Act.put, List.setIfInBounds_toArray, List.set_cons_zero, List.set_cons_succ]
  refine wpList_run rfl (.int .i64 0) (by simp [go_sem]) ?_
  simp only [Act.put, List.setIfInBounds_toArray, List.set_cons_zero, List.set_cons_succ]
  refine wpList_run rfl (.int .i64 1) (by simp [go_sem]) ?_
  simp only [Act.put, List.setIfInBounds_toArray, List.set_cons_zero, List.set_cons_succ]
  go_upto_region 2 with (fail)
  refine wp_region_lit ?_
  refine wpList_call rfl (by simp [go_sem]) ((lives_any y1).mono ?_)
  rintro e y3 ⟨rfl, hX4⟩
  refine ⟨_, rfl, ?_⟩
  simp only [Act.put, List.setIfInBounds_toArray, List.set_cons_zero, List.set_cons_succ]
  replace H0 := hideit (H0.out.carry hX4)
  replace H1 := hideit (H1.out.carry hX4)
  replace hE := hideit (Ext.trans hE.out hX4)
  clear hX4
  refine wpList_run rfl (.bool false) (by simp [go_sem]) ?_
  simp only [Act.put, List.setIfInBounds_toArray, List.set_cons_zero, List.set_cons_succ]
  go_upto_region 4 with (fail)
  refine wp_region_lit ?_
  refine wpList_run rfl (.int .i64 1) (by simp [go_sem]) ?_
  simp only [Act.put, List.setIfInBounds_toArray, List.set_cons_zero, List.set_cons_succ]
  refine wpList_run rfl (.bool true) (by simp [go_sem]) ?_
  simp only [Act.put, List.setIfInBounds_toArray, List.set_cons_zero, List.set_cons_succ]
  go_upto_region 5 with (fail)
  refine wp_region_lit ?_
  refine wpList_run rfl (.agg (row 24 (hdv h)).toArray) (xload 27 (.tmp 2) rfl c 0 24 _ rfl H0.out.range Try.underlying27 rfl infoH) ?_
  simp only [Act.put, List.setIfInBounds_toArray, List.set_cons_zero, List.set_cons_succ]
  refine wpList_run rfl (.agg (row 35 (rtv ⟨ct, false, fr, tr⟩)).toArray) (xload 30 (.tmp 3) rfl d 0 35 _ rfl H1.out.range Try.underlying30 rfl infoR) ?_
  simp only [Act.put, List.setIfInBounds_toArray, List.set_cons_zero, List.set_cons_succ]
  refine wpList_call rfl (by simp [go_sem]) ((rmay_any h ⟨ct, false, fr, tr⟩ y3 false (iff_of_false (by decide) hk)).mono ?_)
  rintro e y5 ⟨rfl, hX6⟩
  refine ⟨_, rfl, ?_⟩
  simp only [Act.put, List.setIfInBounds_toArray, List.set_cons_zero, List.set_cons_succ]
  replace H0 := hideit (H0.out.carry hX6)
  replace H1 := hideit (H1.out.carry hX6)
  replace hE := hideit (Ext.trans hE.out hX6)
  clear hX6
  refine wpList_run rfl (.bool true) (by simp [go_sem]) ?_
  simp only [Act.put, List.setIfInBounds_toArray, List.set_cons_zero, List.set_cons_succ]
  refine wpList_run rfl (.bool true) (by simp [go_sem]) ?_
  simp only [Act.put, List.setIfInBounds_toArray, List.set_cons_zero, List.set_cons_succ]
  go_wp2
  go_ret
  exact ⟨rfl, hE.out⟩
set_option maxRecDepth 20000 in
set_option maxHeartbeats 4000000 in
theorem stp_go (h : Hd) (ct : BitVec 64) (fr : Int) (tr : Nat → BitVec 8) (w : World) (hk : okR h ⟨ct, true, fr, tr⟩) : Calls Try.prog 4 #[.agg (row 24 (hdv h)).toArray, .agg (row 35 (rtv ⟨ct, true, fr, tr⟩)).toArray] w fun e w' => e = .returned (.bool true) ∧ Ext w w' := by
  have hb := hideit (stF_le (okR_b hk))
  have hbd := hideit (st_bd hk)
  obtain ⟨N, hN⟩ : ∃ N, stF h fr = N := ⟨_, rfl⟩
  rw [hN] at hb hbd
  replace hN := hideit hN
  obtain ⟨c, d, w1, hw, hd, hc, H0, H1, hE⟩ := boxes2 w 24 (hdv h) 27 35 (rtv ⟨ct, true, fr, tr⟩) 30
  have hne : Hid (c ≠ d ∧ w.heap.size ≤ c ∧ w.heap.size ≤ d) := by
    have e1 := hd.out; have e2 := hc.out; exact ⟨by omega, by omega, by omega⟩
  have hdw : Hid (w.heap.size ≤ d) := hne.out.2.2
  have hcd : Hid (c ≠ d) := hne.out.1
  clear hne
  go_enter Try.func4, Try.ntmps4
  go_upto_region 1 with (fail)
  rw [← hw.out, ← hd.out, ← hc.out]
  clear hw hd hc
  refine wp_region_lit ?_
  refine wpList_run rfl (.agg (row 24 (hdv h)).toArray) (xload 27 (.tmp 2) rfl c 0 24 _ rfl H0.out.range Try.underlying27 rfl infoH) ?_
  simp only [Act.put, List.setIfInBounds_toArray, List.set_cons_zero, List.set_cons_succ]
  refine wpList_run rfl (.agg (row 35 (rtv ⟨ct, true, fr, tr⟩)).toArray) (xload 30 (.tmp 3) rfl d 0 35 _ rfl H1.out.range Try.underlying30 rfl infoR) ?_
  simp only [Act.put, List.setIfInBounds_toArray, List.set_cons_zero, List.set_cons_succ]
  have kk3 := steps_go h ct fr tr w1 hk
  rw [hN.out] at kk3
  refine wpList_call rfl (by simp [go_sem]) ((kk3).mono ?_)
  rintro e y1 ⟨rfl, hX2⟩
  refine ⟨_, rfl, ?_⟩
  simp only [Act.put, List.setIfInBounds_toArray, List.set_cons_zero, List.set_cons_succ]
  replace H0 := hideit (H0.out.carry hX2)
  replace H1 := hideit (H1.out.carry hX2)
  replace hE := hideit (Ext.trans hE.out hX2)
  clear hX2 kk3
  refine wpList_run rfl (.tuple #[.int .i64 (N), .int .i64 0]) (by simp [go_sem]) ?_
  simp only [Act.put, List.setIfInBounds_toArray, List.set_cons_zero, List.set_cons_succ]
  refine wpList_run rfl (.int .i64 (N)) (by simp [go_sem]) ?_
  simp only [Act.put, List.setIfInBounds_toArray, List.set_cons_zero, List.set_cons_succ]
  refine wpList_run rfl (.int .i64 0) (by simp [go_sem]) ?_
  simp only [Act.put, List.setIfInBounds_toArray, List.set_cons_zero, List.set_cons_succ]
  refine wpList_run rfl (.int .i64 (N)) (by simp [go_sem]) ?_
  simp only [Act.put, List.setIfInBounds_toArray, List.set_cons_zero, List.set_cons_succ]
  refine wpList_run rfl (.int .i64 0) (by simp [go_sem]) ?_
  simp only [Act.put, List.setIfInBounds_toArray, List.set_cons_zero, List.set_cons_succ]
  go_upto_region 2 with (fail)
  refine wp_region_lit ?_
  refine wpList_call rfl (by simp [go_sem]) ((lives_any y1).mono ?_)
  rintro e y4 ⟨rfl, hX5⟩
  refine ⟨_, rfl, ?_⟩
  simp only [Act.put, List.setIfInBounds_toArray, List.set_cons_zero, List.set_cons_succ]
  replace H0 := hideit (H0.out.carry hX5)
  replace H1 := hideit (H1.out.carry hX5)
  replace hE := hideit (Ext.trans hE.out hX5)
  clear hX5
  refine wpList_run rfl (.bool false) (by simp [go_sem]) ?_
  simp only [Act.put, List.setIfInBounds_toArray, List.set_cons_zero, List.set_cons_succ]
  go_upto_region 4 with (fail)
  refine wp_region_lit ?_
  refine wpList_run rfl (.int .i64 0) (by simp [go_sem]) ?_
  simp only [Act.put, List.setIfInBounds_toArray, List.set_cons_zero, List.set_cons_succ]
  refine wpList_run rfl (.bool false) (by simp [go_sem]) ?_
  simp only [Act.put, List.setIfInBounds_toArray, List.set_cons_zero, List.set_cons_succ]
  go_upto_region 6 with (fail)
  refine wp_region_lit ?_
  refine wpList_run rfl (.pointer (some ⟨d, 1, none⟩)) (by simp [go_sem]) ?_
  simp only [Act.put, List.setIfInBounds_toArray, List.set_cons_zero, List.set_cons_succ]
  have m6 : y4.cell? ⟨d, 1, none⟩ = some (.bool true) := H1.out.1 1 (by decide)
  refine wpList_run rfl (.bool true) (by simp [go_sem, m6]) ?_
  simp only [Act.put, List.setIfInBounds_toArray, List.set_cons_zero, List.set_cons_succ]
  clear m6
  refine wpList_run rfl (.bool false) (by simp [go_sem]) ?_
  simp only [Act.put, List.setIfInBounds_toArray, List.set_cons_zero, List.set_cons_succ]
  go_upto_region 8 with (fail)
  refine wp_region_lit ?_
  refine wpList_run rfl (.pointer (some ⟨d, 2, none⟩)) (by simp [go_sem]) ?_
  simp only [Act.put, List.setIfInBounds_toArray, List.set_cons_zero, List.set_cons_succ]
  have m7 : y4.cell? ⟨d, 2, none⟩ = some (.int .i64 (fr)) := H1.out.1 2 (by decide)
  refine wpList_run rfl (.int .i64 (fr)) (by simp [go_sem, m7]) ?_
  simp only [Act.put, List.setIfInBounds_toArray, List.set_cons_zero, List.set_cons_succ]
  clear m7
  refine wpList_run rfl (.int .i64 (fr)) (by simp [go_sem]) ?_
  simp only [Act.put, List.setIfInBounds_toArray, List.set_cons_zero, List.set_cons_succ]
  go_upto_region 9 with (fail)
  refine wp_region_lit ?_
  refine wpList_run rfl (.int .i64 0) (by simp [go_sem]) ?_
  simp only [Act.put, List.setIfInBounds_toArray, List.set_cons_zero, List.set_cons_succ]
  go_wp2
  go_loopw [7, 8] (fun t i X => ∃ k : Nat, (k : Int) ≤ N ∧ i = .int .i64 (k : Int) ∧ t = .int .i64 (atK h fr k) ∧ RowAt c 24 (hdv h) X ∧ RowAt d 35 (rtv (rS h ct fr tr k)) X ∧ Ext w X) (fun _ i _ => 1040 - (intOf i).toNat)
  case atStart => exact ⟨0, by have := hb.out.1; omega, rfl, by unfold atK; rw [if_pos (by have := hb.out.1; rw [hN.out]; omega)]; simp, H0.out, by rw [rS_lt (by have := hb.out.1; rw [hN.out]; omega)]; simpa using H1.out, hE.out⟩
  case round =>
    obtain ⟨k, hkN, rfl, rfl, r0, r1, hX⟩ := hrel
    clear H0 H1 hE
    replace r0 := hideit r0
    replace hX := hideit hX
    by_cases hlt : (k : Int) < N
    · have hlt' : (k : Int) < stF h fr := by rw [hN.out]; exact hlt
      rw [rS_lt hlt'] at r1
      have eat : atK h fr k = fr + k * h.sg := if_pos hlt'
      rw [eat]
      obtain ⟨ho, hon, hend⟩ := rS_on hk hlt'
      have ek : IntKind.i64.wrap ((k : Int) + 1) = ((k + 1 : Nat) : Int) := by have := hb.out; rw [IntKind.wrap_i64]; omega
      have eN : IntKind.i64.wrap (N - 1) = N - 1 := by have := hb.out; rw [IntKind.wrap_i64]; omega
      rw [hN.out] at hon hend
      obtain ⟨x, hx⟩ : ∃ x : Int, x = fr + k * h.sg := ⟨_, rfl⟩
      rw [← hx] at ho hon hend r1 ⊢
      replace r1 := hideit r1
      replace hlt := hideit hlt
      replace hkN := hideit hkN
      clear hlt' eat
      have hq := okR_b ho
      have hq3 : 0 ≤ x := hq.2.2.1
      have hq4 : x ≤ h.se := hq.2.2.2
      obtain ⟨u, hu⟩ : ∃ u : Int, u = nxT h x := ⟨_, rfl⟩
      have t1 : Hid (¬ u < x) := hideit (by rw [hu]; unfold nxT; split <;> omega)
      have t2 : Hid (¬ h.sg < u - x) := hideit (by rw [hu]; unfold nxT; split <;> omega)
      have tw : IntKind.i64.wrap (u - x) = u - x := by have h9 : u ≤ 2000 ∧ 0 ≤ u := (by rw [hu]; unfold nxT; split <;> omega); rw [IntKind.wrap_i64]; omega
      clear hq hq3 hq4
      replace hx := hideit hx
      replace hu := hideit hu
      by_cases hl : (k : Int) + 1 < N
      · have hon2 := hideit (hon hl)
        have hkn : Hid (¬ (k : Int) = N - 1) := hideit (by omega)
        replace hl := hideit hl
        clear hend hon
        go_upto_region 10 with (fail)
        refine wp_region_lit ?_
        refine wpList_run rfl (.int .i64 (k : Int)) (by simp [go_sem]) ?_
        simp only [Act.put, List.setIfInBounds_toArray, List.set_cons_zero, List.set_cons_succ]
        refine wpList_run rfl (.int .i64 (N)) (by simp [go_sem]) ?_
        simp only [Act.put, List.setIfInBounds_toArray, List.set_cons_zero, List.set_cons_succ]
        refine wpList_run rfl (.bool true) (by simp [go_sem, hlt.out]) ?_
        simp only [Act.put, List.setIfInBounds_toArray, List.set_cons_zero, List.set_cons_succ]
        go_upto_region 12 with (fail)
        refine wp_region_lit ?_
        refine wpList_run rfl (.agg (row 24 (hdv h)).toArray) (xload 27 (.tmp 2) rfl c 0 24 _ rfl r0.out.range Try.underlying27 rfl infoH) ?_
        simp only [Act.put, List.setIfInBounds_toArray, List.set_cons_zero, List.set_cons_succ]
        refine wpList_run rfl (.agg (row 35 (rtv ⟨ct, true, x, tr⟩)).toArray) (xload 30 (.tmp 3) rfl d 0 35 _ rfl r1.out.range Try.underlying30 rfl infoR) ?_
        simp only [Act.put, List.setIfInBounds_toArray, List.set_cons_zero, List.set_cons_succ]
        have kk10 := next_go h ct x tr wr ho
        rw [← hu.out] at kk10
        refine wpList_call rfl (by simp [go_sem]) ((kk10).mono ?_)
        rintro e y8 ⟨rfl, hX9⟩
        refine ⟨_, rfl, ?_⟩
        simp only [Act.put, List.setIfInBounds_toArray, List.set_cons_zero, List.set_cons_succ]
        replace r0 := hideit (r0.out.carry hX9)
        replace r1 := hideit (r1.out.carry hX9)
        replace hX := hideit (Ext.trans hX.out hX9)
        clear hX9 kk10
        refine wpList_run rfl (.tuple #[.int .i64 (x), .int .i64 (u), .int .i64 0]) (by simp [go_sem]) ?_
        simp only [Act.put, List.setIfInBounds_toArray, List.set_cons_zero, List.set_cons_succ]
        refine wpList_run rfl (.int .i64 (x)) (by simp [go_sem]) ?_
        simp only [Act.put, List.setIfInBounds_toArray, List.set_cons_zero, List.set_cons_succ]
        refine wpList_run rfl (.int .i64 (u)) (by simp [go_sem]) ?_
        simp only [Act.put, List.setIfInBounds_toArray, List.set_cons_zero, List.set_cons_succ]
        refine wpList_run rfl (.int .i64 0) (by simp [go_sem]) ?_
        simp only [Act.put, List.setIfInBounds_toArray, List.set_cons_zero, List.set_cons_succ]
        refine wpList_run rfl (.int .i64 (x)) (by simp [go_sem]) ?_
        simp only [Act.put, List.setIfInBounds_toArray, List.set_cons_zero, List.set_cons_succ]
        refine wpList_run rfl (.int .i64 (u)) (by simp [go_sem]) ?_
        simp only [Act.put, List.setIfInBounds_toArray, List.set_cons_zero, List.set_cons_succ]
        refine wpList_run rfl (.int .i64 0) (by simp [go_sem]) ?_
        simp only [Act.put, List.setIfInBounds_toArray, List.set_cons_zero, List.set_cons_succ]
        go_upto_region 13 with (fail)
        refine wp_region_lit ?_
        refine wpList_run rfl (.agg (row 24 (hdv h)).toArray) (xload 27 (.tmp 2) rfl c 0 24 _ rfl r0.out.range Try.underlying27 rfl infoH) ?_
        simp only [Act.put, List.setIfInBounds_toArray, List.set_cons_zero, List.set_cons_succ]
        refine wpList_run rfl (.agg (row 35 (rtv ⟨ct, true, x, tr⟩)).toArray) (xload 30 (.tmp 3) rfl d 0 35 _ rfl r1.out.range Try.underlying30 rfl infoR) ?_
        simp only [Act.put, List.setIfInBounds_toArray, List.set_cons_zero, List.set_cons_succ]
        have kk13 := after_on h ct x tr y8 ho (hideit (by have := hon2.out.1; omega)) hon2.out.1
        rw [← hu.out] at kk13
        refine wpList_call rfl (by simp [go_sem]) ((kk13).mono ?_)
        rintro e y11 ⟨rfl, hX12⟩
        refine ⟨_, rfl, ?_⟩
        simp only [Act.put, List.setIfInBounds_toArray, List.set_cons_zero, List.set_cons_succ]
        replace r0 := hideit (r0.out.carry hX12)
        replace r1 := hideit (r1.out.carry hX12)
        replace hX := hideit (Ext.trans hX.out hX12)
        clear hX12 kk13
        refine wpList_run rfl (.tuple #[.agg (row 35 (rtv ⟨ct, true, u, tr⟩)).toArray, .bool false, .int .i64 0]) (by simp [go_sem]) ?_
        simp only [Act.put, List.setIfInBounds_toArray, List.set_cons_zero, List.set_cons_succ]
        refine wpList_run rfl (.agg (row 35 (rtv ⟨ct, true, u, tr⟩)).toArray) (by simp [go_sem]) ?_
        simp only [Act.put, List.setIfInBounds_toArray, List.set_cons_zero, List.set_cons_succ]
        refine wpList_run rfl (.bool false) (by simp [go_sem]) ?_
        simp only [Act.put, List.setIfInBounds_toArray, List.set_cons_zero, List.set_cons_succ]
        refine wpList_run rfl (.int .i64 0) (by simp [go_sem]) ?_
        simp only [Act.put, List.setIfInBounds_toArray, List.set_cons_zero, List.set_cons_succ]
        have A0 := hideit (RowAt.new y11 35 (rtv rt0) 30)
        have A1 := hideit (r0.out.alloc (.cells (row 35 (rtv rt0)).toArray 30))
        have A2 := hideit (r1.out.alloc (.cells (row 35 (rtv rt0)).toArray 30))
        have AE := hideit (Below.alloc hX.out (Below.size hX.out) (.cells (row 35 (rtv rt0)).toArray 30))
        have AB := hideit (Below.size hX.out)
        have D0 : Hid (c ≠ y11.heap.size) := Nat.ne_of_lt r0.out.2.2
        have D1 : Hid (d ≠ y11.heap.size) := Nat.ne_of_lt r1.out.2.2
        refine wpList_to rfl (.pointer (some ⟨y11.heap.size, 0, none⟩)) (y11.alloc (.cells (row 35 (rtv rt0)).toArray 30)) (xalloc 30 (row 35 (rtv rt0)).toArray rfl (zero30 y11)) ?_
        simp only [Act.put, List.setIfInBounds_toArray, List.set_cons_zero, List.set_cons_succ]
        generalize y11.alloc (.cells (row 35 (rtv rt0)).toArray 30) = x15 at A0 A1 A2 AE ⊢
        obtain ⟨z14, ez14⟩ : ∃ b, b = y11.heap.size := ⟨_, rfl⟩
        rw [← ez14] at A0 D0 D1 AB ⊢
        clear ez14
        have Hz14 := A0
        clear A0
        replace r0 := A1
        clear A1
        replace r1 := A2
        clear A2
        replace hX := AE
        clear AE
        have ABz14 := AB
        clear AB
        have Dz14_0 := D0
        clear D0
        have Dz14_1 := D1
        clear D1
        have N0 := hideit (Hz14.out.cells (g' := rtv ⟨ct, true, u, tr⟩))
        have N1 := hideit (r0.out.cellsOther (Ne.symm (Dz14_0.out)) (row 35 (rtv ⟨ct, true, u, tr⟩)) 0)
        have N2 := hideit (r1.out.cellsOther (Ne.symm (Dz14_1.out)) (row 35 (rtv ⟨ct, true, u, tr⟩)) 0)
        have NE := hideit (below_setCells z14 (ABz14.out) (row 35 (rtv ⟨ct, true, u, tr⟩)) 0 _ hX.out)
        refine xst rfl (x15.setCells z14 0 (row 35 (rtv ⟨ct, true, u, tr⟩))) (xstore 30 (.tmp 12) (.tmp 52) rfl z14 35 _ (rtv ⟨ct, true, u, tr⟩) rfl rfl Hz14.out infoR (fun j _ => rtv_one _ j)) ?_
        simp only [Act.put]
        generalize x15.setCells z14 0 (row 35 (rtv ⟨ct, true, u, tr⟩)) = x16 at N0 N1 N2 NE ⊢
        replace Hz14 := N0
        replace r0 := N1
        replace r1 := N2
        replace hX := NE
        clear N0 N1 N2 NE 
        refine wpList_run rfl (.bool false) (by simp [go_sem]) ?_
        simp only [Act.put, List.setIfInBounds_toArray, List.set_cons_zero, List.set_cons_succ]
        refine wpList_run rfl (.int .i64 0) (by simp [go_sem]) ?_
        simp only [Act.put, List.setIfInBounds_toArray, List.set_cons_zero, List.set_cons_succ]
        go_upto_region 14 with (fail)
        refine wp_region_lit ?_
        refine wpList_run rfl (.int .i64 0) (by simp [go_sem]) ?_
        simp only [Act.put, List.setIfInBounds_toArray, List.set_cons_zero, List.set_cons_succ]
        refine wpList_run rfl (.bool false) (by simp [go_sem]) ?_
        simp only [Act.put, List.setIfInBounds_toArray, List.set_cons_zero, List.set_cons_succ]
        refine wpList_run rfl (.bool false) (by simp [go_sem]) ?_
        simp only [Act.put, List.setIfInBounds_toArray, List.set_cons_zero, List.set_cons_succ]
        refine wpList_runW rfl (.int .i64 0) (by simp [go_sem]) ?_
        simp only [Act.put, List.setIfInBounds_toArray, List.set_cons_zero, List.set_cons_succ]
        refine wpList_runW rfl (.bool false) (by simp [go_sem]) ?_
        simp only [Act.put, List.setIfInBounds_toArray, List.set_cons_zero, List.set_cons_succ]
        refine wpList_run rfl (.bool false) (by simp [go_sem]) ?_
        simp only [Act.put, List.setIfInBounds_toArray, List.set_cons_zero, List.set_cons_succ]
        refine wpList_run rfl (.bool false) (by simp [go_sem]) ?_
        simp only [Act.put, List.setIfInBounds_toArray, List.set_cons_zero, List.set_cons_succ]
        refine wpList_runW rfl (.int .i64 (x)) (by simp [go_sem]) ?_
        simp only [Act.put, List.setIfInBounds_toArray, List.set_cons_zero, List.set_cons_succ]
        refine wpList_runW rfl (.int .i64 (x)) (by simp [go_sem]) ?_
        simp only [Act.put, List.setIfInBounds_toArray, List.set_cons_zero, List.set_cons_succ]
        refine wpList_runW rfl (.bool false) (by simp [go_sem]) ?_
        simp only [Act.put, List.setIfInBounds_toArray, List.set_cons_zero, List.set_cons_succ]
        refine wpList_run rfl (.bool false) (by simp [go_sem]) ?_
        simp only [Act.put, List.setIfInBounds_toArray, List.set_cons_zero, List.set_cons_succ]
        refine wpList_run rfl (.bool false) (by simp [go_sem]) ?_
        simp only [Act.put, List.setIfInBounds_toArray, List.set_cons_zero, List.set_cons_succ]
        refine wpList_runW rfl (.int .i64 (u)) (by simp [go_sem]) ?_
        simp only [Act.put, List.setIfInBounds_toArray, List.set_cons_zero, List.set_cons_succ]
        refine wpList_runW rfl (.int .i64 (x)) (by simp [go_sem]) ?_
        simp only [Act.put, List.setIfInBounds_toArray, List.set_cons_zero, List.set_cons_succ]
        refine wpList_runW rfl (.bool false) (by simp [go_sem, t1.out]) ?_
        simp only [Act.put, List.setIfInBounds_toArray, List.set_cons_zero, List.set_cons_succ]
        refine wpList_run rfl (.bool false) (by simp [go_sem]) ?_
        simp only [Act.put, List.setIfInBounds_toArray, List.set_cons_zero, List.set_cons_succ]
        refine wpList_run rfl (.bool false) (by simp [go_sem]) ?_
        simp only [Act.put, List.setIfInBounds_toArray, List.set_cons_zero, List.set_cons_succ]
        refine wpList_runW rfl (.int .i64 (u)) (by simp [go_sem]) ?_
        simp only [Act.put, List.setIfInBounds_toArray, List.set_cons_zero, List.set_cons_succ]
        refine wpList_runW rfl (.int .i64 (x)) (by simp [go_sem]) ?_
        simp only [Act.put, List.setIfInBounds_toArray, List.set_cons_zero, List.set_cons_succ]
        refine wpList_runW rfl (.int .i64 (u - x)) (by simp [go_sem, tw]) ?_
        simp only [Act.put, List.setIfInBounds_toArray, List.set_cons_zero, List.set_cons_succ]
        refine wpList_runW rfl (.pointer (some ⟨c, 4, none⟩)) (by simp [go_sem]) ?_
        simp only [Act.put, List.setIfInBounds_toArray, List.set_cons_zero, List.set_cons_succ]
        have m17 : x16.cell? ⟨c, 4, none⟩ = some (.int .i64 (h.sg)) := r0.out.1 4 (by decide)
        refine wpList_runW rfl (.int .i64 (h.sg)) (by simp [go_sem, m17]) ?_
        simp only [Act.put, List.setIfInBounds_toArray, List.set_cons_zero, List.set_cons_succ]
        clear m17
        refine wpList_runW rfl (.bool false) (by simp [go_sem, t2.out]) ?_
        simp only [Act.put, List.setIfInBounds_toArray, List.set_cons_zero, List.set_cons_succ]
        refine wpList_run rfl (.bool false) (by simp [go_sem]) ?_
        simp only [Act.put, List.setIfInBounds_toArray, List.set_cons_zero, List.set_cons_succ]
        refine wpList_run rfl (.bool false) (by simp [go_sem]) ?_
        simp only [Act.put, List.setIfInBounds_toArray, List.set_cons_zero, List.set_cons_succ]
        refine wpList_runW rfl (.bool false) (by simp [go_sem]) ?_
        simp only [Act.put, List.setIfInBounds_toArray, List.set_cons_zero, List.set_cons_succ]
        refine wpList_runW rfl (.int .i64 (k : Int)) (by simp [go_sem]) ?_
        simp only [Act.put, List.setIfInBounds_toArray, List.set_cons_zero, List.set_cons_succ]
        refine wpList_runW rfl (.int .i64 (N)) (by simp [go_sem]) ?_
        simp only [Act.put, List.setIfInBounds_toArray, List.set_cons_zero, List.set_cons_succ]
        refine wpList_runW rfl (.int .i64 (N - 1)) (by simp [go_sem, eN]) ?_
        simp only [Act.put, List.setIfInBounds_toArray, List.set_cons_zero, List.set_cons_succ]
        refine wpList_runW rfl (.bool false) (by simp [go_sem, hkn.out]) ?_
        simp only [Act.put, List.setIfInBounds_toArray, List.set_cons_zero, List.set_cons_succ]
        refine wpList_runW rfl (.bool false) (by simp [go_sem]) ?_
        simp only [Act.put, List.setIfInBounds_toArray, List.set_cons_zero, List.set_cons_succ]
        refine wpList_run rfl (.bool false) (by simp [go_sem]) ?_
        simp only [Act.put, List.setIfInBounds_toArray, List.set_cons_zero, List.set_cons_succ]
        refine wpList_run rfl (.bool false) (by simp [go_sem]) ?_
        simp only [Act.put, List.setIfInBounds_toArray, List.set_cons_zero, List.set_cons_succ]
        refine wpList_runW rfl (.pointer (some ⟨z14, 1, none⟩)) (by simp [go_sem]) ?_
        simp only [Act.put, List.setIfInBounds_toArray, List.set_cons_zero, List.set_cons_succ]
        have m18 : x16.cell? ⟨z14, 1, none⟩ = some (.bool true) := Hz14.out.1 1 (by decide)
        refine wpList_runW rfl (.bool true) (by simp [go_sem, m18]) ?_
        simp only [Act.put, List.setIfInBounds_toArray, List.set_cons_zero, List.set_cons_succ]
        clear m18
        refine wpList_runW rfl (.bool false) (by simp [go_sem]) ?_
        simp only [Act.put, List.setIfInBounds_toArray, List.set_cons_zero, List.set_cons_succ]
        refine wpList_runW rfl (.bool false) (by simp [go_sem]) ?_
        simp only [Act.put, List.setIfInBounds_toArray, List.set_cons_zero, List.set_cons_succ]
        refine wpList_run rfl (.bool false) (by simp [go_sem]) ?_
        simp only [Act.put, List.setIfInBounds_toArray, List.set_cons_zero, List.set_cons_succ]
        refine wpList_run rfl (.bool false) (by simp [go_sem]) ?_
        simp only [Act.put, List.setIfInBounds_toArray, List.set_cons_zero, List.set_cons_succ]
        refine wpList_runW rfl (.pointer (some ⟨z14, 3, none⟩)) (by simp [go_sem]) ?_
        simp only [Act.put, List.setIfInBounds_toArray, List.set_cons_zero, List.set_cons_succ]
        refine wpList_runW rfl (.agg (row 32 (fun j => .int .u8 ((tr j).toNat : Int))).toArray) (xload 28 (.tmp 94) rfl z14 3 32 (fun j => .int .u8 ((tr j).toNat : Int)) rfl (Hz14.out.sub 3 32 (by decide) (fun j => .int .u8 ((tr j).toNat : Int)) (fun j hj => rtv_t3 _ j)) Try.underlying28 rfl info28) ?_
        simp only [Act.put, List.setIfInBounds_toArray, List.set_cons_zero, List.set_cons_succ]
        refine wpList_runW rfl (.pointer (some ⟨d, 3, none⟩)) (by simp [go_sem]) ?_
        simp only [Act.put, List.setIfInBounds_toArray, List.set_cons_zero, List.set_cons_succ]
        refine wpList_runW rfl (.agg (row 32 (fun j => .int .u8 ((tr j).toNat : Int))).toArray) (xload 28 (.tmp 96) rfl d 3 32 (fun j => .int .u8 ((tr j).toNat : Int)) rfl (r1.out.sub 3 32 (by decide) (fun j => .int .u8 ((tr j).toNat : Int)) (fun j hj => rtv_t3 _ j)) Try.underlying28 rfl info28) ?_
        simp only [Act.put, List.setIfInBounds_toArray, List.set_cons_zero, List.set_cons_succ]
        refine wpList_runW rfl (.bool false) (xcmp .neq 28 28 (.tmp 95) (.tmp 97) rfl _ _ rfl rfl (by kernel_rfl) _ (neq28 tr x16)) ?_
        simp only [Act.put, List.setIfInBounds_toArray, List.set_cons_zero, List.set_cons_succ]
        refine wpList_run rfl (.bool false) (by simp [go_sem]) ?_
        simp only [Act.put, List.setIfInBounds_toArray, List.set_cons_zero, List.set_cons_succ]
        refine wpList_run rfl (.bool false) (by simp [go_sem]) ?_
        simp only [Act.put, List.setIfInBounds_toArray, List.set_cons_zero, List.set_cons_succ]
        refine wpList_runW rfl (.pointer (some ⟨z14, 0, none⟩)) (by simp [go_sem]) ?_
        simp only [Act.put, List.setIfInBounds_toArray, List.set_cons_zero, List.set_cons_succ]
        have m19 : x16.cell? ⟨z14, 0, none⟩ = some (.int .u64 (ct.toNat : Int)) := Hz14.out.1 0 (by decide)
        refine wpList_runW rfl (.int .u64 (ct.toNat : Int)) (by simp [go_sem, m19]) ?_
        simp only [Act.put, List.setIfInBounds_toArray, List.set_cons_zero, List.set_cons_succ]
        clear m19
        refine wpList_runW rfl (.pointer (some ⟨d, 0, none⟩)) (by simp [go_sem]) ?_
        simp only [Act.put, List.setIfInBounds_toArray, List.set_cons_zero, List.set_cons_succ]
        have m20 : x16.cell? ⟨d, 0, none⟩ = some (.int .u64 (ct.toNat : Int)) := r1.out.1 0 (by decide)
        refine wpList_runW rfl (.int .u64 (ct.toNat : Int)) (by simp [go_sem, m20]) ?_
        simp only [Act.put, List.setIfInBounds_toArray, List.set_cons_zero, List.set_cons_succ]
        clear m20
        refine wpList_runW rfl (.bool false) (by simp [go_sem]) ?_
        simp only [Act.put, List.setIfInBounds_toArray, List.set_cons_zero, List.set_cons_succ]
        refine wpList_run rfl (.bool false) (by simp [go_sem]) ?_
        simp only [Act.put, List.setIfInBounds_toArray, List.set_cons_zero, List.set_cons_succ]
        go_upto_region 16 with (fail)
        refine wp_region_lit ?_
        refine wpList_run rfl (.int .i64 (u)) (by simp [go_sem]) ?_
        simp only [Act.put, List.setIfInBounds_toArray, List.set_cons_zero, List.set_cons_succ]
        refine wpList_run rfl (.int .i64 (u)) (by simp [go_sem]) ?_
        simp only [Act.put, List.setIfInBounds_toArray, List.set_cons_zero, List.set_cons_succ]
        go_upto_region 17 with (fail)
        refine wp_region_lit ?_
        refine wpList_run rfl (.agg (row 35 (rtv ⟨ct, true, u, tr⟩)).toArray) (xload 30 (.tmp 12) rfl z14 0 35 _ rfl Hz14.out.range Try.underlying30 rfl infoR) ?_
        simp only [Act.put, List.setIfInBounds_toArray, List.set_cons_zero, List.set_cons_succ]
        have N0 := hideit (r1.out.cells (g' := rtv ⟨ct, true, u, tr⟩))
        have N1 := hideit (r0.out.cellsOther (Ne.symm (hcd.out)) (row 35 (rtv ⟨ct, true, u, tr⟩)) 0)
        have N2 := hideit (Hz14.out.cellsOther (Dz14_1.out) (row 35 (rtv ⟨ct, true, u, tr⟩)) 0)
        have NE := hideit (below_setCells d (hdw.out) (row 35 (rtv ⟨ct, true, u, tr⟩)) 0 _ hX.out)
        refine xst rfl (x16.setCells d 0 (row 35 (rtv ⟨ct, true, u, tr⟩))) (xstore 30 (.tmp 3) (.tmp 108) rfl d 35 _ (rtv ⟨ct, true, u, tr⟩) rfl rfl r1.out infoR (fun j _ => rtv_one _ j)) ?_
        simp only [Act.put]
        generalize x16.setCells d 0 (row 35 (rtv ⟨ct, true, u, tr⟩)) = x21 at N0 N1 N2 NE ⊢
        replace r1 := N0
        replace r0 := N1
        replace Hz14 := N2
        replace hX := NE
        clear N0 N1 N2 NE 
        go_upto_region 11 with (fail)
        refine wp_region_lit ?_
        refine wpList_run rfl (.int .i64 (k : Int)) (by simp [go_sem]) ?_
        simp only [Act.put, List.setIfInBounds_toArray, List.set_cons_zero, List.set_cons_succ]
        refine wpList_run rfl (.int .i64 ((k + 1 : Nat) : Int)) (by simp [go_sem, ek]) ?_
        simp only [Act.put, List.setIfInBounds_toArray, List.set_cons_zero, List.set_cons_succ]
        refine wpList_run rfl (.int .i64 ((k + 1 : Nat) : Int)) (by simp [go_sem]) ?_
        simp only [Act.put, List.setIfInBounds_toArray, List.set_cons_zero, List.set_cons_succ]
        go_wp2
        go_round
        case rel => exact ⟨k + 1, by have := hl.out; omega, rfl, by unfold atK; rw [if_pos (by have := hl.out; rw [hN.out]; omega), hu.out, hon2.out.2], r0.out, by rw [rS_lt (by have := hl.out; rw [hN.out]; omega), ← hon2.out.2, ← hu.out]; exact r1.out, hX.out⟩
        case measure => have := hb.out; have := hlt.out; simp [intOf]; omega
      · have hend2 := hideit (hend hl)
        have hkn : Hid ((k : Int) = N - 1) := hideit (by have := hlt.out; omega)
        replace hl := hideit hl
        clear hend hon
        go_upto_region 10 with (fail)
        refine wp_region_lit ?_
        refine wpList_run rfl (.int .i64 (k : Int)) (by simp [go_sem]) ?_
        simp only [Act.put, List.setIfInBounds_toArray, List.set_cons_zero, List.set_cons_succ]
        refine wpList_run rfl (.int .i64 (N)) (by simp [go_sem]) ?_
        simp only [Act.put, List.setIfInBounds_toArray, List.set_cons_zero, List.set_cons_succ]
        refine wpList_run rfl (.bool true) (by simp [go_sem, hlt.out]) ?_
        simp only [Act.put, List.setIfInBounds_toArray, List.set_cons_zero, List.set_cons_succ]
        go_upto_region 12 with (fail)
        refine wp_region_lit ?_
        refine wpList_run rfl (.agg (row 24 (hdv h)).toArray) (xload 27 (.tmp 2) rfl c 0 24 _ rfl r0.out.range Try.underlying27 rfl infoH) ?_
        simp only [Act.put, List.setIfInBounds_toArray, List.set_cons_zero, List.set_cons_succ]
        refine wpList_run rfl (.agg (row 35 (rtv ⟨ct, true, x, tr⟩)).toArray) (xload 30 (.tmp 3) rfl d 0 35 _ rfl r1.out.range Try.underlying30 rfl infoR) ?_
        simp only [Act.put, List.setIfInBounds_toArray, List.set_cons_zero, List.set_cons_succ]
        have kk10 := next_go h ct x tr wr ho
        rw [← hu.out] at kk10
        refine wpList_call rfl (by simp [go_sem]) ((kk10).mono ?_)
        rintro e y8 ⟨rfl, hX9⟩
        refine ⟨_, rfl, ?_⟩
        simp only [Act.put, List.setIfInBounds_toArray, List.set_cons_zero, List.set_cons_succ]
        replace r0 := hideit (r0.out.carry hX9)
        replace r1 := hideit (r1.out.carry hX9)
        replace hX := hideit (Ext.trans hX.out hX9)
        clear hX9 kk10
        refine wpList_run rfl (.tuple #[.int .i64 (x), .int .i64 (u), .int .i64 0]) (by simp [go_sem]) ?_
        simp only [Act.put, List.setIfInBounds_toArray, List.set_cons_zero, List.set_cons_succ]
        refine wpList_run rfl (.int .i64 (x)) (by simp [go_sem]) ?_
        simp only [Act.put, List.setIfInBounds_toArray, List.set_cons_zero, List.set_cons_succ]
        refine wpList_run rfl (.int .i64 (u)) (by simp [go_sem]) ?_
        simp only [Act.put, List.setIfInBounds_toArray, List.set_cons_zero, List.set_cons_succ]
        refine wpList_run rfl (.int .i64 0) (by simp [go_sem]) ?_
        simp only [Act.put, List.setIfInBounds_toArray, List.set_cons_zero, List.set_cons_succ]
        refine wpList_run rfl (.int .i64 (x)) (by simp [go_sem]) ?_
        simp only [Act.put, List.setIfInBounds_toArray, List.set_cons_zero, List.set_cons_succ]
        refine wpList_run rfl (.int .i64 (u)) (by simp [go_sem]) ?_
        simp only [Act.put, List.setIfInBounds_toArray, List.set_cons_zero, List.set_cons_succ]
        refine wpList_run rfl (.int .i64 0) (by simp [go_sem]) ?_
        simp only [Act.put, List.setIfInBounds_toArray, List.set_cons_zero, List.set_cons_succ]
        go_upto_region 13 with (fail)
        refine wp_region_lit ?_
        refine wpList_run rfl (.agg (row 24 (hdv h)).toArray) (xload 27 (.tmp 2) rfl c 0 24 _ rfl r0.out.range Try.underlying27 rfl infoH) ?_
        simp only [Act.put, List.setIfInBounds_toArray, List.set_cons_zero, List.set_cons_succ]
        refine wpList_run rfl (.agg (row 35 (rtv ⟨ct, true, x, tr⟩)).toArray) (xload 30 (.tmp 3) rfl d 0 35 _ rfl r1.out.range Try.underlying30 rfl infoR) ?_
        simp only [Act.put, List.setIfInBounds_toArray, List.set_cons_zero, List.set_cons_succ]
        refine wpList_call rfl (by simp [go_sem]) ((after_end h ct x tr y8 ho hend2.out (hideit (by have := hend2.out; omega))).mono ?_)
        rintro e y11 ⟨rfl, hX12⟩
        refine ⟨_, rfl, ?_⟩
        simp only [Act.put, List.setIfInBounds_toArray, List.set_cons_zero, List.set_cons_succ]
        replace r0 := hideit (r0.out.carry hX12)
        replace r1 := hideit (r1.out.carry hX12)
        replace hX := hideit (Ext.trans hX.out hX12)
        clear hX12
        refine wpList_run rfl (.tuple #[.agg (row 35 (rtv ⟨ct, false, 0, tr⟩)).toArray, .bool true, .int .i64 0]) (by simp [go_sem]) ?_
        simp only [Act.put, List.setIfInBounds_toArray, List.set_cons_zero, List.set_cons_succ]
        refine wpList_run rfl (.agg (row 35 (rtv ⟨ct, false, 0, tr⟩)).toArray) (by simp [go_sem]) ?_
        simp only [Act.put, List.setIfInBounds_toArray, List.set_cons_zero, List.set_cons_succ]
        refine wpList_run rfl (.bool true) (by simp [go_sem]) ?_
        simp only [Act.put, List.setIfInBounds_toArray, List.set_cons_zero, List.set_cons_succ]
        refine wpList_run rfl (.int .i64 0) (by simp [go_sem]) ?_
        simp only [Act.put, List.setIfInBounds_toArray, List.set_cons_zero, List.set_cons_succ]
        have A0 := hideit (RowAt.new y11 35 (rtv rt0) 30)
        have A1 := hideit (r0.out.alloc (.cells (row 35 (rtv rt0)).toArray 30))
        have A2 := hideit (r1.out.alloc (.cells (row 35 (rtv rt0)).toArray 30))
        have AE := hideit (Below.alloc hX.out (Below.size hX.out) (.cells (row 35 (rtv rt0)).toArray 30))
        have AB := hideit (Below.size hX.out)
        have D0 : Hid (c ≠ y11.heap.size) := Nat.ne_of_lt r0.out.2.2
        have D1 : Hid (d ≠ y11.heap.size) := Nat.ne_of_lt r1.out.2.2
        refine wpList_to rfl (.pointer (some ⟨y11.heap.size, 0, none⟩)) (y11.alloc (.cells (row 35 (rtv rt0)).toArray 30)) (xalloc 30 (row 35 (rtv rt0)).toArray rfl (zero30 y11)) ?_
        simp only [Act.put, List.setIfInBounds_toArray, List.set_cons_zero, List.set_cons_succ]
        generalize y11.alloc (.cells (row 35 (rtv rt0)).toArray 30) = x14 at A0 A1 A2 AE ⊢
        obtain ⟨z13, ez13⟩ : ∃ b, b = y11.heap.size := ⟨_, rfl⟩
        rw [← ez13] at A0 D0 D1 AB ⊢
        clear ez13
        have Hz13 := A0
        clear A0
        replace r0 := A1
        clear A1
        replace r1 := A2
        clear A2
        replace hX := AE
        clear AE
        have ABz13 := AB
        clear AB
        have Dz13_0 := D0
        clear D0
        have Dz13_1 := D1
        clear D1
        have N0 := hideit (Hz13.out.cells (g' := rtv ⟨ct, false, 0, tr⟩))
        have N1 := hideit (r0.out.cellsOther (Ne.symm (Dz13_0.out)) (row 35 (rtv ⟨ct, false, 0, tr⟩)) 0)
        have N2 := hideit (r1.out.cellsOther (Ne.symm (Dz13_1.out)) (row 35 (rtv ⟨ct, false, 0, tr⟩)) 0)
        have NE := hideit (below_setCells z13 (ABz13.out) (row 35 (rtv ⟨ct, false, 0, tr⟩)) 0 _ hX.out)
        refine xst rfl (x14.setCells z13 0 (row 35 (rtv ⟨ct, false, 0, tr⟩))) (xstore 30 (.tmp 12) (.tmp 52) rfl z13 35 _ (rtv ⟨ct, false, 0, tr⟩) rfl rfl Hz13.out infoR (fun j _ => rtv_one _ j)) ?_
        simp only [Act.put]
        generalize x14.setCells z13 0 (row 35 (rtv ⟨ct, false, 0, tr⟩)) = x15 at N0 N1 N2 NE ⊢
        replace Hz13 := N0
        replace r0 := N1
        replace r1 := N2
        replace hX := NE
        clear N0 N1 N2 NE 
        refine wpList_run rfl (.bool true) (by simp [go_sem]) ?_
        simp only [Act.put, List.setIfInBounds_toArray, List.set_cons_zero, List.set_cons_succ]
        refine wpList_run rfl (.int .i64 0) (by simp [go_sem]) ?_
        simp only [Act.put, List.setIfInBounds_toArray, List.set_cons_zero, List.set_cons_succ]
        go_upto_region 14 with (fail)
        refine wp_region_lit ?_
        refine wpList_run rfl (.int .i64 0) (by simp [go_sem]) ?_
        simp only [Act.put, List.setIfInBounds_toArray, List.set_cons_zero, List.set_cons_succ]
        refine wpList_run rfl (.bool false) (by simp [go_sem]) ?_
        simp only [Act.put, List.setIfInBounds_toArray, List.set_cons_zero, List.set_cons_succ]
        refine wpList_run rfl (.bool false) (by simp [go_sem]) ?_
        simp only [Act.put, List.setIfInBounds_toArray, List.set_cons_zero, List.set_cons_succ]
        refine wpList_runW rfl (.int .i64 0) (by simp [go_sem]) ?_
        simp only [Act.put, List.setIfInBounds_toArray, List.set_cons_zero, List.set_cons_succ]
        refine wpList_runW rfl (.bool false) (by simp [go_sem]) ?_
        simp only [Act.put, List.setIfInBounds_toArray, List.set_cons_zero, List.set_cons_succ]
        refine wpList_run rfl (.bool false) (by simp [go_sem]) ?_
        simp only [Act.put, List.setIfInBounds_toArray, List.set_cons_zero, List.set_cons_succ]
        refine wpList_run rfl (.bool false) (by simp [go_sem]) ?_
        simp only [Act.put, List.setIfInBounds_toArray, List.set_cons_zero, List.set_cons_succ]
        refine wpList_runW rfl (.int .i64 (x)) (by simp [go_sem]) ?_
        simp only [Act.put, List.setIfInBounds_toArray, List.set_cons_zero, List.set_cons_succ]
        refine wpList_runW rfl (.int .i64 (x)) (by simp [go_sem]) ?_
        simp only [Act.put, List.setIfInBounds_toArray, List.set_cons_zero, List.set_cons_succ]
        refine wpList_runW rfl (.bool false) (by simp [go_sem]) ?_
        simp only [Act.put, List.setIfInBounds_toArray, List.set_cons_zero, List.set_cons_succ]
        refine wpList_run rfl (.bool false) (by simp [go_sem]) ?_
        simp only [Act.put, List.setIfInBounds_toArray, List.set_cons_zero, List.set_cons_succ]
        refine wpList_run rfl (.bool false) (by simp [go_sem]) ?_
        simp only [Act.put, List.setIfInBounds_toArray, List.set_cons_zero, List.set_cons_succ]
        refine wpList_runW rfl (.int .i64 (u)) (by simp [go_sem]) ?_
        simp only [Act.put, List.setIfInBounds_toArray, List.set_cons_zero, List.set_cons_succ]
        refine wpList_runW rfl (.int .i64 (x)) (by simp [go_sem]) ?_
        simp only [Act.put, List.setIfInBounds_toArray, List.set_cons_zero, List.set_cons_succ]
        refine wpList_runW rfl (.bool false) (by simp [go_sem, t1.out]) ?_
        simp only [Act.put, List.setIfInBounds_toArray, List.set_cons_zero, List.set_cons_succ]
        refine wpList_run rfl (.bool false) (by simp [go_sem]) ?_
        simp only [Act.put, List.setIfInBounds_toArray, List.set_cons_zero, List.set_cons_succ]
        refine wpList_run rfl (.bool false) (by simp [go_sem]) ?_
        simp only [Act.put, List.setIfInBounds_toArray, List.set_cons_zero, List.set_cons_succ]
        refine wpList_runW rfl (.int .i64 (u)) (by simp [go_sem]) ?_
        simp only [Act.put, List.setIfInBounds_toArray, List.set_cons_zero, List.set_cons_succ]
        refine wpList_runW rfl (.int .i64 (x)) (by simp [go_sem]) ?_
        simp only [Act.put, List.setIfInBounds_toArray, List.set_cons_zero, List.set_cons_succ]
        refine wpList_runW rfl (.int .i64 (u - x)) (by simp [go_sem, tw]) ?_
        simp only [Act.put, List.setIfInBounds_toArray, List.set_cons_zero, List.set_cons_succ]
        refine wpList_runW rfl (.pointer (some ⟨c, 4, none⟩)) (by simp [go_sem]) ?_
        simp only [Act.put, List.setIfInBounds_toArray, List.set_cons_zero, List.set_cons_succ]
        have m16 : x15.cell? ⟨c, 4, none⟩ = some (.int .i64 (h.sg)) := r0.out.1 4 (by decide)
        refine wpList_runW rfl (.int .i64 (h.sg)) (by simp [go_sem, m16]) ?_
        simp only [Act.put, List.setIfInBounds_toArray, List.set_cons_zero, List.set_cons_succ]
        clear m16
        refine wpList_runW rfl (.bool false) (by simp [go_sem, t2.out]) ?_
        simp only [Act.put, List.setIfInBounds_toArray, List.set_cons_zero, List.set_cons_succ]
        refine wpList_run rfl (.bool false) (by simp [go_sem]) ?_
        simp only [Act.put, List.setIfInBounds_toArray, List.set_cons_zero, List.set_cons_succ]
        refine wpList_run rfl (.bool false) (by simp [go_sem]) ?_
        simp only [Act.put, List.setIfInBounds_toArray, List.set_cons_zero, List.set_cons_succ]
        refine wpList_runW rfl (.bool true) (by simp [go_sem]) ?_
        simp only [Act.put, List.setIfInBounds_toArray, List.set_cons_zero, List.set_cons_succ]
        refine wpList_runW rfl (.int .i64 (k : Int)) (by simp [go_sem]) ?_
        simp only [Act.put, List.setIfInBounds_toArray, List.set_cons_zero, List.set_cons_succ]
        refine wpList_runW rfl (.int .i64 (N)) (by simp [go_sem]) ?_
        simp only [Act.put, List.setIfInBounds_toArray, List.set_cons_zero, List.set_cons_succ]
        refine wpList_runW rfl (.int .i64 (N - 1)) (by simp [go_sem, eN]) ?_
        simp only [Act.put, List.setIfInBounds_toArray, List.set_cons_zero, List.set_cons_succ]
        refine wpList_runW rfl (.bool true) (by simp [go_sem, hkn.out]) ?_
        simp only [Act.put, List.setIfInBounds_toArray, List.set_cons_zero, List.set_cons_succ]
        refine wpList_runW rfl (.bool false) (by simp [go_sem]) ?_
        simp only [Act.put, List.setIfInBounds_toArray, List.set_cons_zero, List.set_cons_succ]
        refine wpList_run rfl (.bool false) (by simp [go_sem]) ?_
        simp only [Act.put, List.setIfInBounds_toArray, List.set_cons_zero, List.set_cons_succ]
        refine wpList_run rfl (.bool false) (by simp [go_sem]) ?_
        simp only [Act.put, List.setIfInBounds_toArray, List.set_cons_zero, List.set_cons_succ]
        refine wpList_runW rfl (.pointer (some ⟨z13, 1, none⟩)) (by simp [go_sem]) ?_
        simp only [Act.put, List.setIfInBounds_toArray, List.set_cons_zero, List.set_cons_succ]
        have m17 : x15.cell? ⟨z13, 1, none⟩ = some (.bool false) := Hz13.out.1 1 (by decide)
        refine wpList_runW rfl (.bool false) (by simp [go_sem, m17]) ?_
        simp only [Act.put, List.setIfInBounds_toArray, List.set_cons_zero, List.set_cons_succ]
        clear m17
        refine wpList_runW rfl (.bool true) (by simp [go_sem]) ?_
        simp only [Act.put, List.setIfInBounds_toArray, List.set_cons_zero, List.set_cons_succ]
        refine wpList_runW rfl (.bool false) (by simp [go_sem]) ?_
        simp only [Act.put, List.setIfInBounds_toArray, List.set_cons_zero, List.set_cons_succ]
        refine wpList_run rfl (.bool false) (by simp [go_sem]) ?_
        simp only [Act.put, List.setIfInBounds_toArray, List.set_cons_zero, List.set_cons_succ]
        refine wpList_run rfl (.bool false) (by simp [go_sem]) ?_
        simp only [Act.put, List.setIfInBounds_toArray, List.set_cons_zero, List.set_cons_succ]
        refine wpList_runW rfl (.pointer (some ⟨z13, 3, none⟩)) (by simp [go_sem]) ?_
        simp only [Act.put, List.setIfInBounds_toArray, List.set_cons_zero, List.set_cons_succ]
        refine wpList_runW rfl (.agg (row 32 (fun j => .int .u8 ((tr j).toNat : Int))).toArray) (xload 28 (.tmp 94) rfl z13 3 32 (fun j => .int .u8 ((tr j).toNat : Int)) rfl (Hz13.out.sub 3 32 (by decide) (fun j => .int .u8 ((tr j).toNat : Int)) (fun j hj => rtv_t3 _ j)) Try.underlying28 rfl info28) ?_
        simp only [Act.put, List.setIfInBounds_toArray, List.set_cons_zero, List.set_cons_succ]
        refine wpList_runW rfl (.pointer (some ⟨d, 3, none⟩)) (by simp [go_sem]) ?_
        simp only [Act.put, List.setIfInBounds_toArray, List.set_cons_zero, List.set_cons_succ]
        refine wpList_runW rfl (.agg (row 32 (fun j => .int .u8 ((tr j).toNat : Int))).toArray) (xload 28 (.tmp 96) rfl d 3 32 (fun j => .int .u8 ((tr j).toNat : Int)) rfl (r1.out.sub 3 32 (by decide) (fun j => .int .u8 ((tr j).toNat : Int)) (fun j hj => rtv_t3 _ j)) Try.underlying28 rfl info28) ?_
        simp only [Act.put, List.setIfInBounds_toArray, List.set_cons_zero, List.set_cons_succ]
        refine wpList_runW rfl (.bool false) (xcmp .neq 28 28 (.tmp 95) (.tmp 97) rfl _ _ rfl rfl (by kernel_rfl) _ (neq28 tr x15)) ?_
        simp only [Act.put, List.setIfInBounds_toArray, List.set_cons_zero, List.set_cons_succ]
        refine wpList_run rfl (.bool false) (by simp [go_sem]) ?_
        simp only [Act.put, List.setIfInBounds_toArray, List.set_cons_zero, List.set_cons_succ]
        refine wpList_run rfl (.bool false) (by simp [go_sem]) ?_
        simp only [Act.put, List.setIfInBounds_toArray, List.set_cons_zero, List.set_cons_succ]
        refine wpList_runW rfl (.pointer (some ⟨z13, 0, none⟩)) (by simp [go_sem]) ?_
        simp only [Act.put, List.setIfInBounds_toArray, List.set_cons_zero, List.set_cons_succ]
        have m18 : x15.cell? ⟨z13, 0, none⟩ = some (.int .u64 (ct.toNat : Int)) := Hz13.out.1 0 (by decide)
        refine wpList_runW rfl (.int .u64 (ct.toNat : Int)) (by simp [go_sem, m18]) ?_
        simp only [Act.put, List.setIfInBounds_toArray, List.set_cons_zero, List.set_cons_succ]
        clear m18
        refine wpList_runW rfl (.pointer (some ⟨d, 0, none⟩)) (by simp [go_sem]) ?_
        simp only [Act.put, List.setIfInBounds_toArray, List.set_cons_zero, List.set_cons_succ]
        have m19 : x15.cell? ⟨d, 0, none⟩ = some (.int .u64 (ct.toNat : Int)) := r1.out.1 0 (by decide)
        refine wpList_runW rfl (.int .u64 (ct.toNat : Int)) (by simp [go_sem, m19]) ?_
        simp only [Act.put, List.setIfInBounds_toArray, List.set_cons_zero, List.set_cons_succ]
        clear m19
        refine wpList_runW rfl (.bool false) (by simp [go_sem]) ?_
        simp only [Act.put, List.setIfInBounds_toArray, List.set_cons_zero, List.set_cons_succ]
        refine wpList_run rfl (.bool false) (by simp [go_sem]) ?_
        simp only [Act.put, List.setIfInBounds_toArray, List.set_cons_zero, List.set_cons_succ]
        go_upto_region 16 with (fail)
        refine wp_region_lit ?_
        refine wpList_run rfl (.int .i64 (u)) (by simp [go_sem]) ?_
        simp only [Act.put, List.setIfInBounds_toArray, List.set_cons_zero, List.set_cons_succ]
        refine wpList_run rfl (.int .i64 (u)) (by simp [go_sem]) ?_
        simp only [Act.put, List.setIfInBounds_toArray, List.set_cons_zero, List.set_cons_succ]
        go_upto_region 17 with (fail)
        refine wp_region_lit ?_
        refine wpList_run rfl (.agg (row 35 (rtv ⟨ct, false, 0, tr⟩)).toArray) (xload 30 (.tmp 12) rfl z13 0 35 _ rfl Hz13.out.range Try.underlying30 rfl infoR) ?_
        simp only [Act.put, List.setIfInBounds_toArray, List.set_cons_zero, List.set_cons_succ]
        have N0 := hideit (r1.out.cells (g' := rtv ⟨ct, false, 0, tr⟩))
        have N1 := hideit (r0.out.cellsOther (Ne.symm (hcd.out)) (row 35 (rtv ⟨ct, false, 0, tr⟩)) 0)
        have N2 := hideit (Hz13.out.cellsOther (Dz13_1.out) (row 35 (rtv ⟨ct, false, 0, tr⟩)) 0)
        have NE := hideit (below_setCells d (hdw.out) (row 35 (rtv ⟨ct, false, 0, tr⟩)) 0 _ hX.out)
        refine xst rfl (x15.setCells d 0 (row 35 (rtv ⟨ct, false, 0, tr⟩))) (xstore 30 (.tmp 3) (.tmp 108) rfl d 35 _ (rtv ⟨ct, false, 0, tr⟩) rfl rfl r1.out infoR (fun j _ => rtv_one _ j)) ?_
        simp only [Act.put]
        generalize x15.setCells d 0 (row 35 (rtv ⟨ct, false, 0, tr⟩)) = x20 at N0 N1 N2 NE ⊢
        replace r1 := N0
        replace r0 := N1
        replace Hz13 := N2
        replace hX := NE
        clear N0 N1 N2 NE 
        go_upto_region 11 with (fail)
        refine wp_region_lit ?_
        refine wpList_run rfl (.int .i64 (k : Int)) (by simp [go_sem]) ?_
        simp only [Act.put, List.setIfInBounds_toArray, List.set_cons_zero, List.set_cons_succ]
        refine wpList_run rfl (.int .i64 ((k + 1 : Nat) : Int)) (by simp [go_sem, ek]) ?_
        simp only [Act.put, List.setIfInBounds_toArray, List.set_cons_zero, List.set_cons_succ]
        refine wpList_run rfl (.int .i64 ((k + 1 : Nat) : Int)) (by simp [go_sem]) ?_
        simp only [Act.put, List.setIfInBounds_toArray, List.set_cons_zero, List.set_cons_succ]
        go_wp2
        go_round
        case rel => exact ⟨k + 1, by have := hlt.out; omega, rfl, by unfold atK; rw [if_neg (by have := hl.out; rw [hN.out]; omega), hu.out, hend2.out], r0.out, by rw [rS_ge (by have := hl.out; rw [hN.out]; omega)]; exact r1.out, hX.out⟩
        case measure => have := hb.out; have := hlt.out; simp [intOf]; omega
    · have eat : atK h fr k = h.se := if_neg (by rw [hN.out]; exact hlt)
      rw [eat]
      have hkN2 : Hid (stF h fr = (k : Int)) := hideit (by rw [hN.out]; omega)
      have hko := hideit hk.1
      clear hk eat r1
      replace hlt := hideit hlt
      have hle : Hid (N ≤ bdF h 0) := hbd
      clear hkN
      go_upto_region 10 with (fail)
      refine wp_region_lit ?_
      refine wpList_run rfl (.int .i64 (k : Int)) (by simp [go_sem]) ?_
      simp only [Act.put, List.setIfInBounds_toArray, List.set_cons_zero, List.set_cons_succ]
      refine wpList_run rfl (.int .i64 (N)) (by simp [go_sem]) ?_
      simp only [Act.put, List.setIfInBounds_toArray, List.set_cons_zero, List.set_cons_succ]
      refine wpList_run rfl (.bool false) (by simp [go_sem, hlt.out]) ?_
      simp only [Act.put, List.setIfInBounds_toArray, List.set_cons_zero, List.set_cons_succ]
      go_upto_region 18 with (fail)
      refine wp_region_lit ?_
      refine wpList_run rfl (.int .i64 (h.se)) (by simp [go_sem]) ?_
      simp only [Act.put, List.setIfInBounds_toArray, List.set_cons_zero, List.set_cons_succ]
      refine wpList_run rfl (.pointer (some ⟨c, 1, none⟩)) (by simp [go_sem]) ?_
      simp only [Act.put, List.setIfInBounds_toArray, List.set_cons_zero, List.set_cons_succ]
      have m8 : wr.cell? ⟨c, 1, none⟩ = some (.int .i64 (h.se)) := r0.out.1 1 (by decide)
      refine wpList_run rfl (.int .i64 (h.se)) (by simp [go_sem, m8]) ?_
      simp only [Act.put, List.setIfInBounds_toArray, List.set_cons_zero, List.set_cons_succ]
      clear m8
      refine wpList_run rfl (.bool true) (by simp [go_sem]) ?_
      simp only [Act.put, List.setIfInBounds_toArray, List.set_cons_zero, List.set_cons_succ]
      refine wpList_run rfl (.bool true) (by simp [go_sem]) ?_
      simp only [Act.put, List.setIfInBounds_toArray, List.set_cons_zero, List.set_cons_succ]
      refine wpList_runW rfl (.int .i64 (N)) (by simp [go_sem]) ?_
      simp only [Act.put, List.setIfInBounds_toArray, List.set_cons_zero, List.set_cons_succ]
      refine wpList_runW rfl (.agg (row 24 (hdv h)).toArray) (xload 27 (.tmp 2) rfl c 0 24 _ rfl r0.out.range Try.underlying27 rfl infoH) ?_
      simp only [Act.put, List.setIfInBounds_toArray, List.set_cons_zero, List.set_cons_succ]
      refine wpList_callW rfl (by simp [go_sem]) ((bound_ok h 0 wr hko.out (by decide)).mono ?_)
      rintro e y9 ⟨rfl, hX10⟩
      refine ⟨_, rfl, ?_⟩
      simp only [Act.put, List.setIfInBounds_toArray, List.set_cons_zero, List.set_cons_succ]
      replace r0 := hideit (r0.out.carry hX10)
      replace hX := hideit (Ext.trans hX.out hX10)
      clear hX10
      refine wpList_runW rfl (.bool true) (by simp [go_sem, hle.out]) ?_
      simp only [Act.put, List.setIfInBounds_toArray, List.set_cons_zero, List.set_cons_succ]
      refine wpList_run rfl (.bool true) (by simp [go_sem]) ?_
      simp only [Act.put, List.setIfInBounds_toArray, List.set_cons_zero, List.set_cons_succ]
      refine wpList_run rfl (.bool true) (by simp [go_sem]) ?_
      simp only [Act.put, List.setIfInBounds_toArray, List.set_cons_zero, List.set_cons_succ]
      go_wp2
      go_ret
      exact ⟨rfl, hX.out⟩
end Go.Proofs.Ytchieinmpcdhfaa
