/-
  Pl6, Pl8 in one.
-/
import Derived.Test.YtcipkfalnjgghaaPl4
namespace Go.Proofs.Ytcipkfalnjgghaa
set_option maxRecDepth 100000
open Go.RowKit Go.BigFrame
set_option linter.unusedVariables false
/-- how many steps are left -/
def stF (h : Hd) (fr : Int) : Int := if sgF h (h.se - fr) < 1 then 1 else sgF h (h.se - fr)
set_option maxRecDepth 20000 in
set_option maxHeartbeats 4000000 in
theorem steps_go (h : Hd) (ct : BitVec 64) (fr : Int) (tr : Nat → BitVec 8) (w : World) (hk : okR h ⟨ct, true, fr, tr⟩) : Calls Try.prog 62 #[.agg (row 24 (hdv h)).toArray, .agg (row 35 (rtv ⟨ct, true, fr, tr⟩)).toArray] w fun e w' => e = .returned (.tuple #[.int .i64 (stF h fr), .int .i64 0]) ∧ Ext w w' := by
  have b1 := hideit (okR_b hk).1
  have b2 := hideit (okR_b hk).2.1
  have b3 : Hid (0 ≤ fr) := (okR_b hk).2.2.1
  have b4 : Hid (fr ≤ h.se) := (okR_b hk).2.2.2
  have e1 : IntKind.i64.wrap (h.se - fr) = h.se - fr := by have q1 := b1.out; have q2 := b2.out; have q3 := b3.out; have q4 := b4.out; rw [IntKind.wrap_i64]; omega
  obtain ⟨c, d, w1, hw, hd, hc, H0, H1, hE⟩ := boxes2 w 24 (hdv h) 37 35 (rtv ⟨ct, true, fr, tr⟩) 66
  go_enter Try.func62, Try.ntmps62
  go_upto_region 1 with (fail)
  rw [← hw.out, ← hd.out, ← hc.out]
  clear hw hd hc
  refine wp_region_lit ?_
  refine wpList_run rfl (.agg (row 24 (hdv h)).toArray) (xload 37 (.tmp 2) rfl c 0 24 _ rfl H0.out.range Try.underlying37 rfl infoH) ?_
  simp only [Act.put, List.setIfInBounds_toArray, List.set_cons_zero, List.set_cons_succ]
  refine wpList_run rfl (.agg (row 35 (rtv ⟨ct, true, fr, tr⟩)).toArray) (xload 66 (.tmp 3) rfl d 0 35 _ rfl H1.out.range Try.underlying66 rfl infoR) ?_
  simp only [Act.put, List.setIfInBounds_toArray, List.set_cons_zero, List.set_cons_succ]
  refine wpList_call rfl (by simp [go_sem]) ((may_any h ⟨ct, true, fr, tr⟩ w1 true (iff_of_true rfl hk)).mono ?_)
  rintro e y1 ⟨rfl, hX2⟩
  refine ⟨_, rfl, ?_⟩
  simp only [Act.put, List.setIfInBounds_toArray, List.set_cons_zero, List.set_cons_succ]
  replace H0 := hideit (H0.out.carry hX2)
  replace H1 := hideit (H1.out.carry hX2)
  replace hE := hideit (Ext.trans hE.out hX2)
  clear hX2
  refine wpList_run rfl (.bool false) (by simp [go_sem]) ?_
  simp only [Act.put, List.setIfInBounds_toArray, List.set_cons_zero, List.set_cons_succ]
  go_upto_region 3 with (fail)
  replace H0 := hideit H0.out.drew
  replace H1 := hideit H1.out.drew
  replace hE := hideit hE.out.draw
  refine wp_region_lad (fun X => Ext y1.drew X) [(false, 0), (false, 1), (true, 2), (false, 3)] (by kernel_rfl) (by kernel_rfl) (by decide +kernel) (by decide +kernel) (by decide +kernel) (by decide +kernel) (Ext.refl _) ?_
  refine wpX_f _ (.agg (row 35 (rtv ⟨ct, true, fr, tr⟩)).toArray) rfl rfl (fun X hX => xload 66 (.tmp 3) rfl d 0 35 _ rfl (H1.out.carry hX).range Try.underlying66 rfl infoR) ?_
  simp only [List.getElem_toArray, List.getElem_cons_zero, Act.put, List.setIfInBounds_toArray, List.set_cons_zero, List.set_cons_succ]
  refine wpX_f _ (.agg (row 35 (rtv ⟨ct, true, fr, tr⟩)).toArray) rfl rfl (fun X hX => xload 66 (.tmp 3) rfl d 0 35 _ rfl (H1.out.carry hX).range Try.underlying66 rfl infoR) ?_
  simp only [List.getElem_toArray, List.getElem_cons_zero, List.getElem_cons_succ, Act.put, List.setIfInBounds_toArray, List.set_cons_zero, List.set_cons_succ]
  refine wpX_call _ rfl rfl (by simp [go_sem]) ((idle_any ⟨ct, true, fr, tr⟩ y1.drew).mono ?_)
  rintro e y3 ⟨rfl, hX4⟩
  refine ⟨_, rfl, fun X => Ext y3 X, fun X hX => Ext.trans hX4 hX, Ext.refl _, ?_⟩
  simp only [List.getElem_toArray, List.getElem_cons_zero, List.getElem_cons_succ, Act.put, List.setIfInBounds_toArray, List.set_cons_zero, List.set_cons_succ]
  replace H0 := hideit (H0.out.carry hX4)
  replace H1 := hideit (H1.out.carry hX4)
  replace hE := hideit (Ext.trans hE.out hX4)
  clear hX4
  refine wpX_f _ (.bool false) rfl rfl (fun X hX => xcmp .eql 66 66 (.tmp 10) (.tmp 12) rfl _ _ rfl rfl (by kernel_rfl) _ ((eqlR _ _ X).trans (by rw [eqR_idT]))) ?_
  simp only [List.getElem_toArray, List.getElem_cons_zero, List.getElem_cons_succ, Act.put, List.setIfInBounds_toArray, List.set_cons_zero, List.set_cons_succ]
  refine wpX_nil ?_
  have hs := hideit (show 0 ≤ h.se - fr ∧ h.se - fr ≤ 1024 by have q1 := b1.out; have q2 := b2.out; have q3 := b3.out; have q4 := b4.out; omega)
  go_upto_region 5 with (fail)
  refine wp_region_lit ?_
  refine wpList_run rfl (.agg (row 24 (hdv h)).toArray) (xload 37 (.tmp 2) rfl c 0 24 _ rfl H0.out.range Try.underlying37 rfl infoH) ?_
  simp only [Act.put, List.setIfInBounds_toArray, List.set_cons_zero, List.set_cons_succ]
  refine wpList_run rfl (.pointer (some ⟨c, 1, none⟩)) (by simp [go_sem]) ?_
  simp only [Act.put, List.setIfInBounds_toArray, List.set_cons_zero, List.set_cons_succ]
  have m5 : y3.cell? ⟨c, 1, none⟩ = some (.int .i64 (h.se)) := H0.out.1 1 (by decide)
  refine wpList_run rfl (.int .i64 (h.se)) (by simp [go_sem, m5]) ?_
  simp only [Act.put, List.setIfInBounds_toArray, List.set_cons_zero, List.set_cons_succ]
  clear m5
  refine wpList_run rfl (.pointer (some ⟨d, 2, none⟩)) (by simp [go_sem]) ?_
  simp only [Act.put, List.setIfInBounds_toArray, List.set_cons_zero, List.set_cons_succ]
  have m6 : y3.cell? ⟨d, 2, none⟩ = some (.int .i64 (fr)) := H1.out.1 2 (by decide)
  refine wpList_run rfl (.int .i64 (fr)) (by simp [go_sem, m6]) ?_
  simp only [Act.put, List.setIfInBounds_toArray, List.set_cons_zero, List.set_cons_succ]
  clear m6
  refine wpList_run rfl (.int .i64 (h.se - fr)) (by simp [go_sem, e1]) ?_
  simp only [Act.put, List.setIfInBounds_toArray, List.set_cons_zero, List.set_cons_succ]
  refine wpList_call rfl (by simp [go_sem]) ((seg_any h (h.se - fr) y3 hs.out b2.out).mono ?_)
  rintro e y7 ⟨rfl, hX8⟩
  refine ⟨_, rfl, ?_⟩
  simp only [Act.put, List.setIfInBounds_toArray, List.set_cons_zero, List.set_cons_succ]
  replace H0 := hideit (H0.out.carry hX8)
  replace H1 := hideit (H1.out.carry hX8)
  replace hE := hideit (Ext.trans hE.out hX8)
  clear hX8
  refine wpList_run rfl (.int .i64 (stF h fr)) (by simp [go_sem, stF]) ?_
  simp only [Act.put, List.setIfInBounds_toArray, List.set_cons_zero, List.set_cons_succ]
  refine wpList_run rfl (.int .i64 (stF h fr)) (by simp [go_sem]) ?_
  simp only [Act.put, List.setIfInBounds_toArray, List.set_cons_zero, List.set_cons_succ]
  refine wpList_run rfl (.int .i64 0) (by simp [go_sem]) ?_
  simp only [Act.put, List.setIfInBounds_toArray, List.set_cons_zero, List.set_cons_succ]
  go_wp2
  refine bodyPost_ret (res2 rfl _ _ _) rfl ?_
  exact ⟨rfl, hE.out⟩
set_option maxRecDepth 20000 in
set_option maxHeartbeats 4000000 in
theorem steps_idle (h : Hd) (ct : BitVec 64) (fr : Int) (tr : Nat → BitVec 8) (w : World) (hk : okR h ⟨ct, false, fr, tr⟩) : Calls Try.prog 62 #[.agg (row 24 (hdv h)).toArray, .agg (row 35 (rtv ⟨ct, false, fr, tr⟩)).toArray] w fun e w' => e = .returned (.tuple #[.int .i64 0, .int .i64 0]) ∧ Ext w w' := by
  obtain ⟨c, d, w1, hw, hd, hc, H0, H1, hE⟩ := boxes2 w 24 (hdv h) 37 35 (rtv ⟨ct, false, fr, tr⟩) 66
  go_enter Try.func62, Try.ntmps62
  go_upto_region 1 with (fail)
  rw [← hw.out, ← hd.out, ← hc.out]
  clear hw hd hc
  refine wp_region_lit ?_
  refine wpList_run rfl (.agg (row 24 (hdv h)).toArray) (xload 37 (.tmp 2) rfl c 0 24 _ rfl H0.out.range Try.underlying37 rfl infoH) ?_
  simp only [Act.put, List.setIfInBounds_toArray, List.set_cons_zero, List.set_cons_succ]
  refine wpList_run rfl (.agg (row 35 (rtv ⟨ct, false, fr, tr⟩)).toArray) (xload 66 (.tmp 3) rfl d 0 35 _ rfl H1.out.range Try.underlying66 rfl infoR) ?_
  simp only [Act.put, List.setIfInBounds_toArray, List.set_cons_zero, List.set_cons_succ]
  refine wpList_call rfl (by simp [go_sem]) ((may_any h ⟨ct, false, fr, tr⟩ w1 true (iff_of_true rfl hk)).mono ?_)
  rintro e y1 ⟨rfl, hX2⟩
  refine ⟨_, rfl, ?_⟩
  simp only [Act.put, List.setIfInBounds_toArray, List.set_cons_zero, List.set_cons_succ]
  replace H0 := hideit (H0.out.carry hX2)
  replace H1 := hideit (H1.out.carry hX2)
  replace hE := hideit (Ext.trans hE.out hX2)
  clear hX2
  refine wpList_run rfl (.bool false) (by simp [go_sem]) ?_
  simp only [Act.put, List.setIfInBounds_toArray, List.set_cons_zero, List.set_cons_succ]
  go_upto_region 3 with (fail)
  replace H0 := hideit H0.out.drew
  replace H1 := hideit H1.out.drew
  replace hE := hideit hE.out.draw
  refine wp_region_lad (fun X => Ext y1.drew X) [(false, 0), (false, 1), (true, 2), (false, 3)] (by kernel_rfl) (by kernel_rfl) (by decide +kernel) (by decide +kernel) (by decide +kernel) (by decide +kernel) (Ext.refl _) ?_
  refine wpX_f _ (.agg (row 35 (rtv ⟨ct, false, fr, tr⟩)).toArray) rfl rfl (fun X hX => xload 66 (.tmp 3) rfl d 0 35 _ rfl (H1.out.carry hX).range Try.underlying66 rfl infoR) ?_
  simp only [List.getElem_toArray, List.getElem_cons_zero, Act.put, List.setIfInBounds_toArray, List.set_cons_zero, List.set_cons_succ]
  refine wpX_f _ (.agg (row 35 (rtv ⟨ct, false, fr, tr⟩)).toArray) rfl rfl (fun X hX => xload 66 (.tmp 3) rfl d 0 35 _ rfl (H1.out.carry hX).range Try.underlying66 rfl infoR) ?_
  simp only [List.getElem_toArray, List.getElem_cons_zero, List.getElem_cons_succ, Act.put, List.setIfInBounds_toArray, List.set_cons_zero, List.set_cons_succ]
  refine wpX_call _ rfl rfl (by simp [go_sem]) ((idle_any ⟨ct, false, fr, tr⟩ y1.drew).mono ?_)
  rintro e y3 ⟨rfl, hX4⟩
  refine ⟨_, rfl, fun X => Ext y3 X, fun X hX => Ext.trans hX4 hX, Ext.refl _, ?_⟩
  simp only [List.getElem_toArray, List.getElem_cons_zero, List.getElem_cons_succ, Act.put, List.setIfInBounds_toArray, List.set_cons_zero, List.set_cons_succ]
  replace H0 := hideit (H0.out.carry hX4)
  replace H1 := hideit (H1.out.carry hX4)
  replace hE := hideit (Ext.trans hE.out hX4)
  clear hX4
  refine wpX_f _ (.bool true) rfl rfl (fun X hX => xcmp .eql 66 66 (.tmp 10) (.tmp 12) rfl _ _ rfl rfl (by kernel_rfl) _ ((eqlR _ _ X).trans (by rw [eqR_id, decide_eq_true (okR_z hk)]))) ?_
  simp only [List.getElem_toArray, List.getElem_cons_zero, List.getElem_cons_succ, Act.put, List.setIfInBounds_toArray, List.set_cons_zero, List.set_cons_succ]
  refine wpX_nil ?_
  go_wp2
  refine bodyPost_ret (res2 rfl _ _ _) rfl ?_
  exact ⟨rfl, hE.out⟩
set_option maxRecDepth 20000 in
set_option maxHeartbeats 4000000 in
theorem steps_badt (h : Hd) (ct : BitVec 64) (fr : Int) (tr : Nat → BitVec 8) (w : World) (hk : ¬ okR h ⟨ct, true, fr, tr⟩) : Calls Try.prog 62 #[.agg (row 24 (hdv h)).toArray, .agg (row 35 (rtv ⟨ct, true, fr, tr⟩)).toArray] w fun e w' => e = .returned (.tuple #[.int .i64 0, .int .i64 1]) ∧ Ext w w' := by
  obtain ⟨c, d, w1, hw, hd, hc, H0, H1, hE⟩ := boxes2 w 24 (hdv h) 37 35 (rtv ⟨ct, true, fr, tr⟩) 66
  go_enter Try.func62, Try.ntmps62
  go_upto_region 1 with (fail)
  rw [← hw.out, ← hd.out, ← hc.out]
  clear hw hd hc
  refine wp_region_lit ?_
  refine wpList_run rfl (.agg (row 24 (hdv h)).toArray) (xload 37 (.tmp 2) rfl c 0 24 _ rfl H0.out.range Try.underlying37 rfl infoH) ?_
  simp only [Act.put, List.setIfInBounds_toArray, List.set_cons_zero, List.set_cons_succ]
  refine wpList_run rfl (.agg (row 35 (rtv ⟨ct, true, fr, tr⟩)).toArray) (xload 66 (.tmp 3) rfl d 0 35 _ rfl H1.out.range Try.underlying66 rfl infoR) ?_
  simp only [Act.put, List.setIfInBounds_toArray, List.set_cons_zero, List.set_cons_succ]
  refine wpList_call rfl (by simp [go_sem]) ((may_any h ⟨ct, true, fr, tr⟩ w1 false (iff_of_false (by decide) hk)).mono ?_)
  rintro e y1 ⟨rfl, hX2⟩
  refine ⟨_, rfl, ?_⟩
  simp only [Act.put, List.setIfInBounds_toArray, List.set_cons_zero, List.set_cons_succ]
  replace H0 := hideit (H0.out.carry hX2)
  replace H1 := hideit (H1.out.carry hX2)
  replace hE := hideit (Ext.trans hE.out hX2)
  clear hX2
  refine wpList_run rfl (.bool true) (by simp [go_sem]) ?_
  simp only [Act.put, List.setIfInBounds_toArray, List.set_cons_zero, List.set_cons_succ]
  go_wp2
  refine bodyPost_ret (res2 rfl _ _ _) rfl ?_
  exact ⟨rfl, hE.out⟩
set_option maxRecDepth 20000 in
set_option maxHeartbeats 4000000 in
theorem steps_badf (h : Hd) (ct : BitVec 64) (fr : Int) (tr : Nat → BitVec 8) (w : World) (hk : ¬ okR h ⟨ct, false, fr, tr⟩) : Calls Try.prog 62 #[.agg (row 24 (hdv h)).toArray, .agg (row 35 (rtv ⟨ct, false, fr, tr⟩)).toArray] w fun e w' => e = .returned (.tuple #[.int .i64 0, .int .i64 1]) ∧ Ext w w' := by
  obtain ⟨c, d, w1, hw, hd, hc, H0, H1, hE⟩ := boxes2 w 24 (hdv h) 37 35 (rtv ⟨ct, false, fr, tr⟩) 66
  go_enter Try.func62, Try.ntmps62
  go_upto_region 1 with (fail)
  rw [← hw.out, ← hd.out, ← hc.out]
  clear hw hd hc
  refine wp_region_lit ?_
  refine wpList_run rfl (.agg (row 24 (hdv h)).toArray) (xload 37 (.tmp 2) rfl c 0 24 _ rfl H0.out.range Try.underlying37 rfl infoH) ?_
  simp only [Act.put, List.setIfInBounds_toArray, List.set_cons_zero, List.set_cons_succ]
  refine wpList_run rfl (.agg (row 35 (rtv ⟨ct, false, fr, tr⟩)).toArray) (xload 66 (.tmp 3) rfl d 0 35 _ rfl H1.out.range Try.underlying66 rfl infoR) ?_
  simp only [Act.put, List.setIfInBounds_toArray, List.set_cons_zero, List.set_cons_succ]
  refine wpList_call rfl (by simp [go_sem]) ((may_any h ⟨ct, false, fr, tr⟩ w1 false (iff_of_false (by decide) hk)).mono ?_)
  rintro e y1 ⟨rfl, hX2⟩
  refine ⟨_, rfl, ?_⟩
  simp only [Act.put, List.setIfInBounds_toArray, List.set_cons_zero, List.set_cons_succ]
  replace H0 := hideit (H0.out.carry hX2)
  replace H1 := hideit (H1.out.carry hX2)
  replace hE := hideit (Ext.trans hE.out hX2)
  clear hX2
  refine wpList_run rfl (.bool true) (by simp [go_sem]) ?_
  simp only [Act.put, List.setIfInBounds_toArray, List.set_cons_zero, List.set_cons_succ]
  go_wp2
  refine bodyPost_ret (res2 rfl _ _ _) rfl ?_
  exact ⟨rfl, hE.out⟩
end Go.Proofs.Ytcipkfalnjgghaa
namespace Go.Proofs.Ytcipkfalnjgghaa
set_option maxRecDepth 100000
open Go.RowKit Go.BigFrame
set_option linter.unusedVariables false
/-- the root behind the next step -/
def afR (h : Hd) (ct : BitVec 64) (fr : Int) (tr : Nat → BitVec 8) : Rt := if nxT h fr = h.se then ⟨ct, false, 0, tr⟩ else ⟨ct, true, nxT h fr, tr⟩
theorem build30 (w : World) : (Instr.build 66 #[]).run Try.prog w = .ok (.agg (row 35 (rtv rt0)).toArray) w := by
  have := zR
  rw [← this]
  simp [go_sem]
set_option maxRecDepth 20000 in
set_option maxHeartbeats 4000000 in
theorem after_idle (h : Hd) (ct : BitVec 64) (fr : Int) (tr : Nat → BitVec 8) (w : World) (hk : okR h ⟨ct, false, fr, tr⟩) : Calls Try.prog 60 #[.agg (row 24 (hdv h)).toArray, .agg (row 35 (rtv ⟨ct, false, fr, tr⟩)).toArray] w fun e w' => e = .returned (.tuple #[.agg (row 35 (rtv rt0)).toArray, .bool false, .int .i64 231]) ∧ Ext w w' := by
  obtain ⟨c, d, z, w1, hw, hz, hd, hc, H0, H1, H2, hE, hne⟩ := boxes3 w 24 (hdv h) 37 35 (rtv ⟨ct, false, fr, tr⟩) 66 35 (rtv rt0) _ 66 zR
  go_enter Try.func60, Try.ntmps60
  go_upto_region 1 with (fail)
  rw [← hw.out, ← hz.out, ← hd.out, ← hc.out]
  clear hw hz hd hc
  refine wp_region_lit ?_
  refine wpList_run rfl (.agg (row 24 (hdv h)).toArray) (xload 37 (.tmp 2) rfl c 0 24 _ rfl H0.out.range Try.underlying37 rfl infoH) ?_
  simp only [Act.put, List.setIfInBounds_toArray, List.set_cons_zero, List.set_cons_succ]
  refine wpList_run rfl (.agg (row 35 (rtv ⟨ct, false, fr, tr⟩)).toArray) (xload 66 (.tmp 3) rfl d 0 35 _ rfl H1.out.range Try.underlying66 rfl infoR) ?_
  simp only [Act.put, List.setIfInBounds_toArray, List.set_cons_zero, List.set_cons_succ]
  refine wpList_call rfl (by simp [go_sem]) ((next_idle h ct fr tr w1 hk).mono ?_)
  rintro e y1 ⟨rfl, hX2⟩
  refine ⟨_, rfl, ?_⟩
  simp only [Act.put, List.setIfInBounds_toArray, List.set_cons_zero, List.set_cons_succ]
  replace H0 := hideit (H0.out.carry hX2)
  replace H1 := hideit (H1.out.carry hX2)
  replace H2 := hideit (H2.out.carry hX2)
  replace hE := hideit (Ext.trans hE.out hX2)
  clear hX2
  refine wpList_run rfl (.tuple #[.int .i64 0, .int .i64 0, .int .i64 231]) (by simp [go_sem]) ?_
  simp only [Act.put, List.setIfInBounds_toArray, List.set_cons_zero, List.set_cons_succ]
  refine wpList_run rfl (.int .i64 0) (by simp [go_sem]) ?_
  simp only [Act.put, List.setIfInBounds_toArray, List.set_cons_zero, List.set_cons_succ]
  refine wpList_run rfl (.int .i64 0) (by simp [go_sem]) ?_
  simp only [Act.put, List.setIfInBounds_toArray, List.set_cons_zero, List.set_cons_succ]
  refine wpList_run rfl (.int .i64 231) (by simp [go_sem]) ?_
  simp only [Act.put, List.setIfInBounds_toArray, List.set_cons_zero, List.set_cons_succ]
  refine wpList_run rfl (.int .i64 0) (by simp [go_sem]) ?_
  simp only [Act.put, List.setIfInBounds_toArray, List.set_cons_zero, List.set_cons_succ]
  refine wpList_run rfl (.int .i64 0) (by simp [go_sem]) ?_
  simp only [Act.put, List.setIfInBounds_toArray, List.set_cons_zero, List.set_cons_succ]
  refine wpList_run rfl (.int .i64 231) (by simp [go_sem]) ?_
  simp only [Act.put, List.setIfInBounds_toArray, List.set_cons_zero, List.set_cons_succ]
  go_upto_region 2 with (fail)
  refine wp_region_lit ?_
  refine wpList_run rfl (.int .i64 231) (by simp [go_sem]) ?_
  simp only [Act.put, List.setIfInBounds_toArray, List.set_cons_zero, List.set_cons_succ]
  refine wpList_run rfl (.bool true) (by simp [go_sem]) ?_
  simp only [Act.put, List.setIfInBounds_toArray, List.set_cons_zero, List.set_cons_succ]
  go_upto_region 3 with (fail)
  refine wp_region_lit ?_
  refine wpList_run rfl (.agg (row 35 (rtv rt0)).toArray) (xbuild 66 [] rfl _ (build30 y1)) ?_
  simp only [Act.put, List.setIfInBounds_toArray, List.set_cons_zero, List.set_cons_succ]
  refine wpList_run rfl (.int .i64 231) (by simp [go_sem]) ?_
  simp only [Act.put, List.setIfInBounds_toArray, List.set_cons_zero, List.set_cons_succ]
  have N0 := hideit (H2.out.cells (g' := rtv rt0))
  have N1 := hideit (H0.out.cellsOther (Ne.symm (hne.out.1)) (row 35 (rtv rt0)) 0)
  have N2 := hideit (H1.out.cellsOther (Ne.symm (hne.out.2.1)) (row 35 (rtv rt0)) 0)
  have NE := hideit (below_setCells z (hne.out.2.2.2.1) (row 35 (rtv rt0)) 0 _ hE.out)
  refine xst rfl (y1.setCells z 0 (row 35 (rtv rt0))) (xstore 66 (.tmp 4) (.tmp 19) rfl z 35 _ (rtv rt0) rfl rfl H2.out infoR (fun j _ => rtv_one _ j)) ?_
  simp only [Act.put]
  generalize y1.setCells z 0 (row 35 (rtv rt0)) = x3 at N0 N1 N2 NE ⊢
  replace H2 := N0
  replace H0 := N1
  replace H1 := N2
  replace hE := NE
  clear N0 N1 N2 NE 
  refine wpList_run rfl (.bool false) (by simp [go_sem]) ?_
  simp only [Act.put, List.setIfInBounds_toArray, List.set_cons_zero, List.set_cons_succ]
  refine wpList_run rfl (.int .i64 231) (by simp [go_sem]) ?_
  simp only [Act.put, List.setIfInBounds_toArray, List.set_cons_zero, List.set_cons_succ]
  go_wp2
  refine bodyPost_ret (ret_row3 rfl rfl H2.out Try.underlying66 rfl infoR) rfl ?_
  exact ⟨rfl, hE.out⟩
set_option maxRecDepth 20000 in
set_option maxHeartbeats 4000000 in
theorem after_badt (h : Hd) (ct : BitVec 64) (fr : Int) (tr : Nat → BitVec 8) (w : World) (hk : ¬ okR h ⟨ct, true, fr, tr⟩) : Calls Try.prog 60 #[.agg (row 24 (hdv h)).toArray, .agg (row 35 (rtv ⟨ct, true, fr, tr⟩)).toArray] w fun e w' => e = .returned (.tuple #[.agg (row 35 (rtv rt0)).toArray, .bool false, .int .i64 1]) ∧ Ext w w' := by
  obtain ⟨c, d, z, w1, hw, hz, hd, hc, H0, H1, H2, hE, hne⟩ := boxes3 w 24 (hdv h) 37 35 (rtv ⟨ct, true, fr, tr⟩) 66 35 (rtv rt0) _ 66 zR
  go_enter Try.func60, Try.ntmps60
  go_upto_region 1 with (fail)
  rw [← hw.out, ← hz.out, ← hd.out, ← hc.out]
  clear hw hz hd hc
  refine wp_region_lit ?_
  refine wpList_run rfl (.agg (row 24 (hdv h)).toArray) (xload 37 (.tmp 2) rfl c 0 24 _ rfl H0.out.range Try.underlying37 rfl infoH) ?_
  simp only [Act.put, List.setIfInBounds_toArray, List.set_cons_zero, List.set_cons_succ]
  refine wpList_run rfl (.agg (row 35 (rtv ⟨ct, true, fr, tr⟩)).toArray) (xload 66 (.tmp 3) rfl d 0 35 _ rfl H1.out.range Try.underlying66 rfl infoR) ?_
  simp only [Act.put, List.setIfInBounds_toArray, List.set_cons_zero, List.set_cons_succ]
  refine wpList_call rfl (by simp [go_sem]) ((next_badt h ct fr tr w1 hk).mono ?_)
  rintro e y1 ⟨rfl, hX2⟩
  refine ⟨_, rfl, ?_⟩
  simp only [Act.put, List.setIfInBounds_toArray, List.set_cons_zero, List.set_cons_succ]
  replace H0 := hideit (H0.out.carry hX2)
  replace H1 := hideit (H1.out.carry hX2)
  replace H2 := hideit (H2.out.carry hX2)
  replace hE := hideit (Ext.trans hE.out hX2)
  clear hX2
  refine wpList_run rfl (.tuple #[.int .i64 0, .int .i64 0, .int .i64 1]) (by simp [go_sem]) ?_
  simp only [Act.put, List.setIfInBounds_toArray, List.set_cons_zero, List.set_cons_succ]
  refine wpList_run rfl (.int .i64 0) (by simp [go_sem]) ?_
  simp only [Act.put, List.setIfInBounds_toArray, List.set_cons_zero, List.set_cons_succ]
  refine wpList_run rfl (.int .i64 0) (by simp [go_sem]) ?_
  simp only [Act.put, List.setIfInBounds_toArray, List.set_cons_zero, List.set_cons_succ]
  refine wpList_run rfl (.int .i64 1) (by simp [go_sem]) ?_
  simp only [Act.put, List.setIfInBounds_toArray, List.set_cons_zero, List.set_cons_succ]
  refine wpList_run rfl (.int .i64 0) (by simp [go_sem]) ?_
  simp only [Act.put, List.setIfInBounds_toArray, List.set_cons_zero, List.set_cons_succ]
  refine wpList_run rfl (.int .i64 0) (by simp [go_sem]) ?_
  simp only [Act.put, List.setIfInBounds_toArray, List.set_cons_zero, List.set_cons_succ]
  refine wpList_run rfl (.int .i64 1) (by simp [go_sem]) ?_
  simp only [Act.put, List.setIfInBounds_toArray, List.set_cons_zero, List.set_cons_succ]
  go_upto_region 2 with (fail)
  refine wp_region_lit ?_
  refine wpList_run rfl (.int .i64 1) (by simp [go_sem]) ?_
  simp only [Act.put, List.setIfInBounds_toArray, List.set_cons_zero, List.set_cons_succ]
  refine wpList_run rfl (.bool true) (by simp [go_sem]) ?_
  simp only [Act.put, List.setIfInBounds_toArray, List.set_cons_zero, List.set_cons_succ]
  go_upto_region 3 with (fail)
  refine wp_region_lit ?_
  refine wpList_run rfl (.agg (row 35 (rtv rt0)).toArray) (xbuild 66 [] rfl _ (build30 y1)) ?_
  simp only [Act.put, List.setIfInBounds_toArray, List.set_cons_zero, List.set_cons_succ]
  refine wpList_run rfl (.int .i64 1) (by simp [go_sem]) ?_
  simp only [Act.put, List.setIfInBounds_toArray, List.set_cons_zero, List.set_cons_succ]
  have N0 := hideit (H2.out.cells (g' := rtv rt0))
  have N1 := hideit (H0.out.cellsOther (Ne.symm (hne.out.1)) (row 35 (rtv rt0)) 0)
  have N2 := hideit (H1.out.cellsOther (Ne.symm (hne.out.2.1)) (row 35 (rtv rt0)) 0)
  have NE := hideit (below_setCells z (hne.out.2.2.2.1) (row 35 (rtv rt0)) 0 _ hE.out)
  refine xst rfl (y1.setCells z 0 (row 35 (rtv rt0))) (xstore 66 (.tmp 4) (.tmp 19) rfl z 35 _ (rtv rt0) rfl rfl H2.out infoR (fun j _ => rtv_one _ j)) ?_
  simp only [Act.put]
  generalize y1.setCells z 0 (row 35 (rtv rt0)) = x3 at N0 N1 N2 NE ⊢
  replace H2 := N0
  replace H0 := N1
  replace H1 := N2
  replace hE := NE
  clear N0 N1 N2 NE 
  refine wpList_run rfl (.bool false) (by simp [go_sem]) ?_
  simp only [Act.put, List.setIfInBounds_toArray, List.set_cons_zero, List.set_cons_succ]
  refine wpList_run rfl (.int .i64 1) (by simp [go_sem]) ?_
  simp only [Act.put, List.setIfInBounds_toArray, List.set_cons_zero, List.set_cons_succ]
  go_wp2
  refine bodyPost_ret (ret_row3 rfl rfl H2.out Try.underlying66 rfl infoR) rfl ?_
  exact ⟨rfl, hE.out⟩
set_option maxRecDepth 20000 in
set_option maxHeartbeats 4000000 in
theorem after_badf (h : Hd) (ct : BitVec 64) (fr : Int) (tr : Nat → BitVec 8) (w : World) (hk : ¬ okR h ⟨ct, false, fr, tr⟩) : Calls Try.prog 60 #[.agg (row 24 (hdv h)).toArray, .agg (row 35 (rtv ⟨ct, false, fr, tr⟩)).toArray] w fun e w' => e = .returned (.tuple #[.agg (row 35 (rtv rt0)).toArray, .bool false, .int .i64 1]) ∧ Ext w w' := by
  obtain ⟨c, d, z, w1, hw, hz, hd, hc, H0, H1, H2, hE, hne⟩ := boxes3 w 24 (hdv h) 37 35 (rtv ⟨ct, false, fr, tr⟩) 66 35 (rtv rt0) _ 66 zR
  go_enter Try.func60, Try.ntmps60
  go_upto_region 1 with (fail)
  rw [← hw.out, ← hz.out, ← hd.out, ← hc.out]
  clear hw hz hd hc
  refine wp_region_lit ?_
  refine wpList_run rfl (.agg (row 24 (hdv h)).toArray) (xload 37 (.tmp 2) rfl c 0 24 _ rfl H0.out.range Try.underlying37 rfl infoH) ?_
  simp only [Act.put, List.setIfInBounds_toArray, List.set_cons_zero, List.set_cons_succ]
  refine wpList_run rfl (.agg (row 35 (rtv ⟨ct, false, fr, tr⟩)).toArray) (xload 66 (.tmp 3) rfl d 0 35 _ rfl H1.out.range Try.underlying66 rfl infoR) ?_
  simp only [Act.put, List.setIfInBounds_toArray, List.set_cons_zero, List.set_cons_succ]
  refine wpList_call rfl (by simp [go_sem]) ((next_badf h ct fr tr w1 hk).mono ?_)
  rintro e y1 ⟨rfl, hX2⟩
  refine ⟨_, rfl, ?_⟩
  simp only [Act.put, List.setIfInBounds_toArray, List.set_cons_zero, List.set_cons_succ]
  replace H0 := hideit (H0.out.carry hX2)
  replace H1 := hideit (H1.out.carry hX2)
  replace H2 := hideit (H2.out.carry hX2)
  replace hE := hideit (Ext.trans hE.out hX2)
  clear hX2
  refine wpList_run rfl (.tuple #[.int .i64 0, .int .i64 0, .int .i64 1]) (by simp [go_sem]) ?_
  simp only [Act.put, List.setIfInBounds_toArray, List.set_cons_zero, List.set_cons_succ]
  refine wpList_run rfl (.int .i64 0) (by simp [go_sem]) ?_
  simp only [Act.put, List.setIfInBounds_toArray, List.set_cons_zero, List.set_cons_succ]
  refine wpList_run rfl (.int .i64 0) (by simp [go_sem]) ?_
  simp only [Act.put, List.setIfInBounds_toArray, List.set_cons_zero, List.set_cons_succ]
  refine wpList_run rfl (.int .i64 1) (by simp [go_sem]) ?_
  simp only [Act.put, List.setIfInBounds_toArray, List.set_cons_zero, List.set_cons_succ]
  refine wpList_run rfl (.int .i64 0) (by simp [go_sem]) ?_
  simp only [Act.put, List.setIfInBounds_toArray, List.set_cons_zero, List.set_cons_succ]
  refine wpList_run rfl (.int .i64 0) (by simp [go_sem]) ?_
  simp only [Act.put, List.setIfInBounds_toArray, List.set_cons_zero, List.set_cons_succ]
  refine wpList_run rfl (.int .i64 1) (by simp [go_sem]) ?_
  simp only [Act.put, List.setIfInBounds_toArray, List.set_cons_zero, List.set_cons_succ]
  go_upto_region 2 with (fail)
  refine wp_region_lit ?_
  refine wpList_run rfl (.int .i64 1) (by simp [go_sem]) ?_
  simp only [Act.put, List.setIfInBounds_toArray, List.set_cons_zero, List.set_cons_succ]
  refine wpList_run rfl (.bool true) (by simp [go_sem]) ?_
  simp only [Act.put, List.setIfInBounds_toArray, List.set_cons_zero, List.set_cons_succ]
  go_upto_region 3 with (fail)
  refine wp_region_lit ?_
  refine wpList_run rfl (.agg (row 35 (rtv rt0)).toArray) (xbuild 66 [] rfl _ (build30 y1)) ?_
  simp only [Act.put, List.setIfInBounds_toArray, List.set_cons_zero, List.set_cons_succ]
  refine wpList_run rfl (.int .i64 1) (by simp [go_sem]) ?_
  simp only [Act.put, List.setIfInBounds_toArray, List.set_cons_zero, List.set_cons_succ]
  have N0 := hideit (H2.out.cells (g' := rtv rt0))
  have N1 := hideit (H0.out.cellsOther (Ne.symm (hne.out.1)) (row 35 (rtv rt0)) 0)
  have N2 := hideit (H1.out.cellsOther (Ne.symm (hne.out.2.1)) (row 35 (rtv rt0)) 0)
  have NE := hideit (below_setCells z (hne.out.2.2.2.1) (row 35 (rtv rt0)) 0 _ hE.out)
  refine xst rfl (y1.setCells z 0 (row 35 (rtv rt0))) (xstore 66 (.tmp 4) (.tmp 19) rfl z 35 _ (rtv rt0) rfl rfl H2.out infoR (fun j _ => rtv_one _ j)) ?_
  simp only [Act.put]
  generalize y1.setCells z 0 (row 35 (rtv rt0)) = x3 at N0 N1 N2 NE ⊢
  replace H2 := N0
  replace H0 := N1
  replace H1 := N2
  replace hE := NE
  clear N0 N1 N2 NE 
  refine wpList_run rfl (.bool false) (by simp [go_sem]) ?_
  simp only [Act.put, List.setIfInBounds_toArray, List.set_cons_zero, List.set_cons_succ]
  refine wpList_run rfl (.int .i64 1) (by simp [go_sem]) ?_
  simp only [Act.put, List.setIfInBounds_toArray, List.set_cons_zero, List.set_cons_succ]
  go_wp2
  refine bodyPost_ret (ret_row3 rfl rfl H2.out Try.underlying66 rfl infoR) rfl ?_
  exact ⟨rfl, hE.out⟩
set_option maxRecDepth 20000 in
set_option maxHeartbeats 4000000 in
theorem after_end (h : Hd) (ct : BitVec 64) (fr : Int) (tr : Nat → BitVec 8) (w : World) (hk : okR h ⟨ct, true, fr, tr⟩) (a1 : Hid (nxT h fr = h.se)) (a2 : Hid (¬ nxT h fr < h.se)) : Calls Try.prog 60 #[.agg (row 24 (hdv h)).toArray, .agg (row 35 (rtv ⟨ct, true, fr, tr⟩)).toArray] w fun e w' => e = .returned (.tuple #[.agg (row 35 (rtv ⟨ct, false, 0, tr⟩)).toArray, .bool true, .int .i64 0]) ∧ Ext w w' := by
  obtain ⟨c, d, z, w1, hw, hz, hd, hc, H0, H1, H2, hE, hne⟩ := boxes3 w 24 (hdv h) 37 35 (rtv ⟨ct, true, fr, tr⟩) 66 35 (rtv rt0) _ 66 zR
  go_enter Try.func60, Try.ntmps60
  go_upto_region 1 with (fail)
  rw [← hw.out, ← hz.out, ← hd.out, ← hc.out]
  clear hw hz hd hc
  refine wp_region_lit ?_
  refine wpList_run rfl (.agg (row 24 (hdv h)).toArray) (xload 37 (.tmp 2) rfl c 0 24 _ rfl H0.out.range Try.underlying37 rfl infoH) ?_
  simp only [Act.put, List.setIfInBounds_toArray, List.set_cons_zero, List.set_cons_succ]
  refine wpList_run rfl (.agg (row 35 (rtv ⟨ct, true, fr, tr⟩)).toArray) (xload 66 (.tmp 3) rfl d 0 35 _ rfl H1.out.range Try.underlying66 rfl infoR) ?_
  simp only [Act.put, List.setIfInBounds_toArray, List.set_cons_zero, List.set_cons_succ]
  refine wpList_call rfl (by simp [go_sem]) ((next_go h ct fr tr w1 hk).mono ?_)
  rintro e y1 ⟨rfl, hX2⟩
  refine ⟨_, rfl, ?_⟩
  simp only [Act.put, List.setIfInBounds_toArray, List.set_cons_zero, List.set_cons_succ]
  replace H0 := hideit (H0.out.carry hX2)
  replace H1 := hideit (H1.out.carry hX2)
  replace H2 := hideit (H2.out.carry hX2)
  replace hE := hideit (Ext.trans hE.out hX2)
  clear hX2
  refine wpList_run rfl (.tuple #[.int .i64 (fr), .int .i64 (nxT h fr), .int .i64 0]) (by simp [go_sem]) ?_
  simp only [Act.put, List.setIfInBounds_toArray, List.set_cons_zero, List.set_cons_succ]
  refine wpList_run rfl (.int .i64 (fr)) (by simp [go_sem]) ?_
  simp only [Act.put, List.setIfInBounds_toArray, List.set_cons_zero, List.set_cons_succ]
  refine wpList_run rfl (.int .i64 (nxT h fr)) (by simp [go_sem]) ?_
  simp only [Act.put, List.setIfInBounds_toArray, List.set_cons_zero, List.set_cons_succ]
  refine wpList_run rfl (.int .i64 0) (by simp [go_sem]) ?_
  simp only [Act.put, List.setIfInBounds_toArray, List.set_cons_zero, List.set_cons_succ]
  refine wpList_run rfl (.int .i64 (fr)) (by simp [go_sem]) ?_
  simp only [Act.put, List.setIfInBounds_toArray, List.set_cons_zero, List.set_cons_succ]
  refine wpList_run rfl (.int .i64 (nxT h fr)) (by simp [go_sem]) ?_
  simp only [Act.put, List.setIfInBounds_toArray, List.set_cons_zero, List.set_cons_succ]
  refine wpList_run rfl (.int .i64 0) (by simp [go_sem]) ?_
  simp only [Act.put, List.setIfInBounds_toArray, List.set_cons_zero, List.set_cons_succ]
  go_upto_region 2 with (fail)
  refine wp_region_lit ?_
  refine wpList_run rfl (.int .i64 0) (by simp [go_sem]) ?_
  simp only [Act.put, List.setIfInBounds_toArray, List.set_cons_zero, List.set_cons_succ]
  refine wpList_run rfl (.bool false) (by simp [go_sem]) ?_
  simp only [Act.put, List.setIfInBounds_toArray, List.set_cons_zero, List.set_cons_succ]
  go_upto_region 4 with (fail)
  refine wp_region_lit ?_
  refine wpList_run rfl (.int .i64 (nxT h fr)) (by simp [go_sem]) ?_
  simp only [Act.put, List.setIfInBounds_toArray, List.set_cons_zero, List.set_cons_succ]
  refine wpList_run rfl (.pointer (some ⟨c, 1, none⟩)) (by simp [go_sem]) ?_
  simp only [Act.put, List.setIfInBounds_toArray, List.set_cons_zero, List.set_cons_succ]
  have m3 : y1.cell? ⟨c, 1, none⟩ = some (.int .i64 (h.se)) := H0.out.1 1 (by decide)
  refine wpList_run rfl (.int .i64 (h.se)) (by simp [go_sem, m3]) ?_
  simp only [Act.put, List.setIfInBounds_toArray, List.set_cons_zero, List.set_cons_succ]
  clear m3
  refine wpList_run rfl (.bool true) (by simp [go_sem, a1.out]) ?_
  simp only [Act.put, List.setIfInBounds_toArray, List.set_cons_zero, List.set_cons_succ]
  go_upto_region 5 with (fail)
  refine wp_region_lit ?_
  refine wpList_run rfl (.agg (row 35 (rtv ⟨ct, true, fr, tr⟩)).toArray) (xload 66 (.tmp 3) rfl d 0 35 _ rfl H1.out.range Try.underlying66 rfl infoR) ?_
  simp only [Act.put, List.setIfInBounds_toArray, List.set_cons_zero, List.set_cons_succ]
  refine wpList_call rfl (by simp [go_sem]) ((idle_any ⟨ct, true, fr, tr⟩ y1).mono ?_)
  rintro e y4 ⟨rfl, hX5⟩
  refine ⟨_, rfl, ?_⟩
  simp only [Act.put, List.setIfInBounds_toArray, List.set_cons_zero, List.set_cons_succ]
  replace H0 := hideit (H0.out.carry hX5)
  replace H1 := hideit (H1.out.carry hX5)
  replace H2 := hideit (H2.out.carry hX5)
  replace hE := hideit (Ext.trans hE.out hX5)
  clear hX5
  have N0 := hideit (H2.out.cells (g' := rtv (idF ⟨ct, true, fr, tr⟩)))
  have N1 := hideit (H0.out.cellsOther (Ne.symm (hne.out.1)) (row 35 (rtv (idF ⟨ct, true, fr, tr⟩))) 0)
  have N2 := hideit (H1.out.cellsOther (Ne.symm (hne.out.2.1)) (row 35 (rtv (idF ⟨ct, true, fr, tr⟩))) 0)
  have NE := hideit (below_setCells z (hne.out.2.2.2.1) (row 35 (rtv (idF ⟨ct, true, fr, tr⟩))) 0 _ hE.out)
  refine xst rfl (y4.setCells z 0 (row 35 (rtv (idF ⟨ct, true, fr, tr⟩)))) (xstore 66 (.tmp 4) (.tmp 26) rfl z 35 _ (rtv (idF ⟨ct, true, fr, tr⟩)) rfl rfl H2.out infoR (fun j _ => rtv_one _ j)) ?_
  simp only [Act.put]
  generalize y4.setCells z 0 (row 35 (rtv (idF ⟨ct, true, fr, tr⟩))) = x6 at N0 N1 N2 NE ⊢
  replace H2 := N0
  replace H0 := N1
  replace H1 := N2
  replace hE := NE
  clear N0 N1 N2 NE 
  refine wpList_run rfl (.bool true) (by simp [go_sem]) ?_
  simp only [Act.put, List.setIfInBounds_toArray, List.set_cons_zero, List.set_cons_succ]
  refine wpList_run rfl (.int .i64 0) (by simp [go_sem]) ?_
  simp only [Act.put, List.setIfInBounds_toArray, List.set_cons_zero, List.set_cons_succ]
  go_wp2
  refine bodyPost_ret (ret_row3 rfl rfl H2.out Try.underlying66 rfl infoR) rfl ?_
  exact ⟨rfl, hE.out⟩
set_option maxRecDepth 20000 in
set_option maxHeartbeats 4000000 in
theorem after_on (h : Hd) (ct : BitVec 64) (fr : Int) (tr : Nat → BitVec 8) (w : World) (hk : okR h ⟨ct, true, fr, tr⟩) (a1 : Hid (¬ nxT h fr = h.se)) (a2 : Hid (nxT h fr < h.se)) : Calls Try.prog 60 #[.agg (row 24 (hdv h)).toArray, .agg (row 35 (rtv ⟨ct, true, fr, tr⟩)).toArray] w fun e w' => e = .returned (.tuple #[.agg (row 35 (rtv ⟨ct, true, nxT h fr, tr⟩)).toArray, .bool false, .int .i64 0]) ∧ Ext w w' := by
  obtain ⟨c, d, z, w1, hw, hz, hd, hc, H0, H1, H2, hE, hne⟩ := boxes3 w 24 (hdv h) 37 35 (rtv ⟨ct, true, fr, tr⟩) 66 35 (rtv rt0) _ 66 zR
  go_enter Try.func60, Try.ntmps60
  go_upto_region 1 with (fail)
  rw [← hw.out, ← hz.out, ← hd.out, ← hc.out]
  clear hw hz hd hc
  refine wp_region_lit ?_
  refine wpList_run rfl (.agg (row 24 (hdv h)).toArray) (xload 37 (.tmp 2) rfl c 0 24 _ rfl H0.out.range Try.underlying37 rfl infoH) ?_
  simp only [Act.put, List.setIfInBounds_toArray, List.set_cons_zero, List.set_cons_succ]
  refine wpList_run rfl (.agg (row 35 (rtv ⟨ct, true, fr, tr⟩)).toArray) (xload 66 (.tmp 3) rfl d 0 35 _ rfl H1.out.range Try.underlying66 rfl infoR) ?_
  simp only [Act.put, List.setIfInBounds_toArray, List.set_cons_zero, List.set_cons_succ]
  refine wpList_call rfl (by simp [go_sem]) ((next_go h ct fr tr w1 hk).mono ?_)
  rintro e y1 ⟨rfl, hX2⟩
  refine ⟨_, rfl, ?_⟩
  simp only [Act.put, List.setIfInBounds_toArray, List.set_cons_zero, List.set_cons_succ]
  replace H0 := hideit (H0.out.carry hX2)
  replace H1 := hideit (H1.out.carry hX2)
  replace H2 := hideit (H2.out.carry hX2)
  replace hE := hideit (Ext.trans hE.out hX2)
  clear hX2
  refine wpList_run rfl (.tuple #[.int .i64 (fr), .int .i64 (nxT h fr), .int .i64 0]) (by simp [go_sem]) ?_
  simp only [Act.put, List.setIfInBounds_toArray, List.set_cons_zero, List.set_cons_succ]
  refine wpList_run rfl (.int .i64 (fr)) (by simp [go_sem]) ?_
  simp only [Act.put, List.setIfInBounds_toArray, List.set_cons_zero, List.set_cons_succ]
  refine wpList_run rfl (.int .i64 (nxT h fr)) (by simp [go_sem]) ?_
  simp only [Act.put, List.setIfInBounds_toArray, List.set_cons_zero, List.set_cons_succ]
  refine wpList_run rfl (.int .i64 0) (by simp [go_sem]) ?_
  simp only [Act.put, List.setIfInBounds_toArray, List.set_cons_zero, List.set_cons_succ]
  refine wpList_run rfl (.int .i64 (fr)) (by simp [go_sem]) ?_
  simp only [Act.put, List.setIfInBounds_toArray, List.set_cons_zero, List.set_cons_succ]
  refine wpList_run rfl (.int .i64 (nxT h fr)) (by simp [go_sem]) ?_
  simp only [Act.put, List.setIfInBounds_toArray, List.set_cons_zero, List.set_cons_succ]
  refine wpList_run rfl (.int .i64 0) (by simp [go_sem]) ?_
  simp only [Act.put, List.setIfInBounds_toArray, List.set_cons_zero, List.set_cons_succ]
  go_upto_region 2 with (fail)
  refine wp_region_lit ?_
  refine wpList_run rfl (.int .i64 0) (by simp [go_sem]) ?_
  simp only [Act.put, List.setIfInBounds_toArray, List.set_cons_zero, List.set_cons_succ]
  refine wpList_run rfl (.bool false) (by simp [go_sem]) ?_
  simp only [Act.put, List.setIfInBounds_toArray, List.set_cons_zero, List.set_cons_succ]
  go_upto_region 4 with (fail)
  refine wp_region_lit ?_
  refine wpList_run rfl (.int .i64 (nxT h fr)) (by simp [go_sem]) ?_
  simp only [Act.put, List.setIfInBounds_toArray, List.set_cons_zero, List.set_cons_succ]
  refine wpList_run rfl (.pointer (some ⟨c, 1, none⟩)) (by simp [go_sem]) ?_
  simp only [Act.put, List.setIfInBounds_toArray, List.set_cons_zero, List.set_cons_succ]
  have m3 : y1.cell? ⟨c, 1, none⟩ = some (.int .i64 (h.se)) := H0.out.1 1 (by decide)
  refine wpList_run rfl (.int .i64 (h.se)) (by simp [go_sem, m3]) ?_
  simp only [Act.put, List.setIfInBounds_toArray, List.set_cons_zero, List.set_cons_succ]
  clear m3
  refine wpList_run rfl (.bool false) (by simp [go_sem, a1.out]) ?_
  simp only [Act.put, List.setIfInBounds_toArray, List.set_cons_zero, List.set_cons_succ]
  go_upto_region 6 with (fail)
  refine wp_region_lit ?_
  refine wpList_run rfl (.int .i64 (nxT h fr)) (by simp [go_sem]) ?_
  simp only [Act.put, List.setIfInBounds_toArray, List.set_cons_zero, List.set_cons_succ]
  refine wpList_run rfl (.pointer (some ⟨d, 2, none⟩)) (by simp [go_sem]) ?_
  simp only [Act.put, List.setIfInBounds_toArray, List.set_cons_zero, List.set_cons_succ]
  have M0 : y1.cell? ⟨d, 2, none⟩ = some (.int .i64 (fr)) := H1.out.1 2 (by decide)
  have M1 : y1.frozen? ⟨d, 2, none⟩ = false := H1.out.2.1 2 (by decide)
  have N0 := hideit (H1.out.set 2 (.int .i64 (nxT h fr)))
  have N1 := hideit (H0.out.other ⟨d, 2, none⟩ (.int .i64 (nxT h fr)) (Ne.symm (hne.out.2.2.1)))
  have N2 := hideit (H2.out.other ⟨d, 2, none⟩ (.int .i64 (nxT h fr)) (hne.out.2.1))
  have NE := hideit (hE.out.setCell (p := ⟨d, 2, none⟩) (hne.out.2.2.2.2) (.int .i64 (nxT h fr)))
  refine xst rfl (y1.setCell ⟨d, 2, none⟩ (.int .i64 (nxT h fr))) (by simp [go_sem, M0, M1]) ?_
  simp only [Act.put]
  generalize y1.setCell ⟨d, 2, none⟩ (.int .i64 (nxT h fr)) = x4 at N0 N1 N2 NE ⊢
  clear M0 M1
  replace N0 := hideit (N0.out.congr (g' := rtv ⟨ct, true, nxT h fr, tr⟩) (fun j hj => rt_fr ⟨ct, true, fr, tr⟩ (nxT h fr) j))
  replace H1 := N0
  replace H0 := N1
  replace H2 := N2
  replace hE := NE
  clear N0 N1 N2 NE 
  go_upto_region 7 with (fail)
  refine wp_region_lit ?_
  refine wpList_run rfl (.agg (row 35 (rtv ⟨ct, true, nxT h fr, tr⟩)).toArray) (xload 66 (.tmp 3) rfl d 0 35 _ rfl H1.out.range Try.underlying66 rfl infoR) ?_
  simp only [Act.put, List.setIfInBounds_toArray, List.set_cons_zero, List.set_cons_succ]
  have N0 := hideit (H2.out.cells (g' := rtv ⟨ct, true, nxT h fr, tr⟩))
  have N1 := hideit (H0.out.cellsOther (Ne.symm (hne.out.1)) (row 35 (rtv ⟨ct, true, nxT h fr, tr⟩)) 0)
  have N2 := hideit (H1.out.cellsOther (Ne.symm (hne.out.2.1)) (row 35 (rtv ⟨ct, true, nxT h fr, tr⟩)) 0)
  have NE := hideit (below_setCells z (hne.out.2.2.2.1) (row 35 (rtv ⟨ct, true, nxT h fr, tr⟩)) 0 _ hE.out)
  refine xst rfl (x4.setCells z 0 (row 35 (rtv ⟨ct, true, nxT h fr, tr⟩))) (xstore 66 (.tmp 4) (.tmp 29) rfl z 35 _ (rtv ⟨ct, true, nxT h fr, tr⟩) rfl rfl H2.out infoR (fun j _ => rtv_one _ j)) ?_
  simp only [Act.put]
  generalize x4.setCells z 0 (row 35 (rtv ⟨ct, true, nxT h fr, tr⟩)) = x5 at N0 N1 N2 NE ⊢
  replace H2 := N0
  replace H0 := N1
  replace H1 := N2
  replace hE := NE
  clear N0 N1 N2 NE 
  refine wpList_run rfl (.bool false) (by simp [go_sem]) ?_
  simp only [Act.put, List.setIfInBounds_toArray, List.set_cons_zero, List.set_cons_succ]
  refine wpList_run rfl (.int .i64 0) (by simp [go_sem]) ?_
  simp only [Act.put, List.setIfInBounds_toArray, List.set_cons_zero, List.set_cons_succ]
  go_wp2
  refine bodyPost_ret (ret_row3 rfl rfl H2.out Try.underlying66 rfl infoR) rfl ?_
  exact ⟨rfl, hE.out⟩
end Go.Proofs.Ytcipkfalnjgghaa
