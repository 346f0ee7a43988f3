/-
  Next, the program's.
-/
import Derived.Test.YtcipkfalnjgghaaPl2
namespace Go.Proofs.Ytcipkfalnjgghaa
set_option maxRecDepth 100000
open Go.RowKit Go.BigFrame
theorem okR_z {h : Hd} {ct : BitVec 64} {fr : Int} {tr : Nat → BitVec 8} (hk : okR h ⟨ct, false, fr, tr⟩) : fr = 0 := by
  rcases hk.2.2.2 with q | q
  · cases q
  · exact q
theorem okR_b {h : Hd} {r : Rt} (hk : okR h r) : (1 ≤ h.se ∧ h.se ≤ 1024) ∧ (1 ≤ h.sg ∧ h.sg ≤ 16) ∧ 0 ≤ r.fr ∧ r.fr ≤ h.se := ⟨hk.1.1.2.1, hk.1.1.2.2.2.2.1, hk.2.1, hk.2.2.1⟩
/-- the sector behind the last of the next step -/
def nxT (h : Hd) (fr : Int) : Int := if h.se < fr + h.sg then h.se else fr + h.sg
set_option maxRecDepth 20000 in
set_option maxHeartbeats 4000000 in
theorem next_go (h : Hd) (ct : BitVec 64) (fr : Int) (tr : Nat → BitVec 8) (w : World) (hk : okR h ⟨ct, true, fr, tr⟩) : Calls Try.prog 70 #[.agg (row 24 (hdv h)).toArray, .agg (row 35 (rtv ⟨ct, true, fr, tr⟩)).toArray] w fun e w' => e = .returned (.tuple #[.int .i64 fr, .int .i64 (nxT h fr), .int .i64 0]) ∧ Ext w w' := by
  have b1 := (okR_b hk).1
  have b2 := (okR_b hk).2.1
  have b3 : 0 ≤ fr := (okR_b hk).2.2.1
  have b4 : fr ≤ h.se := (okR_b hk).2.2.2
  have e1 : IntKind.i64.wrap (fr + h.sg) = fr + h.sg := by rw [IntKind.wrap_i64]; omega
  replace b1 := hideit b1
  replace b2 := hideit b2
  replace b3 := hideit b3
  replace b4 := hideit b4
  obtain ⟨c, d, w1, hw, hd, hc, H0, H1, hE⟩ := boxes2 w 24 (hdv h) 37 35 (rtv ⟨ct, true, fr, tr⟩) 66
  go_enter Try.func70, Try.ntmps70
  go_upto_region 1 with (fail)
  rw [← hw.out, ← hd.out, ← hc.out]
  clear hw hd hc
  refine wp_region_lit ?_
  refine wpList_run rfl (.agg (row 24 (hdv h)).toArray) (xload 37 (.tmp 2) rfl c 0 24 _ rfl H0.out.range Try.underlying37 rfl infoH) ?_
  simp only [Act.put, List.setIfInBounds_toArray, List.set_cons_zero, List.set_cons_succ]
  refine wpList_run rfl (.agg (row 35 (rtv ⟨ct, true, fr, tr⟩)).toArray) (xload 66 (.tmp 3) rfl d 0 35 _ rfl H1.out.range Try.underlying66 rfl infoR) ?_
  simp only [Act.put, List.setIfInBounds_toArray, List.set_cons_zero, List.set_cons_succ]
  refine wpList_call rfl (by simp [go_sem]) ((may_any h ⟨ct, true, fr, tr⟩ w1 true (iff_of_true rfl hk)).mono ?_)
  rintro e y1 ⟨rfl, hX2⟩
  refine ⟨_, rfl, ?_⟩
  simp only [Act.put, List.setIfInBounds_toArray, List.set_cons_zero, List.set_cons_succ]
  replace H0 := hideit (H0.out.carry hX2)
  replace H1 := hideit (H1.out.carry hX2)
  replace hE := hideit (Ext.trans hE.out hX2)
  clear hX2
  refine wpList_run rfl (.bool false) (by simp [go_sem]) ?_
  simp only [Act.put, List.setIfInBounds_toArray, List.set_cons_zero, List.set_cons_succ]
  go_upto_region 3 with (fail)
  replace H0 := hideit H0.out.drew
  replace H1 := hideit H1.out.drew
  replace hE := hideit hE.out.draw
  refine wp_region_lad (fun X => Ext y1.drew X) [(false, 0), (false, 1), (true, 2), (false, 3)] (by kernel_rfl) (by kernel_rfl) (by decide +kernel) (by decide +kernel) (by decide +kernel) (by decide +kernel) (Ext.refl _) ?_
  refine wpX_f _ (.agg (row 35 (rtv ⟨ct, true, fr, tr⟩)).toArray) rfl rfl (fun X hX => xload 66 (.tmp 3) rfl d 0 35 _ rfl (H1.out.carry hX).range Try.underlying66 rfl infoR) ?_
  simp only [List.getElem_toArray, List.getElem_cons_zero, Act.put, List.setIfInBounds_toArray, List.set_cons_zero, List.set_cons_succ]
  refine wpX_f _ (.agg (row 35 (rtv ⟨ct, true, fr, tr⟩)).toArray) rfl rfl (fun X hX => xload 66 (.tmp 3) rfl d 0 35 _ rfl (H1.out.carry hX).range Try.underlying66 rfl infoR) ?_
  simp only [List.getElem_toArray, List.getElem_cons_zero, List.getElem_cons_succ, Act.put, List.setIfInBounds_toArray, List.set_cons_zero, List.set_cons_succ]
  refine wpX_call _ rfl rfl (by simp [go_sem]) ((idle_any ⟨ct, true, fr, tr⟩ y1.drew).mono ?_)
  rintro e y3 ⟨rfl, hX4⟩
  refine ⟨_, rfl, fun X => Ext y3 X, fun X hX => Ext.trans hX4 hX, Ext.refl _, ?_⟩
  simp only [List.getElem_toArray, List.getElem_cons_zero, List.getElem_cons_succ, Act.put, List.setIfInBounds_toArray, List.set_cons_zero, List.set_cons_succ]
  replace H0 := hideit (H0.out.carry hX4)
  replace H1 := hideit (H1.out.carry hX4)
  replace hE := hideit (Ext.trans hE.out hX4)
  clear hX4
  refine wpX_f _ (.bool false) rfl rfl (fun X hX => xcmp .eql 66 66 (.tmp 11) (.tmp 13) rfl _ _ rfl rfl (by kernel_rfl) _ ((eqlR _ _ X).trans (by rw [eqR_idT]))) ?_
  simp only [List.getElem_toArray, List.getElem_cons_zero, List.getElem_cons_succ, Act.put, List.setIfInBounds_toArray, List.set_cons_zero, List.set_cons_succ]
  refine wpX_nil ?_
  go_upto_region 5 with (fail)
  replace H0 := hideit H0.out.drew
  replace H1 := hideit H1.out.drew
  replace hE := hideit hE.out.draw
  refine wp_region_lad (fun X => Ext y3.drew X) [(false, 0), (false, 1), (false, 2), (false, 3), (false, 4), (false, 5), (false, 6), (false, 7), (false, 8), (false, 9), (false, 10), (false, 11), (false, 12)] (by kernel_rfl) (by kernel_rfl) (by decide +kernel) (by decide +kernel) (by decide +kernel) (by decide +kernel) (Ext.refl _) ?_
  refine wpX_f _ (.pointer (some ⟨d, 2, none⟩)) rfl rfl (fun X _ => by simp [go_sem]) ?_
  simp only [List.getElem_toArray, List.getElem_cons_zero, Act.put, List.setIfInBounds_toArray, List.set_cons_zero, List.set_cons_succ]
  refine wpX_f _ (.int .i64 (fr)) rfl rfl (fun X hX => by have m5 : X.cell? ⟨d, 2, none⟩ = some (.int .i64 (fr)) := (H1.out.carry hX).1 2 (by decide); simp [go_sem, m5]) ?_
  simp only [List.getElem_toArray, List.getElem_cons_zero, List.getElem_cons_succ, Act.put, List.setIfInBounds_toArray, List.set_cons_zero, List.set_cons_succ]
  refine wpX_f _ (.pointer (some ⟨d, 2, none⟩)) rfl rfl (fun X _ => by simp [go_sem]) ?_
  simp only [List.getElem_toArray, List.getElem_cons_zero, List.getElem_cons_succ, Act.put, List.setIfInBounds_toArray, List.set_cons_zero, List.set_cons_succ]
  refine wpX_f _ (.int .i64 (fr)) rfl rfl (fun X hX => by have m6 : X.cell? ⟨d, 2, none⟩ = some (.int .i64 (fr)) := (H1.out.carry hX).1 2 (by decide); simp [go_sem, m6]) ?_
  simp only [List.getElem_toArray, List.getElem_cons_zero, List.getElem_cons_succ, Act.put, List.setIfInBounds_toArray, List.set_cons_zero, List.set_cons_succ]
  refine wpX_f _ (.pointer (some ⟨c, 4, none⟩)) rfl rfl (fun X _ => by simp [go_sem]) ?_
  simp only [List.getElem_toArray, List.getElem_cons_zero, List.getElem_cons_succ, Act.put, List.setIfInBounds_toArray, List.set_cons_zero, List.set_cons_succ]
  refine wpX_f _ (.int .i64 (h.sg)) rfl rfl (fun X hX => by have m7 : X.cell? ⟨c, 4, none⟩ = some (.int .i64 (h.sg)) := (H0.out.carry hX).1 4 (by decide); simp [go_sem, m7]) ?_
  simp only [List.getElem_toArray, List.getElem_cons_zero, List.getElem_cons_succ, Act.put, List.setIfInBounds_toArray, List.set_cons_zero, List.set_cons_succ]
  refine wpX_f _ (.int .i64 (fr + h.sg)) rfl rfl (fun X _ => by simp [go_sem, e1]) ?_
  simp only [List.getElem_toArray, List.getElem_cons_zero, List.getElem_cons_succ, Act.put, List.setIfInBounds_toArray, List.set_cons_zero, List.set_cons_succ]
  refine wpX_f _ (.pointer (some ⟨c, 1, none⟩)) rfl rfl (fun X _ => by simp [go_sem]) ?_
  simp only [List.getElem_toArray, List.getElem_cons_zero, List.getElem_cons_succ, Act.put, List.setIfInBounds_toArray, List.set_cons_zero, List.set_cons_succ]
  refine wpX_f _ (.int .i64 (h.se)) rfl rfl (fun X hX => by have m8 : X.cell? ⟨c, 1, none⟩ = some (.int .i64 (h.se)) := (H0.out.carry hX).1 1 (by decide); simp [go_sem, m8]) ?_
  simp only [List.getElem_toArray, List.getElem_cons_zero, List.getElem_cons_succ, Act.put, List.setIfInBounds_toArray, List.set_cons_zero, List.set_cons_succ]
  refine wpX_f _ (.int .i64 (nxT h fr)) rfl rfl (fun X _ => by simp [go_sem, nxT]) ?_
  simp only [List.getElem_toArray, List.getElem_cons_zero, List.getElem_cons_succ, Act.put, List.setIfInBounds_toArray, List.set_cons_zero, List.set_cons_succ]
  refine wpX_f _ (.int .i64 (fr)) rfl rfl (fun X _ => by simp [go_sem]) ?_
  simp only [List.getElem_toArray, List.getElem_cons_zero, List.getElem_cons_succ, Act.put, List.setIfInBounds_toArray, List.set_cons_zero, List.set_cons_succ]
  refine wpX_f _ (.int .i64 (nxT h fr)) rfl rfl (fun X _ => by simp [go_sem]) ?_
  simp only [List.getElem_toArray, List.getElem_cons_zero, List.getElem_cons_succ, Act.put, List.setIfInBounds_toArray, List.set_cons_zero, List.set_cons_succ]
  refine wpX_f _ (.int .i64 0) rfl rfl (fun X _ => by simp [go_sem]) ?_
  simp only [List.getElem_toArray, List.getElem_cons_zero, List.getElem_cons_succ, Act.put, List.setIfInBounds_toArray, List.set_cons_zero, List.set_cons_succ]
  refine wpX_nil ?_
  go_wp2
  refine bodyPost_ret (res3 rfl _ _ _) rfl ?_
  exact ⟨rfl, hE.out⟩
set_option maxRecDepth 20000 in
set_option maxHeartbeats 4000000 in
theorem next_idle (h : Hd) (ct : BitVec 64) (fr : Int) (tr : Nat → BitVec 8) (w : World) (hk : okR h ⟨ct, false, fr, tr⟩) : Calls Try.prog 70 #[.agg (row 24 (hdv h)).toArray, .agg (row 35 (rtv ⟨ct, false, fr, tr⟩)).toArray] w fun e w' => e = .returned (.tuple #[.int .i64 0, .int .i64 0, .int .i64 231]) ∧ Ext w w' := by
  obtain ⟨c, d, w1, hw, hd, hc, H0, H1, hE⟩ := boxes2 w 24 (hdv h) 37 35 (rtv ⟨ct, false, fr, tr⟩) 66
  go_enter Try.func70, Try.ntmps70
  go_upto_region 1 with (fail)
  rw [← hw.out, ← hd.out, ← hc.out]
  clear hw hd hc
  refine wp_region_lit ?_
  refine wpList_run rfl (.agg (row 24 (hdv h)).toArray) (xload 37 (.tmp 2) rfl c 0 24 _ rfl H0.out.range Try.underlying37 rfl infoH) ?_
  simp only [Act.put, List.setIfInBounds_toArray, List.set_cons_zero, List.set_cons_succ]
  refine wpList_run rfl (.agg (row 35 (rtv ⟨ct, false, fr, tr⟩)).toArray) (xload 66 (.tmp 3) rfl d 0 35 _ rfl H1.out.range Try.underlying66 rfl infoR) ?_
  simp only [Act.put, List.setIfInBounds_toArray, List.set_cons_zero, List.set_cons_succ]
  refine wpList_call rfl (by simp [go_sem]) ((may_any h ⟨ct, false, fr, tr⟩ w1 true (iff_of_true rfl hk)).mono ?_)
  rintro e y1 ⟨rfl, hX2⟩
  refine ⟨_, rfl, ?_⟩
  simp only [Act.put, List.setIfInBounds_toArray, List.set_cons_zero, List.set_cons_succ]
  replace H0 := hideit (H0.out.carry hX2)
  replace H1 := hideit (H1.out.carry hX2)
  replace hE := hideit (Ext.trans hE.out hX2)
  clear hX2
  refine wpList_run rfl (.bool false) (by simp [go_sem]) ?_
  simp only [Act.put, List.setIfInBounds_toArray, List.set_cons_zero, List.set_cons_succ]
  go_upto_region 3 with (fail)
  replace H0 := hideit H0.out.drew
  replace H1 := hideit H1.out.drew
  replace hE := hideit hE.out.draw
  refine wp_region_lad (fun X => Ext y1.drew X) [(false, 0), (false, 1), (true, 2), (false, 3)] (by kernel_rfl) (by kernel_rfl) (by decide +kernel) (by decide +kernel) (by decide +kernel) (by decide +kernel) (Ext.refl _) ?_
  refine wpX_f _ (.agg (row 35 (rtv ⟨ct, false, fr, tr⟩)).toArray) rfl rfl (fun X hX => xload 66 (.tmp 3) rfl d 0 35 _ rfl (H1.out.carry hX).range Try.underlying66 rfl infoR) ?_
  simp only [List.getElem_toArray, List.getElem_cons_zero, Act.put, List.setIfInBounds_toArray, List.set_cons_zero, List.set_cons_succ]
  refine wpX_f _ (.agg (row 35 (rtv ⟨ct, false, fr, tr⟩)).toArray) rfl rfl (fun X hX => xload 66 (.tmp 3) rfl d 0 35 _ rfl (H1.out.carry hX).range Try.underlying66 rfl infoR) ?_
  simp only [List.getElem_toArray, List.getElem_cons_zero, List.getElem_cons_succ, Act.put, List.setIfInBounds_toArray, List.set_cons_zero, List.set_cons_succ]
  refine wpX_call _ rfl rfl (by simp [go_sem]) ((idle_any ⟨ct, false, fr, tr⟩ y1.drew).mono ?_)
  rintro e y3 ⟨rfl, hX4⟩
  refine ⟨_, rfl, fun X => Ext y3 X, fun X hX => Ext.trans hX4 hX, Ext.refl _, ?_⟩
  simp only [List.getElem_toArray, List.getElem_cons_zero, List.getElem_cons_succ, Act.put, List.setIfInBounds_toArray, List.set_cons_zero, List.set_cons_succ]
  replace H0 := hideit (H0.out.carry hX4)
  replace H1 := hideit (H1.out.carry hX4)
  replace hE := hideit (Ext.trans hE.out hX4)
  clear hX4
  refine wpX_f _ (.bool true) rfl rfl (fun X hX => xcmp .eql 66 66 (.tmp 11) (.tmp 13) rfl _ _ rfl rfl (by kernel_rfl) _ ((eqlR _ _ X).trans (by rw [eqR_id, decide_eq_true (okR_z hk)]))) ?_
  simp only [List.getElem_toArray, List.getElem_cons_zero, List.getElem_cons_succ, Act.put, List.setIfInBounds_toArray, List.set_cons_zero, List.set_cons_succ]
  refine wpX_nil ?_
  go_wp2
  refine bodyPost_ret (res3 rfl _ _ _) rfl ?_
  exact ⟨rfl, hE.out⟩
set_option maxRecDepth 20000 in
set_option maxHeartbeats 4000000 in
theorem next_badt (h : Hd) (ct : BitVec 64) (fr : Int) (tr : Nat → BitVec 8) (w : World) (hk : ¬ okR h ⟨ct, true, fr, tr⟩) : Calls Try.prog 70 #[.agg (row 24 (hdv h)).toArray, .agg (row 35 (rtv ⟨ct, true, fr, tr⟩)).toArray] w fun e w' => e = .returned (.tuple #[.int .i64 0, .int .i64 0, .int .i64 1]) ∧ Ext w w' := by
  obtain ⟨c, d, w1, hw, hd, hc, H0, H1, hE⟩ := boxes2 w 24 (hdv h) 37 35 (rtv ⟨ct, true, fr, tr⟩) 66
  go_enter Try.func70, Try.ntmps70
  go_upto_region 1 with (fail)
  rw [← hw.out, ← hd.out, ← hc.out]
  clear hw hd hc
  refine wp_region_lit ?_
  refine wpList_run rfl (.agg (row 24 (hdv h)).toArray) (xload 37 (.tmp 2) rfl c 0 24 _ rfl H0.out.range Try.underlying37 rfl infoH) ?_
  simp only [Act.put, List.setIfInBounds_toArray, List.set_cons_zero, List.set_cons_succ]
  refine wpList_run rfl (.agg (row 35 (rtv ⟨ct, true, fr, tr⟩)).toArray) (xload 66 (.tmp 3) rfl d 0 35 _ rfl H1.out.range Try.underlying66 rfl infoR) ?_
  simp only [Act.put, List.setIfInBounds_toArray, List.set_cons_zero, List.set_cons_succ]
  refine wpList_call rfl (by simp [go_sem]) ((may_any h ⟨ct, true, fr, tr⟩ w1 false (iff_of_false (by decide) hk)).mono ?_)
  rintro e y1 ⟨rfl, hX2⟩
  refine ⟨_, rfl, ?_⟩
  simp only [Act.put, List.setIfInBounds_toArray, List.set_cons_zero, List.set_cons_succ]
  replace H0 := hideit (H0.out.carry hX2)
  replace H1 := hideit (H1.out.carry hX2)
  replace hE := hideit (Ext.trans hE.out hX2)
  clear hX2
  refine wpList_run rfl (.bool true) (by simp [go_sem]) ?_
  simp only [Act.put, List.setIfInBounds_toArray, List.set_cons_zero, List.set_cons_succ]
  go_wp2
  refine bodyPost_ret (res3 rfl _ _ _) rfl ?_
  exact ⟨rfl, hE.out⟩
set_option maxRecDepth 20000 in
set_option maxHeartbeats 4000000 in
theorem next_badf (h : Hd) (ct : BitVec 64) (fr : Int) (tr : Nat → BitVec 8) (w : World) (hk : ¬ okR h ⟨ct, false, fr, tr⟩) : Calls Try.prog 70 #[.agg (row 24 (hdv h)).toArray, .agg (row 35 (rtv ⟨ct, false, fr, tr⟩)).toArray] w fun e w' => e = .returned (.tuple #[.int .i64 0, .int .i64 0, .int .i64 1]) ∧ Ext w w' := by
  obtain ⟨c, d, w1, hw, hd, hc, H0, H1, hE⟩ := boxes2 w 24 (hdv h) 37 35 (rtv ⟨ct, false, fr, tr⟩) 66
  go_enter Try.func70, Try.ntmps70
  go_upto_region 1 with (fail)
  rw [← hw.out, ← hd.out, ← hc.out]
  clear hw hd hc
  refine wp_region_lit ?_
  refine wpList_run rfl (.agg (row 24 (hdv h)).toArray) (xload 37 (.tmp 2) rfl c 0 24 _ rfl H0.out.range Try.underlying37 rfl infoH) ?_
  simp only [Act.put, List.setIfInBounds_toArray, List.set_cons_zero, List.set_cons_succ]
  refine wpList_run rfl (.agg (row 35 (rtv ⟨ct, false, fr, tr⟩)).toArray) (xload 66 (.tmp 3) rfl d 0 35 _ rfl H1.out.range Try.underlying66 rfl infoR) ?_
  simp only [Act.put, List.setIfInBounds_toArray, List.set_cons_zero, List.set_cons_succ]
  refine wpList_call rfl (by simp [go_sem]) ((may_any h ⟨ct, false, fr, tr⟩ w1 false (iff_of_false (by decide) hk)).mono ?_)
  rintro e y1 ⟨rfl, hX2⟩
  refine ⟨_, rfl, ?_⟩
  simp only [Act.put, List.setIfInBounds_toArray, List.set_cons_zero, List.set_cons_succ]
  replace H0 := hideit (H0.out.carry hX2)
  replace H1 := hideit (H1.out.carry hX2)
  replace hE := hideit (Ext.trans hE.out hX2)
  clear hX2
  refine wpList_run rfl (.bool true) (by simp [go_sem]) ?_
  simp only [Act.put, List.setIfInBounds_toArray, List.set_cons_zero, List.set_cons_succ]
  go_wp2
  refine bodyPost_ret (res3 rfl _ _ _) rfl ?_
  exact ⟨rfl, hE.out⟩
end Go.Proofs.Ytcipkfalnjgghaa
