/-
  Bound.
-/
import Derived.Test.YtchieinmpcdhfaaPl5
namespace Go.Proofs.Ytchieinmpcdhfaa
open Go.RowKit Go.BigFrame
set_option linter.unusedVariables false
/-- as many steps as a rekey takes at most -/
def bdF (h : Hd) (c : Int) : Int := (if c < 0 then 0 else c) + sgF h h.se
theorem sgF_le {h : Hd} (hs : 1 ≤ h.sg) {x : Int} (hx : 0 ≤ x ∧ x ≤ 1024) (h16 : h.sg ≤ 16) : 0 ≤ sgF h x ∧ sgF h x ≤ 1040 := by
  unfold sgF
  have h1 : (x + h.sg - 1).tdiv h.sg = (x + h.sg - 1) / h.sg := Int.tdiv_eq_ediv_of_nonneg (by omega)
  have h2 : (x + h.sg - 1) / h.sg ≤ x + h.sg - 1 := Int.ediv_le_self _ (by omega)
  have h3 : 0 ≤ (x + h.sg - 1) / h.sg := Int.ediv_nonneg (by omega) (by omega)
  omega
set_option maxRecDepth 20000 in
set_option maxHeartbeats 4000000 in
theorem bound_no (h : Hd) (x : Int) (w : World) (hk : ¬ okH h) : Calls Try.prog 18 #[.agg (row 24 (hdv h)).toArray, .int .i64 x] w fun e w' => e = .returned (.int .i64 0) ∧ Ext w w' := by
  obtain ⟨c, w1, hw, hc, H0, hE⟩ := boxes1 w 24 (hdv h) 27
  go_enter Try.func18, Try.ntmps18
  go_upto_region 1 with (fail)
  rw [← hw.out, ← hc.out]
  clear hw hc
  refine wp_region_lit ?_
  refine wpList_run rfl (.agg (row 24 (hdv h)).toArray) (xload 27 (.tmp 2) rfl c 0 24 _ rfl H0.out.range Try.underlying27 rfl infoH) ?_
  simp only [Act.put, List.setIfInBounds_toArray, List.set_cons_zero, List.set_cons_succ]
  refine wpList_call rfl (by simp [go_sem]) ((check_no h w1 hk).mono ?_)
  rintro e y1 ⟨rfl, hX2⟩
  refine ⟨_, rfl, ?_⟩
  simp only [Act.put, List.setIfInBounds_toArray, List.set_cons_zero, List.set_cons_succ]
  replace H0 := hideit (H0.out.carry hX2)
  replace hE := hideit (Ext.trans hE.out hX2)
  clear hX2
  refine wpList_run rfl (.bool true) (by simp [go_sem]) ?_
  simp only [Act.put, List.setIfInBounds_toArray, List.set_cons_zero, List.set_cons_succ]
  go_wp2
  go_ret
  exact ⟨rfl, hE.out⟩
set_option maxRecDepth 20000 in
set_option maxHeartbeats 4000000 in
theorem rbound_no (h : Hd) (x : Int) (w : World) (hk : ¬ okH h) : Calls Try.prog 19 #[.agg (row 24 (hdv h)).toArray, .int .i64 x] w fun e w' => e = .returned (.int .i64 0) ∧ Ext w w' := by
  obtain ⟨c, w1, hw, hc, H0, hE⟩ := boxes1 w 24 (hdv h) 27
  go_enter Try.func19, Try.ntmps19
  go_upto_region 1 with (fail)
  rw [← hw.out, ← hc.out]
  clear hw hc
  refine wp_region_lit ?_
  refine wpList_run rfl (.agg (row 24 (hdv h)).toArray) (xload 27 (.tmp 2) rfl c 0 24 _ rfl H0.out.range Try.underlying27 rfl infoH) ?_
  simp only [Act.put, List.setIfInBounds_toArray, List.set_cons_zero, List.set_cons_succ]
  refine wpList_call rfl (by simp [go_sem]) ((rcheck_no h w1 hk).mono ?_)
  rintro e y1 ⟨rfl, hX2⟩
  refine ⟨_, rfl, ?_⟩
  simp only [Act.put, List.setIfInBounds_toArray, List.set_cons_zero, List.set_cons_succ]
  replace H0 := hideit (H0.out.carry hX2)
  replace hE := hideit (Ext.trans hE.out hX2)
  clear hX2
  refine wpList_run rfl (.bool true) (by simp [go_sem]) ?_
  simp only [Act.put, List.setIfInBounds_toArray, List.set_cons_zero, List.set_cons_succ]
  go_wp2
  go_ret
  exact ⟨rfl, hE.out⟩
set_option maxRecDepth 20000 in
set_option maxHeartbeats 4000000 in
theorem bound_ok (h : Hd) (x : Int) (w : World) (hk : okH h) (hx : x ≤ 1152921504606846976) : Calls Try.prog 18 #[.agg (row 24 (hdv h)).toArray, .int .i64 x] w fun e w' => e = .returned (.int .i64 (bdF h x)) ∧ Ext w w' := by
  have b1 := hideit hk.1.2.1
  have b2 := hideit hk.1.2.2.2.2.1
  have b3 := hideit (sgF_le b2.out.1 ⟨by have := b1.out.1; omega, b1.out.2⟩ b2.out.2)
  obtain ⟨z, hz⟩ : ∃ z : Int, z = if x < 0 then 0 else x := ⟨_, rfl⟩
  obtain ⟨s, hs⟩ : ∃ s : Int, s = sgF h h.se := ⟨_, rfl⟩
  rw [← hs] at b3
  have hr : bdF h x = z + s := by unfold bdF; rw [← hz, ← hs]
  rw [hr]
  have hz0 : 0 ≤ z ∧ z ≤ 1152921504606846976 := by rw [hz]; split <;> omega
  have e1 : IntKind.i64.wrap (9223372036854775807 - z) = 9223372036854775807 - z := by rw [IntKind.wrap_i64]; omega
  have e2 : IntKind.i64.wrap (z + s) = z + s := by have := b3.out; rw [IntKind.wrap_i64]; omega
  have e3 : ¬ 9223372036854775807 - z < s := by have := b3.out; omega
  have hs' := hideit hs.symm
  have hz' := hideit hz.symm
  have hz0' := hideit hz0
  clear hs hz hz0 hr
  obtain ⟨c, w1, hw, hc, H0, hE⟩ := boxes1 w 24 (hdv h) 27
  go_enter Try.func18, Try.ntmps18
  go_upto_region 1 with (fail)
  rw [← hw.out, ← hc.out]
  clear hw hc
  refine wp_region_lit ?_
  refine wpList_run rfl (.agg (row 24 (hdv h)).toArray) (xload 27 (.tmp 2) rfl c 0 24 _ rfl H0.out.range Try.underlying27 rfl infoH) ?_
  simp only [Act.put, List.setIfInBounds_toArray, List.set_cons_zero, List.set_cons_succ]
  refine wpList_call rfl (by simp [go_sem]) ((check_ok h w1 hk).mono ?_)
  rintro e y1 ⟨rfl, hX2⟩
  refine ⟨_, rfl, ?_⟩
  simp only [Act.put, List.setIfInBounds_toArray, List.set_cons_zero, List.set_cons_succ]
  replace H0 := hideit (H0.out.carry hX2)
  replace hE := hideit (Ext.trans hE.out hX2)
  clear hX2
  refine wpList_run rfl (.bool false) (by simp [go_sem]) ?_
  simp only [Act.put, List.setIfInBounds_toArray, List.set_cons_zero, List.set_cons_succ]
  go_upto_region 3 with (fail)
  refine wp_region_lit ?_
  refine wpList_run rfl (.int .i64 (x)) (by simp [go_sem]) ?_
  simp only [Act.put, List.setIfInBounds_toArray, List.set_cons_zero, List.set_cons_succ]
  refine wpList_run rfl (.int .i64 (z)) (by simp [go_sem, hz'.out]) ?_
  simp only [Act.put, List.setIfInBounds_toArray, List.set_cons_zero, List.set_cons_succ]
  refine wpList_run rfl (.int .i64 (z)) (by simp [go_sem]) ?_
  simp only [Act.put, List.setIfInBounds_toArray, List.set_cons_zero, List.set_cons_succ]
  have k1 := hideit (show 0 ≤ h.se ∧ h.se ≤ 1024 from ⟨by have := b1.out.1; omega, b1.out.2⟩)
  go_upto_region 4 with (fail)
  refine wp_region_lit ?_
  refine wpList_run rfl (.int .i64 (z)) (by simp [go_sem]) ?_
  simp only [Act.put, List.setIfInBounds_toArray, List.set_cons_zero, List.set_cons_succ]
  refine wpList_run rfl (.agg (row 24 (hdv h)).toArray) (xload 27 (.tmp 2) rfl c 0 24 _ rfl H0.out.range Try.underlying27 rfl infoH) ?_
  simp only [Act.put, List.setIfInBounds_toArray, List.set_cons_zero, List.set_cons_succ]
  refine wpList_run rfl (.pointer (some ⟨c, 1, none⟩)) (by simp [go_sem]) ?_
  simp only [Act.put, List.setIfInBounds_toArray, List.set_cons_zero, List.set_cons_succ]
  have m3 : y1.cell? ⟨c, 1, none⟩ = some (.int .i64 (h.se)) := H0.out.1 1 (by decide)
  refine wpList_run rfl (.int .i64 (h.se)) (by simp [go_sem, m3]) ?_
  simp only [Act.put, List.setIfInBounds_toArray, List.set_cons_zero, List.set_cons_succ]
  clear m3
  have kS := seg_any h h.se y1 k1.out b2.out
  rw [hs'.out] at kS
  refine wpList_call rfl (by simp [go_sem]) ((kS).mono ?_)
  rintro e y9 ⟨rfl, hX9⟩
  refine ⟨_, rfl, ?_⟩
  simp only [Act.put, List.setIfInBounds_toArray, List.set_cons_zero, List.set_cons_succ]
  replace H0 := hideit (H0.out.carry hX9)
  replace hE := hideit (Ext.trans hE.out hX9)
  clear hX9
  refine wpList_run rfl (.int .i64 (z)) (by simp [go_sem]) ?_
  simp only [Act.put, List.setIfInBounds_toArray, List.set_cons_zero, List.set_cons_succ]
  refine wpList_run rfl (.int .i64 (9223372036854775807 - z)) (by simp [go_sem, e1]) ?_
  simp only [Act.put, List.setIfInBounds_toArray, List.set_cons_zero, List.set_cons_succ]
  refine wpList_run rfl (.int .i64 (s)) (by simp [go_sem, e3]) ?_
  simp only [Act.put, List.setIfInBounds_toArray, List.set_cons_zero, List.set_cons_succ]
  refine wpList_run rfl (.int .i64 (z + s)) (by simp [go_sem, e2]) ?_
  simp only [Act.put, List.setIfInBounds_toArray, List.set_cons_zero, List.set_cons_succ]
  refine wpList_run rfl (.int .i64 (z + s)) (by simp [go_sem]) ?_
  simp only [Act.put, List.setIfInBounds_toArray, List.set_cons_zero, List.set_cons_succ]
  go_wp2
  go_ret
  exact ⟨rfl, hE.out⟩
set_option maxRecDepth 20000 in
set_option maxHeartbeats 4000000 in
theorem rbound_pos (h : Hd) (x : Int) (w : World) (hk : okH h) (hx : x ≤ 1152921504606846976) (hp : Hid (0 < x)) : Calls Try.prog 19 #[.agg (row 24 (hdv h)).toArray, .int .i64 x] w fun e w' => e = .returned (.int .i64 (bdF h x)) ∧ Ext w w' := by
  have b1 := hideit hk.1.2.1
  have b2 := hideit hk.1.2.2.2.2.1
  have b3 := hideit (sgF_le b2.out.1 ⟨by have := b1.out.1; omega, b1.out.2⟩ b2.out.2)
  have e1 : IntKind.i64.wrap (h.se + h.sg) = h.se + h.sg := by have := b1.out; have := b2.out; rw [IntKind.wrap_i64]; omega
  have e2 : IntKind.i64.wrap (h.se + h.sg - 1) = h.se + h.sg - 1 := by have := b1.out; have := b2.out; rw [IntKind.wrap_i64]; omega
  have e3 : ¬ h.sg = 0 := by have := b2.out; omega
  have e4 : IntKind.i64.wrap ((h.se + h.sg - 1).tdiv h.sg) = sgF h h.se := by have := b3.out; rw [show (h.se + h.sg - 1).tdiv h.sg = sgF h h.se from rfl, IntKind.wrap_i64]; omega
  have e5 : bdF h x = sgF h h.se + x := by have := hp.out; unfold bdF; split <;> omega
  have e6 : IntKind.i64.wrap (sgF h h.se + x) = sgF h h.se + x := by have := b3.out; have := hp.out; rw [IntKind.wrap_i64]; omega
  rw [e5]
  clear e5
  obtain ⟨c, w1, hw, hc, H0, hE⟩ := boxes1 w 24 (hdv h) 27
  go_enter Try.func19, Try.ntmps19
  go_upto_region 1 with (fail)
  rw [← hw.out, ← hc.out]
  clear hw hc
  refine wp_region_lit ?_
  refine wpList_run rfl (.agg (row 24 (hdv h)).toArray) (xload 27 (.tmp 2) rfl c 0 24 _ rfl H0.out.range Try.underlying27 rfl infoH) ?_
  simp only [Act.put, List.setIfInBounds_toArray, List.set_cons_zero, List.set_cons_succ]
  refine wpList_call rfl (by simp [go_sem]) ((rcheck_ok h w1 hk).mono ?_)
  rintro e y1 ⟨rfl, hX2⟩
  refine ⟨_, rfl, ?_⟩
  simp only [Act.put, List.setIfInBounds_toArray, List.set_cons_zero, List.set_cons_succ]
  replace H0 := hideit (H0.out.carry hX2)
  replace hE := hideit (Ext.trans hE.out hX2)
  clear hX2
  refine wpList_run rfl (.bool false) (by simp [go_sem]) ?_
  simp only [Act.put, List.setIfInBounds_toArray, List.set_cons_zero, List.set_cons_succ]
  go_upto_region 3 with (fail)
  refine wp_region_lit ?_
  refine wpList_run rfl (.pointer (some ⟨c, 1, none⟩)) (by simp [go_sem]) ?_
  simp only [Act.put, List.setIfInBounds_toArray, List.set_cons_zero, List.set_cons_succ]
  have m3 : y1.cell? ⟨c, 1, none⟩ = some (.int .i64 (h.se)) := H0.out.1 1 (by decide)
  refine wpList_run rfl (.int .i64 (h.se)) (by simp [go_sem, m3]) ?_
  simp only [Act.put, List.setIfInBounds_toArray, List.set_cons_zero, List.set_cons_succ]
  clear m3
  refine wpList_run rfl (.pointer (some ⟨c, 4, none⟩)) (by simp [go_sem]) ?_
  simp only [Act.put, List.setIfInBounds_toArray, List.set_cons_zero, List.set_cons_succ]
  have m4 : y1.cell? ⟨c, 4, none⟩ = some (.int .i64 (h.sg)) := H0.out.1 4 (by decide)
  refine wpList_run rfl (.int .i64 (h.sg)) (by simp [go_sem, m4]) ?_
  simp only [Act.put, List.setIfInBounds_toArray, List.set_cons_zero, List.set_cons_succ]
  clear m4
  refine wpList_run rfl (.int .i64 (h.se + h.sg)) (by simp [go_sem, e1]) ?_
  simp only [Act.put, List.setIfInBounds_toArray, List.set_cons_zero, List.set_cons_succ]
  refine wpList_run rfl (.int .i64 (h.se + h.sg - 1)) (by simp [go_sem, e2]) ?_
  simp only [Act.put, List.setIfInBounds_toArray, List.set_cons_zero, List.set_cons_succ]
  refine wpList_run rfl (.pointer (some ⟨c, 4, none⟩)) (by simp [go_sem]) ?_
  simp only [Act.put, List.setIfInBounds_toArray, List.set_cons_zero, List.set_cons_succ]
  have m5 : y1.cell? ⟨c, 4, none⟩ = some (.int .i64 (h.sg)) := H0.out.1 4 (by decide)
  refine wpList_run rfl (.int .i64 (h.sg)) (by simp [go_sem, m5]) ?_
  simp only [Act.put, List.setIfInBounds_toArray, List.set_cons_zero, List.set_cons_succ]
  clear m5
  refine wpList_run rfl (.int .i64 (sgF h h.se)) (by simp [go_sem, e3, e4]) ?_
  simp only [Act.put, List.setIfInBounds_toArray, List.set_cons_zero, List.set_cons_succ]
  refine wpList_run rfl (.int .i64 (sgF h h.se)) (by simp [go_sem]) ?_
  simp only [Act.put, List.setIfInBounds_toArray, List.set_cons_zero, List.set_cons_succ]
  go_upto_region 4 with (fail)
  refine wp_region_lit ?_
  refine wpList_run rfl (.int .i64 (x)) (by simp [go_sem]) ?_
  simp only [Act.put, List.setIfInBounds_toArray, List.set_cons_zero, List.set_cons_succ]
  refine wpList_run rfl (.bool true) (by simp [go_sem, hp.out]) ?_
  simp only [Act.put, List.setIfInBounds_toArray, List.set_cons_zero, List.set_cons_succ]
  go_upto_region 5 with (fail)
  refine wp_region_lit ?_
  refine wpList_run rfl (.int .i64 (sgF h h.se)) (by simp [go_sem]) ?_
  simp only [Act.put, List.setIfInBounds_toArray, List.set_cons_zero, List.set_cons_succ]
  refine wpList_run rfl (.int .i64 (x)) (by simp [go_sem]) ?_
  simp only [Act.put, List.setIfInBounds_toArray, List.set_cons_zero, List.set_cons_succ]
  refine wpList_run rfl (.int .i64 (sgF h h.se + x)) (by simp [go_sem, e6]) ?_
  simp only [Act.put, List.setIfInBounds_toArray, List.set_cons_zero, List.set_cons_succ]
  refine wpList_run rfl (.int .i64 (sgF h h.se + x)) (by simp [go_sem]) ?_
  simp only [Act.put, List.setIfInBounds_toArray, List.set_cons_zero, List.set_cons_succ]
  go_upto_region 6 with (fail)
  refine wp_region_lit ?_
  refine wpList_run rfl (.int .i64 (sgF h h.se + x)) (by simp [go_sem]) ?_
  simp only [Act.put, List.setIfInBounds_toArray, List.set_cons_zero, List.set_cons_succ]
  refine wpList_run rfl (.int .i64 (sgF h h.se + x)) (by simp [go_sem]) ?_
  simp only [Act.put, List.setIfInBounds_toArray, List.set_cons_zero, List.set_cons_succ]
  go_wp2
  go_ret
  exact ⟨rfl, hE.out⟩
set_option maxRecDepth 20000 in
set_option maxHeartbeats 4000000 in
theorem rbound_neg (h : Hd) (x : Int) (w : World) (hk : okH h) (hp : Hid (¬ 0 < x)) : Calls Try.prog 19 #[.agg (row 24 (hdv h)).toArray, .int .i64 x] w fun e w' => e = .returned (.int .i64 (bdF h x)) ∧ Ext w w' := by
  have b1 := hideit hk.1.2.1
  have b2 := hideit hk.1.2.2.2.2.1
  have b3 := hideit (sgF_le b2.out.1 ⟨by have := b1.out.1; omega, b1.out.2⟩ b2.out.2)
  have e1 : IntKind.i64.wrap (h.se + h.sg) = h.se + h.sg := by have := b1.out; have := b2.out; rw [IntKind.wrap_i64]; omega
  have e2 : IntKind.i64.wrap (h.se + h.sg - 1) = h.se + h.sg - 1 := by have := b1.out; have := b2.out; rw [IntKind.wrap_i64]; omega
  have e3 : ¬ h.sg = 0 := by have := b2.out; omega
  have e4 : IntKind.i64.wrap ((h.se + h.sg - 1).tdiv h.sg) = sgF h h.se := by have := b3.out; rw [show (h.se + h.sg - 1).tdiv h.sg = sgF h h.se from rfl, IntKind.wrap_i64]; omega
  have e5 : bdF h x = sgF h h.se := by have := hp.out; unfold bdF; split <;> omega
  rw [e5]
  clear e5
  obtain ⟨c, w1, hw, hc, H0, hE⟩ := boxes1 w 24 (hdv h) 27
  go_enter Try.func19, Try.ntmps19
  go_upto_region 1 with (fail)
  rw [← hw.out, ← hc.out]
  clear hw hc
  refine wp_region_lit ?_
  refine wpList_run rfl (.agg (row 24 (hdv h)).toArray) (xload 27 (.tmp 2) rfl c 0 24 _ rfl H0.out.range Try.underlying27 rfl infoH) ?_
  simp only [Act.put, List.setIfInBounds_toArray, List.set_cons_zero, List.set_cons_succ]
  refine wpList_call rfl (by simp [go_sem]) ((rcheck_ok h w1 hk).mono ?_)
  rintro e y1 ⟨rfl, hX2⟩
  refine ⟨_, rfl, ?_⟩
  simp only [Act.put, List.setIfInBounds_toArray, List.set_cons_zero, List.set_cons_succ]
  replace H0 := hideit (H0.out.carry hX2)
  replace hE := hideit (Ext.trans hE.out hX2)
  clear hX2
  refine wpList_run rfl (.bool false) (by simp [go_sem]) ?_
  simp only [Act.put, List.setIfInBounds_toArray, List.set_cons_zero, List.set_cons_succ]
  go_upto_region 3 with (fail)
  refine wp_region_lit ?_
  refine wpList_run rfl (.pointer (some ⟨c, 1, none⟩)) (by simp [go_sem]) ?_
  simp only [Act.put, List.setIfInBounds_toArray, List.set_cons_zero, List.set_cons_succ]
  have m3 : y1.cell? ⟨c, 1, none⟩ = some (.int .i64 (h.se)) := H0.out.1 1 (by decide)
  refine wpList_run rfl (.int .i64 (h.se)) (by simp [go_sem, m3]) ?_
  simp only [Act.put, List.setIfInBounds_toArray, List.set_cons_zero, List.set_cons_succ]
  clear m3
  refine wpList_run rfl (.pointer (some ⟨c, 4, none⟩)) (by simp [go_sem]) ?_
  simp only [Act.put, List.setIfInBounds_toArray, List.set_cons_zero, List.set_cons_succ]
  have m4 : y1.cell? ⟨c, 4, none⟩ = some (.int .i64 (h.sg)) := H0.out.1 4 (by decide)
  refine wpList_run rfl (.int .i64 (h.sg)) (by simp [go_sem, m4]) ?_
  simp only [Act.put, List.setIfInBounds_toArray, List.set_cons_zero, List.set_cons_succ]
  clear m4
  refine wpList_run rfl (.int .i64 (h.se + h.sg)) (by simp [go_sem, e1]) ?_
  simp only [Act.put, List.setIfInBounds_toArray, List.set_cons_zero, List.set_cons_succ]
  refine wpList_run rfl (.int .i64 (h.se + h.sg - 1)) (by simp [go_sem, e2]) ?_
  simp only [Act.put, List.setIfInBounds_toArray, List.set_cons_zero, List.set_cons_succ]
  refine wpList_run rfl (.pointer (some ⟨c, 4, none⟩)) (by simp [go_sem]) ?_
  simp only [Act.put, List.setIfInBounds_toArray, List.set_cons_zero, List.set_cons_succ]
  have m5 : y1.cell? ⟨c, 4, none⟩ = some (.int .i64 (h.sg)) := H0.out.1 4 (by decide)
  refine wpList_run rfl (.int .i64 (h.sg)) (by simp [go_sem, m5]) ?_
  simp only [Act.put, List.setIfInBounds_toArray, List.set_cons_zero, List.set_cons_succ]
  clear m5
  refine wpList_run rfl (.int .i64 (sgF h h.se)) (by simp [go_sem, e3, e4]) ?_
  simp only [Act.put, List.setIfInBounds_toArray, List.set_cons_zero, List.set_cons_succ]
  refine wpList_run rfl (.int .i64 (sgF h h.se)) (by simp [go_sem]) ?_
  simp only [Act.put, List.setIfInBounds_toArray, List.set_cons_zero, List.set_cons_succ]
  go_upto_region 4 with (fail)
  refine wp_region_lit ?_
  refine wpList_run rfl (.int .i64 (x)) (by simp [go_sem]) ?_
  simp only [Act.put, List.setIfInBounds_toArray, List.set_cons_zero, List.set_cons_succ]
  refine wpList_run rfl (.bool false) (by simp [go_sem, hp.out]) ?_
  simp only [Act.put, List.setIfInBounds_toArray, List.set_cons_zero, List.set_cons_succ]
  go_upto_region 6 with (fail)
  refine wp_region_lit ?_
  refine wpList_run rfl (.int .i64 (sgF h h.se)) (by simp [go_sem]) ?_
  simp only [Act.put, List.setIfInBounds_toArray, List.set_cons_zero, List.set_cons_succ]
  refine wpList_run rfl (.int .i64 (sgF h h.se)) (by simp [go_sem]) ?_
  simp only [Act.put, List.setIfInBounds_toArray, List.set_cons_zero, List.set_cons_succ]
  go_wp2
  go_ret
  exact ⟨rfl, hE.out⟩
end Go.Proofs.Ytchieinmpcdhfaa
