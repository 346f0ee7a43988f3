/-
  Steps, the document's.
-/
import Derived.Test.YtchieinmpcdhfaaPl6
import Derived.Test.YtchieinmpcdhfaaPl7
import Derived.Test.YtchieinmpcdhfaaPl8
namespace Go.Proofs.Ytchieinmpcdhfaa
open Go.RowKit Go.BigFrame
set_option linter.unusedVariables false
/-- the root behind so many steps -/
def rS (h : Hd) (ct : BitVec 64) (fr : Int) (tr : Nat → BitVec 8) (k : Nat) : Rt := if (k : Int) < stF h fr then ⟨ct, true, fr + k * h.sg, tr⟩ else ⟨ct, false, 0, tr⟩
theorem stF_q (h : Hd) (fr : Int) (h1 : fr ≤ h.se) (h2 : 1 ≤ h.sg) : ∃ q : Int, stF h fr = q ∧ 1 ≤ q ∧ h.se - fr ≤ q * h.sg ∧ (q - 1) * h.sg ≤ h.se - fr ∧ (1 < q → (q - 1) * h.sg < h.se - fr) := by
  have e1 : (h.se - fr + h.sg - 1).tdiv h.sg = (h.se - fr + h.sg - 1) / h.sg := Int.tdiv_eq_ediv_of_nonneg (by omega)
  have e2 := Int.ediv_mul_le (h.se - fr + h.sg - 1) (b := h.sg) (by omega)
  have e3 := Int.lt_ediv_add_one_mul_self (h.se - fr + h.sg - 1) (b := h.sg) (by omega)
  unfold stF sgF
  rw [e1]
  generalize (h.se - fr + h.sg - 1) / h.sg = q at *
  rw [Int.add_mul] at e3
  split
  · rename_i hq
    refine ⟨1, rfl, by omega, ?_, ?_, fun hh => by omega⟩
    · have : q * h.sg ≤ 0 * h.sg := Int.mul_le_mul_of_nonneg_right (by omega) (by omega)
      omega
    · simp; omega
  · rename_i hq
    refine ⟨q, rfl, by omega, by omega, ?_, fun _ => ?_⟩
    · rw [Int.sub_mul]; omega
    · rw [Int.sub_mul]; omega
theorem rS_on {h : Hd} {ct : BitVec 64} {fr : Int} {tr : Nat → BitVec 8} {k : Nat} (hk : okR h ⟨ct, true, fr, tr⟩) (hlt : (k : Int) < stF h fr) : okR h ⟨ct, true, fr + k * h.sg, tr⟩ ∧ (((k : Int) + 1 < stF h fr → nxT h (fr + k * h.sg) < h.se ∧ nxT h (fr + k * h.sg) = fr + (k + 1 : Nat) * h.sg) ∧ (¬ (k : Int) + 1 < stF h fr → nxT h (fr + k * h.sg) = h.se)) := by
  obtain ⟨b1, b2, b3, b4⟩ := okR_b hk
  simp only at b3 b4
  obtain ⟨q, e, q1, q2, q3, q4⟩ := stF_q h fr b4 b2.1
  rw [e] at hlt ⊢
  have k0 : (0 : Int) ≤ k * h.sg := Int.mul_nonneg (by omega) (by omega)
  have k1 : (k : Int) * h.sg ≤ (q - 1) * h.sg := Int.mul_le_mul_of_nonneg_right (by omega) (by omega)
  have k2 : ((k + 1 : Nat) : Int) * h.sg = k * h.sg + h.sg := by rw [show ((k + 1 : Nat) : Int) = (k : Int) + 1 by omega, Int.add_mul, Int.one_mul]
  refine ⟨⟨hk.1, by simp only; omega, by simp only; omega, .inl rfl⟩, fun hl => ?_, fun hl => ?_⟩
  · have k3 : ((k : Int) + 1) * h.sg ≤ (q - 1) * h.sg := Int.mul_le_mul_of_nonneg_right (by omega) (by omega)
    rw [Int.add_mul] at k3
    have := q4 (by omega)
    unfold nxT
    rw [k2]
    split <;> omega
  · obtain rfl : q = (k : Int) + 1 := by omega
    rw [Int.add_mul] at q2
    unfold nxT
    split <;> omega
theorem rS_lt {h : Hd} {ct : BitVec 64} {fr : Int} {tr : Nat → BitVec 8} {k : Nat} (hlt : (k : Int) < stF h fr) : rS h ct fr tr k = ⟨ct, true, fr + k * h.sg, tr⟩ := if_pos hlt
theorem rS_ge {h : Hd} {ct : BitVec 64} {fr : Int} {tr : Nat → BitVec 8} {k : Nat} (hlt : ¬ (k : Int) < stF h fr) : rS h ct fr tr k = ⟨ct, false, 0, tr⟩ := if_neg hlt
theorem stF_le {h : Hd} {fr : Int} (b1 : (1 ≤ h.se ∧ h.se ≤ 1024) ∧ (1 ≤ h.sg ∧ h.sg ≤ 16) ∧ 0 ≤ fr ∧ fr ≤ h.se) : 1 ≤ stF h fr ∧ stF h fr ≤ 1040 := by
  have := sgF_le b1.2.1.1 (x := h.se - fr) (by omega) b1.2.1.2
  unfold stF
  split <;> omega
set_option maxRecDepth 20000 in
set_option maxHeartbeats 4000000 in
theorem rsteps_idle (h : Hd) (ct : BitVec 64) (fr : Int) (tr : Nat → BitVec 8) (w : World) (hk : okR h ⟨ct, false, fr, tr⟩) : Calls Try.prog 10 #[.agg (row 24 (hdv h)).toArray, .agg (row 35 (rtv ⟨ct, false, fr, tr⟩)).toArray] w fun e w' => e = .returned (.tuple #[.int .i64 0, .int .i64 0]) ∧ Ext w w' := by
  obtain ⟨c, d, w1, hw, hd, hc, H0, H1, hE⟩ := boxes2 w 24 (hdv h) 27 35 (rtv ⟨ct, false, fr, tr⟩) 30
  go_enter Try.func10, Try.ntmps10
  go_upto_region 1 with (fail)
  rw [← hw.out, ← hd.out, ← hc.out]
  clear hw hd hc
  refine wp_region_lit ?_
  refine wpList_run rfl (.agg (row 24 (hdv h)).toArray) (xload 27 (.tmp 2) rfl c 0 24 _ rfl H0.out.range Try.underlying27 rfl infoH) ?_
  simp only [Act.put, List.setIfInBounds_toArray, List.set_cons_zero, List.set_cons_succ]
  refine wpList_run rfl (.agg (row 35 (rtv ⟨ct, false, fr, tr⟩)).toArray) (xload 30 (.tmp 3) rfl d 0 35 _ rfl H1.out.range Try.underlying30 rfl infoR) ?_
  simp only [Act.put, List.setIfInBounds_toArray, List.set_cons_zero, List.set_cons_succ]
  refine wpList_call rfl (by simp [go_sem]) ((rmay_any h ⟨ct, false, fr, tr⟩ w1 true (iff_of_true rfl hk)).mono ?_)
  rintro e y1 ⟨rfl, hX2⟩
  refine ⟨_, rfl, ?_⟩
  simp only [Act.put, List.setIfInBounds_toArray, List.set_cons_zero, List.set_cons_succ]
  replace H0 := hideit (H0.out.carry hX2)
  replace H1 := hideit (H1.out.carry hX2)
  replace hE := hideit (Ext.trans hE.out hX2)
  clear hX2
  refine wpList_run rfl (.bool false) (by simp [go_sem]) ?_
  simp only [Act.put, List.setIfInBounds_toArray, List.set_cons_zero, List.set_cons_succ]
  go_upto_region 3 with (fail)
  refine wp_region_lit ?_
  refine wpList_run rfl (.int .i64 0) (by simp [go_sem]) ?_
  simp only [Act.put, List.setIfInBounds_toArray, List.set_cons_zero, List.set_cons_succ]
  go_wp2
  go_loopw [6] (fun n X => n = .int .i64 0 ∧ RowAt d 35 (rtv ⟨ct, false, fr, tr⟩) X ∧ Ext w X) (fun _ _ => 0)
  case atStart => exact ⟨rfl, H1.out, hE.out⟩
  case round =>
    obtain ⟨rfl, hR, hX⟩ := hrel
    clear H0 H1 hE
    replace hR := hideit hR
    replace hX := hideit hX
    go_upto_region 4 with (fail)
    refine wp_region_lit ?_
    refine wpList_run rfl (.pointer (some ⟨d, 1, none⟩)) (by simp [go_sem]) ?_
    simp only [Act.put, List.setIfInBounds_toArray, List.set_cons_zero, List.set_cons_succ]
    have m3 : wr.cell? ⟨d, 1, none⟩ = some (.bool false) := hR.out.1 1 (by decide)
    refine wpList_run rfl (.bool false) (by simp [go_sem, m3]) ?_
    simp only [Act.put, List.setIfInBounds_toArray, List.set_cons_zero, List.set_cons_succ]
    clear m3
    go_upto_region 7 with (fail)
    refine wp_region_lit ?_
    refine wpList_run rfl (.int .i64 0) (by simp [go_sem]) ?_
    simp only [Act.put, List.setIfInBounds_toArray, List.set_cons_zero, List.set_cons_succ]
    refine wpList_run rfl (.int .i64 0) (by simp [go_sem]) ?_
    simp only [Act.put, List.setIfInBounds_toArray, List.set_cons_zero, List.set_cons_succ]
    refine wpList_run rfl (.int .i64 0) (by simp [go_sem]) ?_
    simp only [Act.put, List.setIfInBounds_toArray, List.set_cons_zero, List.set_cons_succ]
    go_wp2
    refine bodyPost_ret (res2 rfl _ _ _) rfl ?_
    exact ⟨rfl, hX.out⟩
set_option maxRecDepth 20000 in
set_option maxHeartbeats 4000000 in
theorem rsteps_badt (h : Hd) (ct : BitVec 64) (fr : Int) (tr : Nat → BitVec 8) (w : World) (hk : ¬ okR h ⟨ct, true, fr, tr⟩) : Calls Try.prog 10 #[.agg (row 24 (hdv h)).toArray, .agg (row 35 (rtv ⟨ct, true, fr, tr⟩)).toArray] w fun e w' => e = .returned (.tuple #[.int .i64 0, .int .i64 1]) ∧ Ext w w' := by
  obtain ⟨c, d, w1, hw, hd, hc, H0, H1, hE⟩ := boxes2 w 24 (hdv h) 27 35 (rtv ⟨ct, true, fr, tr⟩) 30
  go_enter Try.func10, Try.ntmps10
  go_upto_region 1 with (fail)
  rw [← hw.out, ← hd.out, ← hc.out]
  clear hw hd hc
  refine wp_region_lit ?_
  refine wpList_run rfl (.agg (row 24 (hdv h)).toArray) (xload 27 (.tmp 2) rfl c 0 24 _ rfl H0.out.range Try.underlying27 rfl infoH) ?_
  simp only [Act.put, List.setIfInBounds_toArray, List.set_cons_zero, List.set_cons_succ]
  refine wpList_run rfl (.agg (row 35 (rtv ⟨ct, true, fr, tr⟩)).toArray) (xload 30 (.tmp 3) rfl d 0 35 _ rfl H1.out.range Try.underlying30 rfl infoR) ?_
  simp only [Act.put, List.setIfInBounds_toArray, List.set_cons_zero, List.set_cons_succ]
  refine wpList_call rfl (by simp [go_sem]) ((rmay_any h ⟨ct, true, fr, tr⟩ w1 false (iff_of_false (by decide) hk)).mono ?_)
  rintro e y1 ⟨rfl, hX2⟩
  refine ⟨_, rfl, ?_⟩
  simp only [Act.put, List.setIfInBounds_toArray, List.set_cons_zero, List.set_cons_succ]
  replace H0 := hideit (H0.out.carry hX2)
  replace H1 := hideit (H1.out.carry hX2)
  replace hE := hideit (Ext.trans hE.out hX2)
  clear hX2
  refine wpList_run rfl (.bool true) (by simp [go_sem]) ?_
  simp only [Act.put, List.setIfInBounds_toArray, List.set_cons_zero, List.set_cons_succ]
  go_wp2
  refine bodyPost_ret (res2 rfl _ _ _) rfl ?_
  exact ⟨rfl, hE.out⟩
set_option maxRecDepth 20000 in
set_option maxHeartbeats 4000000 in
theorem rsteps_badf (h : Hd) (ct : BitVec 64) (fr : Int) (tr : Nat → BitVec 8) (w : World) (hk : ¬ okR h ⟨ct, false, fr, tr⟩) : Calls Try.prog 10 #[.agg (row 24 (hdv h)).toArray, .agg (row 35 (rtv ⟨ct, false, fr, tr⟩)).toArray] w fun e w' => e = .returned (.tuple #[.int .i64 0, .int .i64 1]) ∧ Ext w w' := by
  obtain ⟨c, d, w1, hw, hd, hc, H0, H1, hE⟩ := boxes2 w 24 (hdv h) 27 35 (rtv ⟨ct, false, fr, tr⟩) 30
  go_enter Try.func10, Try.ntmps10
  go_upto_region 1 with (fail)
  rw [← hw.out, ← hd.out, ← hc.out]
  clear hw hd hc
  refine wp_region_lit ?_
  refine wpList_run rfl (.agg (row 24 (hdv h)).toArray) (xload 27 (.tmp 2) rfl c 0 24 _ rfl H0.out.range Try.underlying27 rfl infoH) ?_
  simp only [Act.put, List.setIfInBounds_toArray, List.set_cons_zero, List.set_cons_succ]
  refine wpList_run rfl (.agg (row 35 (rtv ⟨ct, false, fr, tr⟩)).toArray) (xload 30 (.tmp 3) rfl d 0 35 _ rfl H1.out.range Try.underlying30 rfl infoR) ?_
  simp only [Act.put, List.setIfInBounds_toArray, List.set_cons_zero, List.set_cons_succ]
  refine wpList_call rfl (by simp [go_sem]) ((rmay_any h ⟨ct, false, fr, tr⟩ w1 false (iff_of_false (by decide) hk)).mono ?_)
  rintro e y1 ⟨rfl, hX2⟩
  refine ⟨_, rfl, ?_⟩
  simp only [Act.put, List.setIfInBounds_toArray, List.set_cons_zero, List.set_cons_succ]
  replace H0 := hideit (H0.out.carry hX2)
  replace H1 := hideit (H1.out.carry hX2)
  replace hE := hideit (Ext.trans hE.out hX2)
  clear hX2
  refine wpList_run rfl (.bool true) (by simp [go_sem]) ?_
  simp only [Act.put, List.setIfInBounds_toArray, List.set_cons_zero, List.set_cons_succ]
  go_wp2
  refine bodyPost_ret (res2 rfl _ _ _) rfl ?_
  exact ⟨rfl, hE.out⟩
set_option maxRecDepth 20000 in
set_option maxHeartbeats 4000000 in
theorem rsteps_go (h : Hd) (ct : BitVec 64) (fr : Int) (tr : Nat → BitVec 8) (w : World) (hk : okR h ⟨ct, true, fr, tr⟩) : Calls Try.prog 10 #[.agg (row 24 (hdv h)).toArray, .agg (row 35 (rtv ⟨ct, true, fr, tr⟩)).toArray] w fun e w' => e = .returned (.tuple #[.int .i64 (stF h fr), .int .i64 0]) ∧ Ext w w' := by
  have hb := hideit (stF_le (okR_b hk))
  obtain ⟨c, d, w1, hw, hd, hc, H0, H1, hE⟩ := boxes2 w 24 (hdv h) 27 35 (rtv ⟨ct, true, fr, tr⟩) 30
  have hne : Hid (c ≠ d ∧ w.heap.size ≤ c ∧ w.heap.size ≤ d) := by
    have e1 := hd.out; have e2 := hc.out; exact ⟨by omega, by omega, by omega⟩
  have hdw : Hid (w.heap.size ≤ d) := hne.out.2.2
  go_enter Try.func10, Try.ntmps10
  go_upto_region 1 with (fail)
  rw [← hw.out, ← hd.out, ← hc.out]
  clear hw hd hc
  refine wp_region_lit ?_
  refine wpList_run rfl (.agg (row 24 (hdv h)).toArray) (xload 27 (.tmp 2) rfl c 0 24 _ rfl H0.out.range Try.underlying27 rfl infoH) ?_
  simp only [Act.put, List.setIfInBounds_toArray, List.set_cons_zero, List.set_cons_succ]
  refine wpList_run rfl (.agg (row 35 (rtv ⟨ct, true, fr, tr⟩)).toArray) (xload 30 (.tmp 3) rfl d 0 35 _ rfl H1.out.range Try.underlying30 rfl infoR) ?_
  simp only [Act.put, List.setIfInBounds_toArray, List.set_cons_zero, List.set_cons_succ]
  refine wpList_call rfl (by simp [go_sem]) ((rmay_any h ⟨ct, true, fr, tr⟩ w1 true (iff_of_true rfl hk)).mono ?_)
  rintro e y1 ⟨rfl, hX2⟩
  refine ⟨_, rfl, ?_⟩
  simp only [Act.put, List.setIfInBounds_toArray, List.set_cons_zero, List.set_cons_succ]
  replace H0 := hideit (H0.out.carry hX2)
  replace H1 := hideit (H1.out.carry hX2)
  replace hE := hideit (Ext.trans hE.out hX2)
  clear hX2
  refine wpList_run rfl (.bool false) (by simp [go_sem]) ?_
  simp only [Act.put, List.setIfInBounds_toArray, List.set_cons_zero, List.set_cons_succ]
  go_upto_region 3 with (fail)
  refine wp_region_lit ?_
  refine wpList_run rfl (.int .i64 0) (by simp [go_sem]) ?_
  simp only [Act.put, List.setIfInBounds_toArray, List.set_cons_zero, List.set_cons_succ]
  have hcd : Hid (c ≠ d) := hne.out.1
  go_wp2
  go_loopw [6] (fun n X => ∃ k : Nat, (k : Int) ≤ stF h fr ∧ n = .int .i64 (k : Int) ∧ RowAt c 24 (hdv h) X ∧ RowAt d 35 (rtv (rS h ct fr tr k)) X ∧ Ext w X) (fun n _ => 1040 - (intOf n).toNat)
  case atStart => exact ⟨0, by have := hb.out.1; omega, rfl, H0.out, by rw [rS_lt (by have := hb.out.1; omega)]; simpa using H1.out, hE.out⟩
  case round =>
    obtain ⟨k, hkN, rfl, hR0, hR1, hX⟩ := hrel
    clear H0 H1 hE
    replace hR0 := hideit hR0
    replace hX := hideit hX
    by_cases hlt : (k : Int) < stF h fr
    · rw [rS_lt hlt] at hR1
      replace hR1 := hideit hR1
      obtain ⟨ho, hon, hend⟩ := rS_on hk hlt
      have ek : IntKind.i64.wrap ((k : Int) + 1) = ((k + 1 : Nat) : Int) := by have := hb.out; rw [IntKind.wrap_i64]; omega
      obtain ⟨x, hx⟩ : ∃ x : Int, x = fr + k * h.sg := ⟨_, rfl⟩
      rw [← hx] at ho hon hend hR1
      replace hx := hideit hx
      replace hlt := hideit hlt
      replace hkN := hideit hkN
      by_cases hl : (k : Int) + 1 < stF h fr
      · have hon2 := hideit (hon hl)
        replace hl := hideit hl
        clear hend
        go_upto_region 4 with (fail)
        refine wp_region_lit ?_
        refine wpList_run rfl (.pointer (some ⟨d, 1, none⟩)) (by simp [go_sem]) ?_
        simp only [Act.put, List.setIfInBounds_toArray, List.set_cons_zero, List.set_cons_succ]
        have m3 : wr.cell? ⟨d, 1, none⟩ = some (.bool true) := hR1.out.1 1 (by decide)
        refine wpList_run rfl (.bool true) (by simp [go_sem, m3]) ?_
        simp only [Act.put, List.setIfInBounds_toArray, List.set_cons_zero, List.set_cons_succ]
        clear m3
        go_upto_region 5 with (fail)
        refine wp_region_lit ?_
        refine wpList_run rfl (.agg (row 24 (hdv h)).toArray) (xload 27 (.tmp 2) rfl c 0 24 _ rfl hR0.out.range Try.underlying27 rfl infoH) ?_
        simp only [Act.put, List.setIfInBounds_toArray, List.set_cons_zero, List.set_cons_succ]
        refine wpList_run rfl (.agg (row 35 (rtv ⟨ct, true, x, tr⟩)).toArray) (xload 30 (.tmp 3) rfl d 0 35 _ rfl hR1.out.range Try.underlying30 rfl infoR) ?_
        simp only [Act.put, List.setIfInBounds_toArray, List.set_cons_zero, List.set_cons_succ]
        refine wpList_call rfl (by simp [go_sem]) ((rafter_on h ct x tr wr ho (by have := hon2.out.1; show ¬ _; omega) hon2.out.1).mono ?_)
        rintro e y4 ⟨rfl, hX5⟩
        refine ⟨_, rfl, ?_⟩
        simp only [Act.put, List.setIfInBounds_toArray, List.set_cons_zero, List.set_cons_succ]
        replace hR0 := hideit (hR0.out.carry hX5)
        replace hR1 := hideit (hR1.out.carry hX5)
        replace hX := hideit (Ext.trans hX.out hX5)
        clear hX5
        refine wpList_run rfl (.tuple #[.agg (row 35 (rtv ⟨ct, true, nxT h x, tr⟩)).toArray, .bool false, .int .i64 0]) (by simp [go_sem]) ?_
        simp only [Act.put, List.setIfInBounds_toArray, List.set_cons_zero, List.set_cons_succ]
        refine wpList_run rfl (.agg (row 35 (rtv ⟨ct, true, nxT h x, tr⟩)).toArray) (by simp [go_sem]) ?_
        simp only [Act.put, List.setIfInBounds_toArray, List.set_cons_zero, List.set_cons_succ]
        refine wpList_run rfl (.bool false) (by simp [go_sem]) ?_
        simp only [Act.put, List.setIfInBounds_toArray, List.set_cons_zero, List.set_cons_succ]
        refine wpList_run rfl (.int .i64 0) (by simp [go_sem]) ?_
        simp only [Act.put, List.setIfInBounds_toArray, List.set_cons_zero, List.set_cons_succ]
        have N0 := hideit (hR1.out.cells (g' := rtv ⟨ct, true, nxT h x, tr⟩))
        have N1 := hideit (hR0.out.cellsOther (Ne.symm (hcd.out)) (row 35 (rtv ⟨ct, true, nxT h x, tr⟩)) 0)
        have NE := hideit (below_setCells d (hdw.out) (row 35 (rtv ⟨ct, true, nxT h x, tr⟩)) 0 _ hX.out)
        refine xst rfl (y4.setCells d 0 (row 35 (rtv ⟨ct, true, nxT h x, tr⟩))) (xstore 30 (.tmp 3) (.tmp 17) rfl d 35 _ (rtv ⟨ct, true, nxT h x, tr⟩) rfl rfl hR1.out infoR (fun j _ => rtv_one _ j)) ?_
        simp only [Act.put]
        generalize y4.setCells d 0 (row 35 (rtv ⟨ct, true, nxT h x, tr⟩)) = x6 at N0 N1 NE ⊢
        replace hR1 := N0
        replace hR0 := N1
        replace hX := NE
        clear N0 N1 NE 
        go_upto_region 6 with (fail)
        refine wp_region_lit ?_
        refine wpList_run rfl (.int .i64 (k : Int)) (by simp [go_sem]) ?_
        simp only [Act.put, List.setIfInBounds_toArray, List.set_cons_zero, List.set_cons_succ]
        refine wpList_run rfl (.int .i64 ((k + 1 : Nat) : Int)) (by simp [go_sem, ek]) ?_
        simp only [Act.put, List.setIfInBounds_toArray, List.set_cons_zero, List.set_cons_succ]
        refine wpList_run rfl (.int .i64 ((k + 1 : Nat) : Int)) (by simp [go_sem]) ?_
        simp only [Act.put, List.setIfInBounds_toArray, List.set_cons_zero, List.set_cons_succ]
        go_wp2
        go_round
        case rel => exact ⟨k + 1, by have := hl.out; omega, rfl, hR0.out, by rw [rS_lt (by have := hl.out; omega), ← hon2.out.2]; exact hR1.out, hX.out⟩
        case measure => have := hb.out; have := hlt.out; simp [intOf]; omega
      · have hend2 := hideit (hend hl)
        replace hl := hideit hl
        clear hon
        go_upto_region 4 with (fail)
        refine wp_region_lit ?_
        refine wpList_run rfl (.pointer (some ⟨d, 1, none⟩)) (by simp [go_sem]) ?_
        simp only [Act.put, List.setIfInBounds_toArray, List.set_cons_zero, List.set_cons_succ]
        have m3 : wr.cell? ⟨d, 1, none⟩ = some (.bool true) := hR1.out.1 1 (by decide)
        refine wpList_run rfl (.bool true) (by simp [go_sem, m3]) ?_
        simp only [Act.put, List.setIfInBounds_toArray, List.set_cons_zero, List.set_cons_succ]
        clear m3
        go_upto_region 5 with (fail)
        refine wp_region_lit ?_
        refine wpList_run rfl (.agg (row 24 (hdv h)).toArray) (xload 27 (.tmp 2) rfl c 0 24 _ rfl hR0.out.range Try.underlying27 rfl infoH) ?_
        simp only [Act.put, List.setIfInBounds_toArray, List.set_cons_zero, List.set_cons_succ]
        refine wpList_run rfl (.agg (row 35 (rtv ⟨ct, true, x, tr⟩)).toArray) (xload 30 (.tmp 3) rfl d 0 35 _ rfl hR1.out.range Try.underlying30 rfl infoR) ?_
        simp only [Act.put, List.setIfInBounds_toArray, List.set_cons_zero, List.set_cons_succ]
        refine wpList_call rfl (by simp [go_sem]) ((rafter_end h ct x tr wr ho hend2.out (by have := hend2.out; show ¬ _; omega)).mono ?_)
        rintro e y4 ⟨rfl, hX5⟩
        refine ⟨_, rfl, ?_⟩
        simp only [Act.put, List.setIfInBounds_toArray, List.set_cons_zero, List.set_cons_succ]
        replace hR0 := hideit (hR0.out.carry hX5)
        replace hR1 := hideit (hR1.out.carry hX5)
        replace hX := hideit (Ext.trans hX.out hX5)
        clear hX5
        refine wpList_run rfl (.tuple #[.agg (row 35 (rtv ⟨ct, false, 0, tr⟩)).toArray, .bool true, .int .i64 0]) (by simp [go_sem]) ?_
        simp only [Act.put, List.setIfInBounds_toArray, List.set_cons_zero, List.set_cons_succ]
        refine wpList_run rfl (.agg (row 35 (rtv ⟨ct, false, 0, tr⟩)).toArray) (by simp [go_sem]) ?_
        simp only [Act.put, List.setIfInBounds_toArray, List.set_cons_zero, List.set_cons_succ]
        refine wpList_run rfl (.bool true) (by simp [go_sem]) ?_
        simp only [Act.put, List.setIfInBounds_toArray, List.set_cons_zero, List.set_cons_succ]
        refine wpList_run rfl (.int .i64 0) (by simp [go_sem]) ?_
        simp only [Act.put, List.setIfInBounds_toArray, List.set_cons_zero, List.set_cons_succ]
        have N0 := hideit (hR1.out.cells (g' := rtv ⟨ct, false, 0, tr⟩))
        have N1 := hideit (hR0.out.cellsOther (Ne.symm (hcd.out)) (row 35 (rtv ⟨ct, false, 0, tr⟩)) 0)
        have NE := hideit (below_setCells d (hdw.out) (row 35 (rtv ⟨ct, false, 0, tr⟩)) 0 _ hX.out)
        refine xst rfl (y4.setCells d 0 (row 35 (rtv ⟨ct, false, 0, tr⟩))) (xstore 30 (.tmp 3) (.tmp 17) rfl d 35 _ (rtv ⟨ct, false, 0, tr⟩) rfl rfl hR1.out infoR (fun j _ => rtv_one _ j)) ?_
        simp only [Act.put]
        generalize y4.setCells d 0 (row 35 (rtv ⟨ct, false, 0, tr⟩)) = x6 at N0 N1 NE ⊢
        replace hR1 := N0
        replace hR0 := N1
        replace hX := NE
        clear N0 N1 NE 
        go_upto_region 6 with (fail)
        refine wp_region_lit ?_
        refine wpList_run rfl (.int .i64 (k : Int)) (by simp [go_sem]) ?_
        simp only [Act.put, List.setIfInBounds_toArray, List.set_cons_zero, List.set_cons_succ]
        refine wpList_run rfl (.int .i64 ((k + 1 : Nat) : Int)) (by simp [go_sem, ek]) ?_
        simp only [Act.put, List.setIfInBounds_toArray, List.set_cons_zero, List.set_cons_succ]
        refine wpList_run rfl (.int .i64 ((k + 1 : Nat) : Int)) (by simp [go_sem]) ?_
        simp only [Act.put, List.setIfInBounds_toArray, List.set_cons_zero, List.set_cons_succ]
        go_wp2
        go_round
        case rel => exact ⟨k + 1, by have := hlt.out; omega, rfl, hR0.out, by rw [rS_ge (by have := hl.out; omega)]; exact hR1.out, hX.out⟩
        case measure => have := hb.out; have := hlt.out; simp [intOf]; omega
    · rw [rS_ge hlt] at hR1
      replace hR1 := hideit hR1
      have hN : Hid (stF h fr = (k : Int)) := hideit (by omega)
      clear hk hlt hkN
      go_upto_region 4 with (fail)
      refine wp_region_lit ?_
      refine wpList_run rfl (.pointer (some ⟨d, 1, none⟩)) (by simp [go_sem]) ?_
      simp only [Act.put, List.setIfInBounds_toArray, List.set_cons_zero, List.set_cons_succ]
      have m3 : wr.cell? ⟨d, 1, none⟩ = some (.bool false) := hR1.out.1 1 (by decide)
      refine wpList_run rfl (.bool false) (by simp [go_sem, m3]) ?_
      simp only [Act.put, List.setIfInBounds_toArray, List.set_cons_zero, List.set_cons_succ]
      clear m3
      go_upto_region 7 with (fail)
      refine wp_region_lit ?_
      refine wpList_run rfl (.int .i64 (k : Int)) (by simp [go_sem]) ?_
      simp only [Act.put, List.setIfInBounds_toArray, List.set_cons_zero, List.set_cons_succ]
      refine wpList_run rfl (.int .i64 (k : Int)) (by simp [go_sem]) ?_
      simp only [Act.put, List.setIfInBounds_toArray, List.set_cons_zero, List.set_cons_succ]
      refine wpList_run rfl (.int .i64 0) (by simp [go_sem]) ?_
      simp only [Act.put, List.setIfInBounds_toArray, List.set_cons_zero, List.set_cons_succ]
      go_wp2
      refine bodyPost_ret (res2 rfl _ _ _) rfl ?_
      exact ⟨by rw [hN.out]; rfl, hX.out⟩
end Go.Proofs.Ytchieinmpcdhfaa
