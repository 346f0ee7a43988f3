/-
  For all bytes the law SlotReads returns true, and its argument reads behind the call as it read before.
-/
import Derived.Test.YtomalmnpojcloaaRows
import Derived.ProofKit
import Derived.OpenShut
import Derived.ShutString
import Derived.ChangeOld
import Derived.Below
import Derived.SizedLaws
import Derived.Test.YtomalmnpojcloaaRk4
import Derived.Test.YtomalmnpojcloaaOpen
namespace Go.Proofs.Ytomalmnpojcloaa.slotReads
open Go.ChangeShapes Go.WideShapes Go.ChangeAt Go.RowKit
set_option linter.unusedVariables false

theorem own : ownKnob Try.prog.godebug = none := by kernel_rfl
theorem laidOut : laidOutB Try.prog = true := by kernel_rfl

open Go.BigFrame
set_option maxRecDepth 20000 in
set_option maxHeartbeats 2000000 in
theorem walk (v : Value) (w : World) (hb0 : BArg v w) : Calls Try.prog 6 #[v] w fun e w' => e = .returned (.bool true) ∧ Below w.heap.size w w' := by
  obtain ⟨l, b, hB, hl⟩ := hb0.bv
  obtain ⟨ov, cv, rfl⟩ := hB.form
  replace hB := hideit hB
  go_enter Try.func6, Try.ntmps6
  go_upto_region 1 with (fail)
  have hEe : Ext w (w.alloc (.cells #[] 5)) := (Below.refl _ _).alloc (Nat.le_refl _) _
  have hOe := hideit (own_empty w w.heap.size 5 (yv b) (Nat.le_refl _))
  have hBe := hideit (hB.out.ext hEe)
  replace hEe := hideit hEe
  refine wp_region_lit ?_
  refine wpList_to rfl (.slice (some ⟨w.heap.size, 0, none⟩) 0 0) (w.alloc (.cells #[] 5)) (by simp [go_sem]) ?_
  simp only [Act.put, List.setIfInBounds_toArray, List.set_cons_zero, List.set_cons_succ]
  refine wpList_run rfl (.slice ov l cv) (by simp [go_sem]) ?_
  simp only [Act.put, List.setIfInBounds_toArray, List.set_cons_zero, List.set_cons_succ]
  refine wpList_growV (n := 0) (base := w.heap.size) elem22 rfl (.tmp 9) (.tmp 10) rfl rfl hOe.out (.slice ov l cv) l b (yv b) rfl hBe.out (fun _ _ => rfl) (fun j hj => by rw [Nat.zero_add]) (by omega) (Below.size hEe.out) ?_
  intro v1 w1 hO1 hg1
  rw [Nat.zero_add] at hO1
  have hE1 := hideit (grownE hEe.out hOe.out (Nat.le_refl _) hg1)
  have B1 := hideit (hB.out.ext hE1.out)
  have O1 := hideit hO1.bv
  obtain ⟨o1, c1, rfl⟩ := hO1.bv.form
  clear hO1 hg1 hEe hOe hBe hB
  simp only [Act.put, List.setIfInBounds_toArray, List.set_cons_zero, List.set_cons_succ]
  by_cases hk : l = 512 ∧ okK b
  · obtain ⟨hl5, hkk⟩ := hk
    subst hl5
    have hk : 512 = 512 ∧ okK b := ⟨rfl, hkk⟩
    refine wpList_call rfl (by simp [go_sem]; exact ⟨rfl, rfl⟩) ?_
    refine (kdec_ok _ b w1 O1.out hk.2).mono ?_
    rintro e w2 ⟨u, rfl, hU, hlu, hX⟩
    refine ⟨_, rfl, ?_⟩
    simp only [Act.put, List.setIfInBounds_toArray, List.set_cons_zero, List.set_cons_succ]
    obtain ⟨ua, uc, rfl⟩ := hU.form
    have U2 := hideit hU
    clear hU hlu
    have B2 := hideit (B1.out.ext hX)
    have hE2 := hideit (Ext.trans hE1.out hX)
    clear hX B1 O1 hE1
    refine wpList_run rfl (.tuple #[.agg (row 33 (kyv (.slice ua (b 4).toNat uc) (shF b (5 + 68 * (b 4).toNat)))).toArray, .int .i64 0]) (by simp [go_sem]) ?_
    simp only [Act.put, List.setIfInBounds_toArray, List.set_cons_zero, List.set_cons_succ]
    refine wpList_run rfl (.agg (row 33 (kyv (.slice ua (b 4).toNat uc) (shF b (5 + 68 * (b 4).toNat)))).toArray) (by simp [go_sem]) ?_
    simp only [Act.put, List.setIfInBounds_toArray, List.set_cons_zero, List.set_cons_succ]
    refine wpList_run rfl (.int .i64 0) (by simp [go_sem]) ?_
    simp only [Act.put, List.setIfInBounds_toArray, List.set_cons_zero, List.set_cons_succ]
    obtain ⟨H1, hA1, H2, hA2⟩ := made37 w2 (.slice ua (b 4).toNat uc) (shF b (5 + 68 * (b 4).toNat))
    obtain ⟨p, hs⟩ : ∃ p, p = w2.heap.size := ⟨_, rfl⟩
    rw [← hs] at H1 H2 hA2
    refine wpList_to rfl (.pointer (some ⟨p, 0, none⟩)) (w2.alloc (.cells zk37 37)) (by rw [hs]; exact alloc37 rfl) ?_
    simp only [Act.put, List.setIfInBounds_toArray, List.set_cons_zero, List.set_cons_succ]
    refine wpList_store_mid rfl 37 (.tmp 3) (.tmp 13) rfl p 0 (row 33 (kyv (.slice ua (b 4).toNat uc) (shF b (5 + 68 * (b 4).toNat)))).toArray rfl rfl (by rw [row_size]; exact H1.there) (by rw [row_size]; exact info37) (row_one (kyv_one _ _ _ _)) ?_
    rw [show (row 33 (kyv (.slice ua (b 4).toNat uc) (shF b (5 + 68 * (b 4).toNat)))).toArray.toList = row 33 (kyv (.slice ua (b 4).toNat uc) (shF b (5 + 68 * (b 4).toNat))) from rfl]
    have P3 := hideit H2
    have B3 := hideit (B2.out.ext hA2)
    have hE3 := hideit (Ext.trans hE2.out hA2)
    have U3 := hideit (U2.out.ext hA2)
    clear U2
    clear B2 hE2
    clear H1 hA1 H2 hA2 hs
    generalize (w2.alloc (.cells zk37 37)).setCells p 0 (row 33 (kyv (.slice ua (b 4).toNat uc) (shF b (5 + 68 * (b 4).toNat)))) = w3 at *
    simp only [Act.put]
    go_upto_region 2 with (fail)
    refine wp_region_lit ?_
    refine wpList_run rfl (.slice ov 512 cv) (by simp [go_sem]) ?_
    simp only [Act.put, List.setIfInBounds_toArray, List.set_cons_zero, List.set_cons_succ]
    refine wpList_call rfl (by simp [go_sem]; exact ⟨rfl, rfl⟩) ?_
    refine (rkdec_ok _ b w3 B3.out hk.2).mono ?_
    rintro e w4 ⟨v, rfl, hV, hX⟩
    refine ⟨_, rfl, ?_⟩
    simp only [Act.put, List.setIfInBounds_toArray, List.set_cons_zero, List.set_cons_succ]
    obtain ⟨va, vc, rfl⟩ := hV.form
    have V4 := hideit hV
    clear hV
    have P4 := hideit (P3.out.carry hX)
    have U4 := hideit (U3.out.ext hX)
    have B4 := hideit (B3.out.ext hX)
    have hE4 := hideit (Ext.trans hE3.out hX)
    clear hX hE3 P3 U3 B3
    refine wpList_run rfl (.tuple #[.agg (row 33 (kyv (.slice va (b 4).toNat vc) (shF b (5 + 68 * (b 4).toNat)))).toArray, .int .i64 0]) (by simp [go_sem]) ?_
    simp only [Act.put, List.setIfInBounds_toArray, List.set_cons_zero, List.set_cons_succ]
    refine wpList_run rfl (.agg (row 33 (kyv (.slice va (b 4).toNat vc) (shF b (5 + 68 * (b 4).toNat)))).toArray) (by simp [go_sem]) ?_
    simp only [Act.put, List.setIfInBounds_toArray, List.set_cons_zero, List.set_cons_succ]
    refine wpList_run rfl (.int .i64 0) (by simp [go_sem]) ?_
    simp only [Act.put, List.setIfInBounds_toArray, List.set_cons_zero, List.set_cons_succ]
    obtain ⟨H1, hA1, H2, hA2⟩ := made37 w4 (.slice va (b 4).toNat vc) (shF b (5 + 68 * (b 4).toNat))
    obtain ⟨q, hs⟩ : ∃ q, q = w4.heap.size := ⟨_, rfl⟩
    rw [← hs] at H1 H2 hA2
    refine wpList_to rfl (.pointer (some ⟨q, 0, none⟩)) (w4.alloc (.cells zk37 37)) (by rw [hs]; exact alloc37 rfl) ?_
    simp only [Act.put, List.setIfInBounds_toArray, List.set_cons_zero, List.set_cons_succ]
    refine wpList_store_mid rfl 37 (.tmp 5) (.tmp 18) rfl q 0 (row 33 (kyv (.slice va (b 4).toNat vc) (shF b (5 + 68 * (b 4).toNat)))).toArray rfl rfl (by rw [row_size]; exact H1.there) (by rw [row_size]; exact info37) (row_one (kyv_one _ _ _ _)) ?_
    rw [show (row 33 (kyv (.slice va (b 4).toNat vc) (shF b (5 + 68 * (b 4).toNat)))).toArray.toList = row 33 (kyv (.slice va (b 4).toNat vc) (shF b (5 + 68 * (b 4).toNat))) from rfl]
    have Q5 := hideit H2
    have P5 := hideit (P4.out.carry hA2)
    have B5 := hideit (B4.out.ext hA2)
    have hE5 := hideit (Ext.trans hE4.out hA2)
    have U5 := hideit (U4.out.ext hA2)
    have V5 := hideit (V4.out.ext hA2)
    clear U4 V4
    clear P4 B4 hE4
    clear H1 hA1 H2 hA2 hs
    generalize (w4.alloc (.cells zk37 37)).setCells q 0 (row 33 (kyv (.slice va (b 4).toNat vc) (shF b (5 + 68 * (b 4).toNat)))) = w5 at *
    simp only [Act.put]
    go_upto_region 3 with (fail)
    refine wp_region_lit ?_
    refine wpList_call rfl (by simp [go_sem]; exact ⟨rfl, rfl⟩) ?_
    refine (lives_any w5).mono ?_
    rintro e w6 ⟨rfl, hX⟩
    refine ⟨_, rfl, ?_⟩
    simp only [Act.put, List.setIfInBounds_toArray, List.set_cons_zero, List.set_cons_succ]
    have P6 := hideit (P5.out.carry hX)
    have Q6 := hideit (Q5.out.carry hX)
    have U6 := hideit (U5.out.ext hX)
    have V6 := hideit (V5.out.ext hX)
    have B6 := hideit (B5.out.ext hX)
    have hE6 := hideit (Ext.trans hE5.out hX)
    clear hX hE5 P5 Q5 U5 V5 B5
    refine wpList_run rfl (.bool false) (by simp [go_sem]) ?_
    simp only [Act.put, List.setIfInBounds_toArray, List.set_cons_zero, List.set_cons_succ]
    refine wpList_run rfl (.bool false) (by simp [go_sem]) ?_
    simp only [Act.put, List.setIfInBounds_toArray, List.set_cons_zero, List.set_cons_succ]
    refine wpList_ungrd rfl ?_
    refine wpList_load_mid rfl 37 (.tmp 3) rfl p 0 rfl (row 33 (kyv (.slice ua (b 4).toNat uc) (shF b (5 + 68 * (b 4).toNat)))) _ P6.out.range Try.underlying37 rfl (by rw [row_length]; exact info37) ?_
    simp only [Act.put, List.setIfInBounds_toArray, List.set_cons_zero, List.set_cons_succ]
    refine wpList_ungrd rfl ?_
    refine wpList_load_mid rfl 37 (.tmp 5) rfl q 0 rfl (row 33 (kyv (.slice va (b 4).toNat vc) (shF b (5 + 68 * (b 4).toNat)))) _ Q6.out.range Try.underlying37 rfl (by rw [row_length]; exact info37) ?_
    simp only [Act.put, List.setIfInBounds_toArray, List.set_cons_zero, List.set_cons_succ]
    refine wpList_callW rfl (by simp [go_sem]; exact ⟨rfl, rfl⟩) ?_
    refine (same_ok _ _ (b 4).toNat (xG (shF b 5)) (fG (shF b 5)) (fG (shF b 5)) _ _ w6 U6.out V6.out (fun _ _ => rfl) (fun _ _ _ _ => rfl) (by have := (b 4).isLt; omega)).mono ?_
    rintro e w7 ⟨rfl, hX⟩
    refine ⟨_, rfl, ?_⟩
    simp only [Act.put, List.setIfInBounds_toArray, List.set_cons_zero, List.set_cons_succ]
    have P7 := hideit (P6.out.carry hX)
    have Q7 := hideit (Q6.out.carry hX)
    have U7 := hideit (U6.out.ext hX)
    have V7 := hideit (V6.out.ext hX)
    have B7 := hideit (B6.out.ext hX)
    have hE7 := hideit (Ext.trans hE6.out hX)
    clear hX hE6 P6 Q6 U6 V6 B6
    refine wpList_runW rfl (.bool false) (by simp [go_sem]) ?_
    simp only [Act.put, List.setIfInBounds_toArray, List.set_cons_zero, List.set_cons_succ]
    refine wpList_run rfl (.bool false) (by simp [go_sem]) ?_
    simp only [Act.put, List.setIfInBounds_toArray, List.set_cons_zero, List.set_cons_succ]
    refine wpList_run rfl (.bool false) (by simp [go_sem]) ?_
    simp only [Act.put, List.setIfInBounds_toArray, List.set_cons_zero, List.set_cons_succ]
    refine wpList_runW rfl (.int .i64 0) (by simp [go_sem]) ?_
    simp only [Act.put, List.setIfInBounds_toArray, List.set_cons_zero, List.set_cons_succ]
    refine wpList_runW rfl (.int .i64 0) (by simp [go_sem]) ?_
    simp only [Act.put, List.setIfInBounds_toArray, List.set_cons_zero, List.set_cons_succ]
    refine wpList_runW rfl (.bool false) (by simp [go_sem]) ?_
    simp only [Act.put, List.setIfInBounds_toArray, List.set_cons_zero, List.set_cons_succ]
    refine wpList_run rfl (.bool false) (by simp [go_sem]) ?_
    simp only [Act.put, List.setIfInBounds_toArray, List.set_cons_zero, List.set_cons_succ]
    go_upto_region 7 with (fail)
    refine wp_region_lit ?_
    refine wpList_load_mid rfl 37 (.tmp 3) rfl p 0 rfl (row 33 (kyv (.slice ua (b 4).toNat uc) (shF b (5 + 68 * (b 4).toNat)))) _ P7.out.range Try.underlying37 rfl (by rw [row_length]; exact info37) ?_
    simp only [Act.put, List.setIfInBounds_toArray, List.set_cons_zero, List.set_cons_succ]
    refine wpList_call rfl (by simp [go_sem]; exact ⟨rfl, rfl⟩) ?_
    refine (keys_ok _ (b 4).toNat (xG (shF b 5)) (fG (shF b 5)) (shF b (5 + 68 * (b 4).toNat)) w7 U7.out (xG_in _ _) hk.2.2.1).mono ?_
    rintro e w8 ⟨x, rfl, hg, hR, hX⟩
    refine ⟨_, rfl, ?_⟩
    simp only [Act.put, List.setIfInBounds_toArray, List.set_cons_zero, List.set_cons_succ]
    have X8 : BV (.slice (some ⟨x, 0, none⟩) 512 512) 512 b w8 := .inr ⟨_, _, rfl, Nat.le_refl _, (hR.congr (g' := yv b) fun j hj => by
      simp only [yv]
      rw [← keB_back b hk.2 j hj]
      rfl).lie 512 (Nat.le_refl _)⟩
    have B8 := B7.out.ext hX
    have hE8 := hideit (Ext.trans hE7.out hX)
    clear hX hg hR P7 Q7 B7 U7 V7 hE7
    go_upto_region 8 with (fail)
    have hc1 := convV _ 512 _ w8 X8
    have hc2 := convV _ 512 _ w8 B8
    obtain ⟨sx, hsx⟩ : ∃ sx, sx = bstr 512 (fun j => ((b j).toNat : Int)) := ⟨_, rfl⟩
    rw [← hsx] at hc1 hc2
    clear hsx X8 B8
    refine wp_region_lit ?_
    refine wpList_run rfl (.int .i64 0) (by simp [go_sem]) ?_
    simp only [Act.put, List.setIfInBounds_toArray, List.set_cons_zero, List.set_cons_succ]
    refine wpList_run rfl (.bool true) (by simp [go_sem]) ?_
    simp only [Act.put, List.setIfInBounds_toArray, List.set_cons_zero, List.set_cons_succ]
    refine wpList_run rfl (.bool true) (by simp [go_sem]) ?_
    simp only [Act.put, List.setIfInBounds_toArray, List.set_cons_zero, List.set_cons_succ]
    refine wpList_runW rfl (.slice (some ⟨x, 0, none⟩) 512 512) (by simp [go_sem]) ?_
    simp only [Act.put, List.setIfInBounds_toArray, List.set_cons_zero, List.set_cons_succ]
    refine wpList_runW rfl (.string sx) (by simp [go_sem, hc1]) ?_
    simp only [Act.put, List.setIfInBounds_toArray, List.set_cons_zero, List.set_cons_succ]
    refine wpList_runW rfl (.slice ov 512 cv) (by simp [go_sem]) ?_
    simp only [Act.put, List.setIfInBounds_toArray, List.set_cons_zero, List.set_cons_succ]
    refine wpList_runW rfl (.string sx) (by simp [go_sem, hc2]) ?_
    simp only [Act.put, List.setIfInBounds_toArray, List.set_cons_zero, List.set_cons_succ]
    refine wpList_runW rfl (.bool true) (by simp [go_sem]) ?_
    simp only [Act.put, List.setIfInBounds_toArray, List.set_cons_zero, List.set_cons_succ]
    refine wpList_run rfl (.bool true) (by simp [go_sem]) ?_
    simp only [Act.put, List.setIfInBounds_toArray, List.set_cons_zero, List.set_cons_succ]
    clear hc1 hc2
    go_wp2
    go_ret
    exact ⟨rfl, hE8.out⟩
  · refine wpList_call rfl (by simp [go_sem]; exact ⟨rfl, rfl⟩) ?_
    refine (kdec_none _ l b w1 O1.out hk).mono ?_
    rintro e w2 ⟨rfl, hX⟩
    refine ⟨_, rfl, ?_⟩
    simp only [Act.put, List.setIfInBounds_toArray, List.set_cons_zero, List.set_cons_succ]
    have B2 := hideit (B1.out.ext hX)
    have hE2 := hideit (Ext.trans hE1.out hX)
    clear hX B1 O1 hE1
    refine wpList_run rfl (.tuple #[.agg (row 33 (kyv (.slice none 0 0) zF)).toArray, .int .i64 110]) (by simp [go_sem]) ?_
    simp only [Act.put, List.setIfInBounds_toArray, List.set_cons_zero, List.set_cons_succ]
    refine wpList_run rfl (.agg (row 33 (kyv (.slice none 0 0) zF)).toArray) (by simp [go_sem]) ?_
    simp only [Act.put, List.setIfInBounds_toArray, List.set_cons_zero, List.set_cons_succ]
    refine wpList_run rfl (.int .i64 110) (by simp [go_sem]) ?_
    simp only [Act.put, List.setIfInBounds_toArray, List.set_cons_zero, List.set_cons_succ]
    obtain ⟨H1, hA1, H2, hA2⟩ := made37 w2 (.slice none 0 0) zF
    obtain ⟨p, hs⟩ : ∃ p, p = w2.heap.size := ⟨_, rfl⟩
    rw [← hs] at H1 H2 hA2
    refine wpList_to rfl (.pointer (some ⟨p, 0, none⟩)) (w2.alloc (.cells zk37 37)) (by rw [hs]; exact alloc37 rfl) ?_
    simp only [Act.put, List.setIfInBounds_toArray, List.set_cons_zero, List.set_cons_succ]
    refine wpList_store_mid rfl 37 (.tmp 3) (.tmp 13) rfl p 0 (row 33 (kyv (.slice none 0 0) zF)).toArray rfl rfl (by rw [row_size]; exact H1.there) (by rw [row_size]; exact info37) (row_one (kyv_one _ _ _ _)) ?_
    rw [show (row 33 (kyv (.slice none 0 0) zF)).toArray.toList = row 33 (kyv (.slice none 0 0) zF) from rfl]
    have P3 := hideit H2
    have B3 := hideit (B2.out.ext hA2)
    have hE3 := hideit (Ext.trans hE2.out hA2)
    clear B2 hE2
    clear H1 hA1 H2 hA2 hs
    generalize (w2.alloc (.cells zk37 37)).setCells p 0 (row 33 (kyv (.slice none 0 0) zF)) = w3 at *
    simp only [Act.put]
    go_upto_region 2 with (fail)
    refine wp_region_lit ?_
    refine wpList_run rfl (.slice ov l cv) (by simp [go_sem]) ?_
    simp only [Act.put, List.setIfInBounds_toArray, List.set_cons_zero, List.set_cons_succ]
    refine wpList_call rfl (by simp [go_sem]; exact ⟨rfl, rfl⟩) ?_
    refine (rkdec_no _ l b w3 B3.out hk).mono ?_
    rintro e w4 ⟨rfl, hX⟩
    refine ⟨_, rfl, ?_⟩
    simp only [Act.put, List.setIfInBounds_toArray, List.set_cons_zero, List.set_cons_succ]
    have P4 := hideit (P3.out.carry hX)
    have B4 := hideit (B3.out.ext hX)
    have hE4 := hideit (Ext.trans hE3.out hX)
    clear hX hE3 P3 B3
    refine wpList_run rfl (.tuple #[.agg (row 33 (kyv (.slice none 0 0) zF)).toArray, .int .i64 110]) (by simp [go_sem]) ?_
    simp only [Act.put, List.setIfInBounds_toArray, List.set_cons_zero, List.set_cons_succ]
    refine wpList_run rfl (.agg (row 33 (kyv (.slice none 0 0) zF)).toArray) (by simp [go_sem]) ?_
    simp only [Act.put, List.setIfInBounds_toArray, List.set_cons_zero, List.set_cons_succ]
    refine wpList_run rfl (.int .i64 110) (by simp [go_sem]) ?_
    simp only [Act.put, List.setIfInBounds_toArray, List.set_cons_zero, List.set_cons_succ]
    obtain ⟨H1, hA1, H2, hA2⟩ := made37 w4 (.slice none 0 0) zF
    obtain ⟨q, hs⟩ : ∃ q, q = w4.heap.size := ⟨_, rfl⟩
    rw [← hs] at H1 H2 hA2
    refine wpList_to rfl (.pointer (some ⟨q, 0, none⟩)) (w4.alloc (.cells zk37 37)) (by rw [hs]; exact alloc37 rfl) ?_
    simp only [Act.put, List.setIfInBounds_toArray, List.set_cons_zero, List.set_cons_succ]
    refine wpList_store_mid rfl 37 (.tmp 5) (.tmp 18) rfl q 0 (row 33 (kyv (.slice none 0 0) zF)).toArray rfl rfl (by rw [row_size]; exact H1.there) (by rw [row_size]; exact info37) (row_one (kyv_one _ _ _ _)) ?_
    rw [show (row 33 (kyv (.slice none 0 0) zF)).toArray.toList = row 33 (kyv (.slice none 0 0) zF) from rfl]
    have Q5 := hideit H2
    have P5 := hideit (P4.out.carry hA2)
    have B5 := hideit (B4.out.ext hA2)
    have hE5 := hideit (Ext.trans hE4.out hA2)
    clear P4 B4 hE4
    clear H1 hA1 H2 hA2 hs
    generalize (w4.alloc (.cells zk37 37)).setCells q 0 (row 33 (kyv (.slice none 0 0) zF)) = w5 at *
    simp only [Act.put]
    go_upto_region 3 with (fail)
    refine wp_region_lit ?_
    refine wpList_call rfl (by simp [go_sem]; exact ⟨rfl, rfl⟩) ?_
    refine (lives_any w5).mono ?_
    rintro e w6 ⟨rfl, hX⟩
    refine ⟨_, rfl, ?_⟩
    simp only [Act.put, List.setIfInBounds_toArray, List.set_cons_zero, List.set_cons_succ]
    have P6 := hideit (P5.out.carry hX)
    have Q6 := hideit (Q5.out.carry hX)
    have B6 := hideit (B5.out.ext hX)
    have hE6 := hideit (Ext.trans hE5.out hX)
    clear hX hE5 P5 Q5 B5
    refine wpList_run rfl (.bool false) (by simp [go_sem]) ?_
    simp only [Act.put, List.setIfInBounds_toArray, List.set_cons_zero, List.set_cons_succ]
    refine wpList_run rfl (.bool false) (by simp [go_sem]) ?_
    simp only [Act.put, List.setIfInBounds_toArray, List.set_cons_zero, List.set_cons_succ]
    refine wpList_ungrd rfl ?_
    refine wpList_load_mid rfl 37 (.tmp 3) rfl p 0 rfl (row 33 (kyv (.slice none 0 0) zF)) _ P6.out.range Try.underlying37 rfl (by rw [row_length]; exact info37) ?_
    simp only [Act.put, List.setIfInBounds_toArray, List.set_cons_zero, List.set_cons_succ]
    refine wpList_ungrd rfl ?_
    refine wpList_load_mid rfl 37 (.tmp 5) rfl q 0 rfl (row 33 (kyv (.slice none 0 0) zF)) _ Q6.out.range Try.underlying37 rfl (by rw [row_length]; exact info37) ?_
    simp only [Act.put, List.setIfInBounds_toArray, List.set_cons_zero, List.set_cons_succ]
    refine wpList_callW rfl (by simp [go_sem]; exact ⟨rfl, rfl⟩) ?_
    refine (same_ok _ _ 0 (fun _ => 0) (fun _ => zF) (fun _ => zF) _ _ w6 (.inl ⟨rfl, rfl⟩) (.inl ⟨rfl, rfl⟩) (fun _ _ => rfl) (fun _ _ _ _ => rfl) (by decide)).mono ?_
    rintro e w7 ⟨rfl, hX⟩
    refine ⟨_, rfl, ?_⟩
    simp only [Act.put, List.setIfInBounds_toArray, List.set_cons_zero, List.set_cons_succ]
    have P7 := hideit (P6.out.carry hX)
    have Q7 := hideit (Q6.out.carry hX)
    have B7 := hideit (B6.out.ext hX)
    have hE7 := hideit (Ext.trans hE6.out hX)
    clear hX hE6 P6 Q6 B6
    refine wpList_runW rfl (.bool false) (by simp [go_sem]) ?_
    simp only [Act.put, List.setIfInBounds_toArray, List.set_cons_zero, List.set_cons_succ]
    refine wpList_run rfl (.bool false) (by simp [go_sem]) ?_
    simp only [Act.put, List.setIfInBounds_toArray, List.set_cons_zero, List.set_cons_succ]
    refine wpList_run rfl (.bool false) (by simp [go_sem]) ?_
    simp only [Act.put, List.setIfInBounds_toArray, List.set_cons_zero, List.set_cons_succ]
    refine wpList_runW rfl (.int .i64 110) (by simp [go_sem]) ?_
    simp only [Act.put, List.setIfInBounds_toArray, List.set_cons_zero, List.set_cons_succ]
    refine wpList_runW rfl (.int .i64 110) (by simp [go_sem]) ?_
    simp only [Act.put, List.setIfInBounds_toArray, List.set_cons_zero, List.set_cons_succ]
    refine wpList_runW rfl (.bool false) (by simp [go_sem]) ?_
    simp only [Act.put, List.setIfInBounds_toArray, List.set_cons_zero, List.set_cons_succ]
    refine wpList_run rfl (.bool false) (by simp [go_sem]) ?_
    simp only [Act.put, List.setIfInBounds_toArray, List.set_cons_zero, List.set_cons_succ]
    clear P7 Q7 B7
    go_wp2
    go_ret
    exact ⟨rfl, hE7.out⟩

set_option maxRecDepth 100000 in
theorem lifted (os : Os) (started : os.Started) (H : Type) (enc : TypeId × Value → H) :
    ReturnsInHanded {} Try.checked os 6 .any (Rows.slotReadsSpec.pre6 enc Try.prog Try.f6 Rows.slotReadsRow.domain false) (Rows.slotReadsSpec.post enc Try.prog Try.f6 false true false false) := by
  refine returnsInHanded_of_change_sized (C := Try.checked) own started (by kernel_rfl) Try.func6
    (ChangeSpec.witness6 (enc := enc) (C := Try.checked) false ⟨#[], #[.slice none 0 0], []⟩ 8 (by kernel_rfl) (by kernel_rfl) (by kernel_rfl) (by kernel_rfl)) ?_
  intro W base args ds gs before hval0 hW hcnd hsz0 _
  have hsz := hsz0
  have hval : ∀ (j : Nat) t v, Try.f6.params[j]? = some t → args[j]? = some v → Value.okWide Try.prog W .any base t v := hval0
  have hW' := hW
  obtain ⟨p, q, hA0, hV, rfl, hfz, hnd⟩ := hW
  have hA : DataW.TrodAll enc Try.prog W 0 (fun _ => true) true Try.f6.params.toList args.toList ds p := hA0
  rw [Try.params6] at hA hval hsz
  obtain ⟨v0, vs0, d0, ds0, p0, q0, hargs, rfl, rfl, h0, r0⟩ := trodAll_cons hA
  obtain ⟨rfl, rfl, rfl⟩ := trodAll_nil r0
  obtain rfl : args = #[v0] := by cases args; simp_all
  obtain ⟨rfl, rfl⟩ := trodVars_none hV
  have k0 := h0
  have lt0 : ∀ x ∈ p0, x.block < W.heap.size := by obtain ⟨m, hm⟩ := k0; exact DataW.trod_lt m _ _ _ hm
  have B0 := barg (hval 0 26 v0 rfl rfl) h0 hsz 0 rfl rfl
  clear hA0 hval0
  refine (walk v0 W  B0).mono fun e W' ⟨he, bel⟩ => ?_
  subst he
  exact ⟨_, rfl, _, _, _, [], _, [], hW', trodAll_mk1 (shut_bool Try.underlying4 _), (trodAll_cons_mk (Below.trod laidOut (by kernel_rfl) (of_decide_eq_true (by kernel_rfl)) k0 bel lt0) trodAll_mk0), rfl, bel.frame _, fun h => by cases h⟩

theorem over : Rows.slotReadsRow.holds Try.pinned (OpenSpec.ofChange Rows.slotReadsSpec) :=
  OpenClaim.holds_of_wide 6 Try.f6 rfl rfl rfl rfl rfl rfl rfl ⟨rfl, rfl, rfl, rfl, rfl⟩ rfl rfl rfl rfl rfl (by kernel_rfl) Try.func6 (by kernel_rfl)
    (of_decide_eq_true (by kernel_rfl)) (by unfold Func.isWrapper; first | (rw [if_pos (by decide +kernel)]; kernel_rfl) | (rw [if_neg (by decide +kernel)]; exact ⟨rfl, rfl⟩))
    (fun os started H enc _ => lifted os started H enc)
end Go.Proofs.Ytomalmnpojcloaa.slotReads
namespace Go.Proofs.Ytomalmnpojcloaa
theorem slotReads_holds : Rows.SlotReadsSaid := slotReads.over
end Go.Proofs.Ytomalmnpojcloaa
