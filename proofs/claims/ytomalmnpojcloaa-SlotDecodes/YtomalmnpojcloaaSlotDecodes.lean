/-
  For all bytes the law SlotDecodes returns true, and its argument reads behind the call as it read before.
-/
import Derived.Test.YtomalmnpojcloaaRows
import Derived.ProofKit
import Derived.OpenShut
import Derived.ShutString
import Derived.ChangeOld
import Derived.Below
import Derived.SizedLaws
import Derived.Test.YtomalmnpojcloaaRs3
import Derived.Test.YtomalmnpojcloaaOpen
namespace Go.Proofs.Ytomalmnpojcloaa.slotDecodes
open Go.ChangeShapes Go.WideShapes Go.ChangeAt Go.RowKit
set_option linter.unusedVariables false

theorem own : ownKnob Try.prog.godebug = none := by kernel_rfl
theorem laidOut : laidOutB Try.prog = true := by kernel_rfl

open Go.BigFrame
set_option maxRecDepth 20000 in
set_option maxHeartbeats 2000000 in
theorem walk (v : Value) (w : World) (hb0 : BArg v w) : Calls Try.prog 4 #[v] w fun e w' => e = .returned (.bool true) ∧ Below w.heap.size w w' := by
  obtain ⟨l, b, hB, hl⟩ := hb0.bv
  obtain ⟨a, f, n, hn, hok, hd, hr⟩ := dec_both l b
  obtain ⟨ov, cv, rfl⟩ := hB.form
  replace hB := hideit hB
  replace hok := hideit hok
  replace hd := hideit hd
  replace hr := hideit hr
  go_enter Try.func4, Try.ntmps4
  go_upto_region 1 with (fail)
  have hEe : Ext w (w.alloc (.cells #[] 5)) := (Below.refl _ _).alloc (Nat.le_refl _) _
  have hOe := hideit (own_empty w w.heap.size 5 (yv b) (Nat.le_refl _))
  have hBe := hideit (hB.out.ext hEe)
  replace hEe := hideit hEe
  refine wp_region_lit ?_
  refine wpList_to rfl (.slice (some ⟨w.heap.size, 0, none⟩) 0 0) (w.alloc (.cells #[] 5)) (by simp [go_sem]) ?_
  simp only [Act.put, List.setIfInBounds_toArray, List.set_cons_zero, List.set_cons_succ]
  refine wpList_run rfl (.slice ov l cv) (by simp [go_sem]) ?_
  simp only [Act.put, List.setIfInBounds_toArray, List.set_cons_zero, List.set_cons_succ]
  refine wpList_growV (n := 0) (base := w.heap.size) elem22 rfl (.tmp 9) (.tmp 10) rfl rfl hOe.out (.slice ov l cv) l b (yv b) rfl hBe.out (fun _ _ => rfl) (fun j hj => by rw [Nat.zero_add]) (by omega) (Below.size hEe.out) ?_
  intro v1 w1 hO1 hg1
  rw [Nat.zero_add] at hO1
  have hE1 := hideit (grownE hEe.out hOe.out (Nat.le_refl _) hg1)
  have B1 := hideit (hB.out.ext hE1.out)
  have O1 := hideit hO1.bv
  obtain ⟨o1, c1, rfl⟩ := hO1.bv.form
  clear hO1 hg1 hEe hOe hBe hB
  simp only [Act.put, List.setIfInBounds_toArray, List.set_cons_zero, List.set_cons_succ]
  refine wpList_call rfl (by simp [go_sem]; exact ⟨rfl, rfl⟩) ?_
  refine (hd.out _ w1 O1.out).mono ?_
  rintro e w2 ⟨rfl, hX⟩
  refine ⟨_, rfl, ?_⟩
  simp only [Act.put, List.setIfInBounds_toArray, List.set_cons_zero, List.set_cons_succ]
  have B2 := hideit (B1.out.ext hX)
  have hE2 := hideit (Ext.trans hE1.out hX)
  clear hX B1 O1 hE1 hd
  refine wpList_run rfl (.tuple #[.agg (row 81 (slv a f)).toArray, .int .i64 n]) (by simp [go_sem]) ?_
  simp only [Act.put, List.setIfInBounds_toArray, List.set_cons_zero, List.set_cons_succ]
  refine wpList_run rfl (.agg (row 81 (slv a f)).toArray) (by simp [go_sem]) ?_
  simp only [Act.put, List.setIfInBounds_toArray, List.set_cons_zero, List.set_cons_succ]
  refine wpList_run rfl (.int .i64 n) (by simp [go_sem]) ?_
  simp only [Act.put, List.setIfInBounds_toArray, List.set_cons_zero, List.set_cons_succ]
  obtain ⟨H1, hA1, H2, hA2⟩ := made25 w2 a f
  obtain ⟨p, hs⟩ : ∃ p, p = w2.heap.size := ⟨_, rfl⟩
  rw [← hs] at H1 H2 hA2
  refine wpList_to rfl (.pointer (some ⟨p, 0, none⟩)) (w2.alloc (.cells zk25 25)) (by rw [hs]; exact alloc25 rfl) ?_
  simp only [Act.put, List.setIfInBounds_toArray, List.set_cons_zero, List.set_cons_succ]
  refine wpList_store_mid rfl 25 (.tmp 3) (.tmp 13) rfl p 0 (row 81 (slv a f)).toArray rfl rfl (by rw [row_size]; exact H1.there) (by rw [row_size]; exact info25) (row_one (slv_one _ _)) ?_
  rw [show (row 81 (slv a f)).toArray.toList = row 81 (slv a f) from rfl]
  have P3 := hideit H2
  have B3 := hideit (B2.out.ext hA2)
  have hE3 := hideit (Ext.trans hE2.out hA2)
  clear B2 hE2
  clear H1 hA1 H2 hA2 hs
  generalize (w2.alloc (.cells zk25 25)).setCells p 0 (row 81 (slv a f)) = w3 at *
  simp only [Act.put]
  go_upto_region 2 with (fail)
  refine wp_region_lit ?_
  refine wpList_run rfl (.slice ov l cv) (by simp [go_sem]) ?_
  simp only [Act.put, List.setIfInBounds_toArray, List.set_cons_zero, List.set_cons_succ]
  refine wpList_call rfl (by simp [go_sem]; exact ⟨rfl, rfl⟩) ?_
  refine (hr.out _ w3 B3.out).mono ?_
  rintro e w4 ⟨rfl, hX⟩
  refine ⟨_, rfl, ?_⟩
  simp only [Act.put, List.setIfInBounds_toArray, List.set_cons_zero, List.set_cons_succ]
  have P4 := hideit (P3.out.carry hX)
  have B4 := hideit (B3.out.ext hX)
  have hE4 := hideit (Ext.trans hE3.out hX)
  clear hX P3 B3 hE3 hr
  refine wpList_run rfl (.tuple #[.agg (row 81 (slv a f)).toArray, .int .i64 n]) (by simp [go_sem]) ?_
  simp only [Act.put, List.setIfInBounds_toArray, List.set_cons_zero, List.set_cons_succ]
  refine wpList_run rfl (.agg (row 81 (slv a f)).toArray) (by simp [go_sem]) ?_
  simp only [Act.put, List.setIfInBounds_toArray, List.set_cons_zero, List.set_cons_succ]
  refine wpList_run rfl (.int .i64 n) (by simp [go_sem]) ?_
  simp only [Act.put, List.setIfInBounds_toArray, List.set_cons_zero, List.set_cons_succ]
  obtain ⟨H1, hA1, H2, hA2⟩ := made25 w4 a f
  obtain ⟨q, hs⟩ : ∃ q, q = w4.heap.size := ⟨_, rfl⟩
  rw [← hs] at H1 H2 hA2
  refine wpList_to rfl (.pointer (some ⟨q, 0, none⟩)) (w4.alloc (.cells zk25 25)) (by rw [hs]; exact alloc25 rfl) ?_
  simp only [Act.put, List.setIfInBounds_toArray, List.set_cons_zero, List.set_cons_succ]
  refine wpList_store_mid rfl 25 (.tmp 5) (.tmp 18) rfl q 0 (row 81 (slv a f)).toArray rfl rfl (by rw [row_size]; exact H1.there) (by rw [row_size]; exact info25) (row_one (slv_one _ _)) ?_
  rw [show (row 81 (slv a f)).toArray.toList = row 81 (slv a f) from rfl]
  have Q5 := hideit H2
  have P5 := hideit (P4.out.carry hA2)
  have B5 := hideit (B4.out.ext hA2)
  have hE5 := hideit (Ext.trans hE4.out hA2)
  clear P4 B4 hE4
  clear H1 hA1 H2 hA2 hs
  generalize (w4.alloc (.cells zk25 25)).setCells q 0 (row 81 (slv a f)) = w5 at *
  simp only [Act.put]
  go_upto_region 3 with (fail)
  refine wp_region_lit ?_
  refine wpList_call rfl (by simp [go_sem]; exact ⟨rfl, rfl⟩) ?_
  refine (lives_any w5).mono ?_
  rintro e w6 ⟨rfl, hX⟩
  refine ⟨_, rfl, ?_⟩
  simp only [Act.put, List.setIfInBounds_toArray, List.set_cons_zero, List.set_cons_succ]
  have P6 := hideit (P5.out.carry hX)
  have Q6 := hideit (Q5.out.carry hX)
  have B6 := hideit (B5.out.ext hX)
  have hE6 := hideit (Ext.trans hE5.out hX)
  clear hX P5 Q5 B5 hE5
  have hq25 := neq25 a a f f w6
  rw [eqN_refl, beq_self_eq_true, Bool.and_true, Bool.not_true] at hq25
  refine wpList_run rfl (.bool false) (by simp [go_sem]) ?_
  simp only [Act.put, List.setIfInBounds_toArray, List.set_cons_zero, List.set_cons_succ]
  refine wpList_run rfl (.bool false) (by simp [go_sem]) ?_
  simp only [Act.put, List.setIfInBounds_toArray, List.set_cons_zero, List.set_cons_succ]
  refine wpList_ungrd rfl ?_
  refine wpList_load_mid rfl 25 (.tmp 3) rfl p 0 rfl (row 81 (slv a f)) _ P6.out.range Try.underlying25 rfl (by rw [row_length]; exact info25) ?_
  simp only [Act.put, List.setIfInBounds_toArray, List.set_cons_zero, List.set_cons_succ]
  refine wpList_ungrd rfl ?_
  refine wpList_load_mid rfl 25 (.tmp 5) rfl q 0 rfl (row 81 (slv a f)) _ Q6.out.range Try.underlying25 rfl (by rw [row_length]; exact info25) ?_
  simp only [Act.put, List.setIfInBounds_toArray, List.set_cons_zero, List.set_cons_succ]
  refine wpList_cmp rfl .neq 25 25 (.tmp 23) (.tmp 24) rfl _ _ rfl rfl (by kernel_rfl) false hq25 ?_
  simp only [Act.put, List.setIfInBounds_toArray, List.set_cons_zero, List.set_cons_succ]
  refine wpList_run rfl (.bool false) (by simp [go_sem]) ?_
  simp only [Act.put, List.setIfInBounds_toArray, List.set_cons_zero, List.set_cons_succ]
  refine wpList_run rfl (.bool false) (by simp [go_sem]) ?_
  simp only [Act.put, List.setIfInBounds_toArray, List.set_cons_zero, List.set_cons_succ]
  refine wpList_runW rfl (.int .i64 n) (by simp [go_sem]) ?_
  simp only [Act.put, List.setIfInBounds_toArray, List.set_cons_zero, List.set_cons_succ]
  refine wpList_runW rfl (.int .i64 n) (by simp [go_sem]) ?_
  simp only [Act.put, List.setIfInBounds_toArray, List.set_cons_zero, List.set_cons_succ]
  refine wpList_runW rfl (.bool false) (by simp [go_sem]) ?_
  simp only [Act.put, List.setIfInBounds_toArray, List.set_cons_zero, List.set_cons_succ]
  refine wpList_run rfl (.bool false) (by simp [go_sem]) ?_
  simp only [Act.put, List.setIfInBounds_toArray, List.set_cons_zero, List.set_cons_succ]
  clear hq25 Q6
  rcases hn with rfl | rfl
  · obtain ⟨hl5, ha, hbb⟩ := hok.out rfl
    subst hl5
    replace hbb := hideit hbb
    clear hok
    go_upto_region 7 with (fail)
    refine wp_region_lit ?_
    refine wpList_load_mid rfl 25 (.tmp 3) rfl p 0 rfl (row 81 (slv a f)) _ P6.out.range Try.underlying25 rfl (by rw [row_length]; exact info25) ?_
    simp only [Act.put, List.setIfInBounds_toArray, List.set_cons_zero, List.set_cons_succ]
    refine wpList_call rfl (by simp [go_sem]; exact ⟨rfl, rfl⟩) ?_
    refine (enc_ok a f ha w6).mono ?_
    rintro e w7 ⟨x, rfl, hg, hR, hX⟩
    refine ⟨_, rfl, ?_⟩
    simp only [Act.put, List.setIfInBounds_toArray, List.set_cons_zero, List.set_cons_succ]
    have X7 : BV (.slice (some ⟨x, 0, none⟩) 512 512) 512 b w7 := .inr ⟨_, _, rfl, Nat.le_refl _, (hR.congr (g' := yv b) fun j hj => by simp only [yv]; rw [hbb.out j hj]).lie 512 (Nat.le_refl _)⟩
    have B7 := B6.out.ext hX
    have hE7 := hideit (Ext.trans hE6.out hX)
    clear hX hg hR P6 B6 hE6
    go_upto_region 8 with (fail)
    have hc1 := convV _ 512 _ w7 X7
    have hc2 := convV _ 512 _ w7 B7
    obtain ⟨sx, hsx⟩ : ∃ sx, sx = bstr 512 (fun j => ((b j).toNat : Int)) := ⟨_, rfl⟩
    rw [← hsx] at hc1 hc2
    clear hsx X7 B7
    refine wp_region_lit ?_
    refine wpList_run rfl (.int .i64 0) (by simp [go_sem]) ?_
    simp only [Act.put, List.setIfInBounds_toArray, List.set_cons_zero, List.set_cons_succ]
    refine wpList_run rfl (.bool true) (by simp [go_sem]) ?_
    simp only [Act.put, List.setIfInBounds_toArray, List.set_cons_zero, List.set_cons_succ]
    refine wpList_run rfl (.bool true) (by simp [go_sem]) ?_
    simp only [Act.put, List.setIfInBounds_toArray, List.set_cons_zero, List.set_cons_succ]
    refine wpList_runW rfl (.slice (some ⟨x, 0, none⟩) 512 512) (by simp [go_sem]) ?_
    simp only [Act.put, List.setIfInBounds_toArray, List.set_cons_zero, List.set_cons_succ]
    refine wpList_runW rfl (.string sx) (by simp [go_sem, hc1]) ?_
    simp only [Act.put, List.setIfInBounds_toArray, List.set_cons_zero, List.set_cons_succ]
    refine wpList_runW rfl (.slice ov 512 cv) (by simp [go_sem]) ?_
    simp only [Act.put, List.setIfInBounds_toArray, List.set_cons_zero, List.set_cons_succ]
    refine wpList_runW rfl (.string sx) (by simp [go_sem, hc2]) ?_
    simp only [Act.put, List.setIfInBounds_toArray, List.set_cons_zero, List.set_cons_succ]
    refine wpList_runW rfl (.bool true) (by simp [go_sem]) ?_
    simp only [Act.put, List.setIfInBounds_toArray, List.set_cons_zero, List.set_cons_succ]
    refine wpList_run rfl (.bool true) (by simp [go_sem]) ?_
    simp only [Act.put, List.setIfInBounds_toArray, List.set_cons_zero, List.set_cons_succ]
    clear hc1 hc2
    go_wp2
    go_ret
    exact ⟨rfl, hE7.out⟩
  · clear hok P6 B6
    go_wp2
    go_ret
    exact ⟨rfl, hE6.out⟩

set_option maxRecDepth 100000 in
theorem lifted (os : Os) (started : os.Started) (H : Type) (enc : TypeId × Value → H) :
    ReturnsInHanded {} Try.checked os 4 .any (Rows.slotDecodesSpec.pre6 enc Try.prog Try.f4 Rows.slotDecodesRow.domain false) (Rows.slotDecodesSpec.post enc Try.prog Try.f4 false true false false) := by
  refine returnsInHanded_of_change_sized (C := Try.checked) own started (by kernel_rfl) Try.func4
    (ChangeSpec.witness6 (enc := enc) (C := Try.checked) false ⟨#[], #[.slice none 0 0], []⟩ 8 (by kernel_rfl) (by kernel_rfl) (by kernel_rfl) (by kernel_rfl)) ?_
  intro W base args ds gs before hval0 hW hcnd hsz0 _
  have hsz := hsz0
  have hval : ∀ (j : Nat) t v, Try.f4.params[j]? = some t → args[j]? = some v → Value.okWide Try.prog W .any base t v := hval0
  have hW' := hW
  obtain ⟨p, q, hA0, hV, rfl, hfz, hnd⟩ := hW
  have hA : DataW.TrodAll enc Try.prog W 0 (fun _ => true) true Try.f4.params.toList args.toList ds p := hA0
  rw [Try.params4] at hA hval hsz
  obtain ⟨v0, vs0, d0, ds0, p0, q0, hargs, rfl, rfl, h0, r0⟩ := trodAll_cons hA
  obtain ⟨rfl, rfl, rfl⟩ := trodAll_nil r0
  obtain rfl : args = #[v0] := by cases args; simp_all
  obtain ⟨rfl, rfl⟩ := trodVars_none hV
  have k0 := h0
  have lt0 : ∀ x ∈ p0, x.block < W.heap.size := by obtain ⟨m, hm⟩ := k0; exact DataW.trod_lt m _ _ _ hm
  have B0 := barg (hval 0 26 v0 rfl rfl) h0 hsz 0 rfl rfl
  clear hA0 hval0
  refine (walk v0 W  B0).mono fun e W' ⟨he, bel⟩ => ?_
  subst he
  exact ⟨_, rfl, _, _, _, [], _, [], hW', trodAll_mk1 (shut_bool Try.underlying4 _), (trodAll_cons_mk (Below.trod laidOut (by kernel_rfl) (of_decide_eq_true (by kernel_rfl)) k0 bel lt0) trodAll_mk0), rfl, bel.frame _, fun h => by cases h⟩

theorem over : Rows.slotDecodesRow.holds Try.pinned (OpenSpec.ofChange Rows.slotDecodesSpec) :=
  OpenClaim.holds_of_wide 4 Try.f4 rfl rfl rfl rfl rfl rfl rfl ⟨rfl, rfl, rfl, rfl, rfl⟩ rfl rfl rfl rfl rfl (by kernel_rfl) Try.func4 (by kernel_rfl)
    (of_decide_eq_true (by kernel_rfl)) (by unfold Func.isWrapper; first | (rw [if_pos (by decide +kernel)]; kernel_rfl) | (rw [if_neg (by decide +kernel)]; exact ⟨rfl, rfl⟩))
    (fun os started H enc _ => lifted os started H enc)
end Go.Proofs.Ytomalmnpojcloaa.slotDecodes
namespace Go.Proofs.Ytomalmnpojcloaa
theorem slotDecodes_holds : Rows.SlotDecodesSaid := slotDecodes.over
end Go.Proofs.Ytomalmnpojcloaa
