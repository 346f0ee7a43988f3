/-
  For any slot the law SlotEncodes returns true, and its argument reads behind the call as it read before.
-/
import Derived.Test.YtomalmnpojcloaaRows
import Derived.ProofKit
import Derived.OpenShut
import Derived.ShutString
import Derived.ChangeOld
import Derived.Below
import Derived.SizedLaws
import Derived.Test.YtomalmnpojcloaaRs2
import Derived.Test.YtomalmnpojcloaaSOpen
namespace Go.Proofs.Ytomalmnpojcloaa.slotEncodes
open Go.ChangeShapes Go.WideShapes Go.ChangeAt Go.RowKit
set_option linter.unusedVariables false

theorem own : ownKnob Try.prog.godebug = none := by kernel_rfl
theorem laidOut : laidOutB Try.prog = true := by kernel_rfl

open Go.BigFrame
set_option maxRecDepth 20000 in
set_option maxHeartbeats 2000000 in
theorem walk (a : Bool) (f : Nat → BitVec 8) (w : World) : Calls Try.prog 3 #[.agg (row 81 (slv a f)).toArray] w fun e w' => e = .returned (.bool true) ∧ Below w.heap.size w w' := by
  have A1 : Hid (RowAt w.heap.size 81 (slv a f) (w.alloc (.cells (row 81 (slv a f)).toArray 25))) := RowAt.new w 81 _ 25
  have hE1 : Hid (Ext w (w.alloc (.cells (row 81 (slv a f)).toArray 25))) := (Below.refl _ _).alloc (Nat.le_refl _) _
  go_enter Try.func3, Try.ntmps3
  go_upto_region 1 with (fail)
  generalize w.alloc (.cells (row 81 (slv a f)).toArray 25) = w1 at *
  obtain ⟨p, hp⟩ : ∃ p, p = w.heap.size := ⟨_, rfl⟩
  rw [← hp] at A1 ⊢
  clear hp
  refine wp_region_lit ?_
  refine wpList_load_mid rfl 25 (.tmp 1) rfl p 0 rfl (row 81 (slv a f)) _ A1.out.range Try.underlying25 rfl (by rw [row_length]; exact info25) ?_
  simp only [Act.put, List.setIfInBounds_toArray, List.set_cons_zero, List.set_cons_succ]
  by_cases ha : okSl a f
  · refine wpList_call rfl (by simp [go_sem]; exact ⟨rfl, rfl⟩) ?_
    refine (enc_ok a f ha w1).mono ?_
    rintro e w2 ⟨x, rfl, hg, hR, hX⟩
    refine ⟨_, rfl, ?_⟩
    simp only [Act.put, List.setIfInBounds_toArray, List.set_cons_zero, List.set_cons_succ]
    have X2 : Hid (BV (.slice (some ⟨x, 0, none⟩) 512 512) 512 (slB a f) w2) := hideit (.inr ⟨_, _, rfl, Nat.le_refl _, hR.lie 512 (Nat.le_refl _)⟩)
    clear hg hR
    have A2 := hideit (A1.out.carry hX)
    have hE2 := hideit (Ext.trans hE1.out hX)
    clear hX A1 hE1
    go_upto_region 2 with (fail)
    refine wp_region_lit ?_
    refine wpList_load_mid rfl 25 (.tmp 1) rfl p 0 rfl (row 81 (slv a f)) _ A2.out.range Try.underlying25 rfl (by rw [row_length]; exact info25) ?_
    simp only [Act.put, List.setIfInBounds_toArray, List.set_cons_zero, List.set_cons_succ]
    refine wpList_call rfl (by simp [go_sem]; exact ⟨rfl, rfl⟩) ?_
    refine (renc_ok a f ha w2).mono ?_
    rintro e w3 ⟨y, rfl, hY, hX⟩
    refine ⟨_, rfl, ?_⟩
    simp only [Act.put, List.setIfInBounds_toArray, List.set_cons_zero, List.set_cons_succ]
    have Y3 := hideit hY
    obtain ⟨ya, yc, rfl⟩ := hY.form
    clear hY
    have A3 := hideit (A2.out.carry hX)
    have X3 := hideit (X2.out.ext hX)
    have hE3 := hideit (Ext.trans hE2.out hX)
    clear hX A2 X2 hE2
    go_upto_region 3 with (fail)
    refine wp_region_lit ?_
    refine wpList_call rfl (by simp [go_sem]; exact ⟨rfl, rfl⟩) ?_
    refine (lives_any w3).mono ?_
    rintro e w4 ⟨rfl, hX⟩
    refine ⟨_, rfl, ?_⟩
    simp only [Act.put, List.setIfInBounds_toArray, List.set_cons_zero, List.set_cons_succ]
    have A4 := hideit (A3.out.carry hX)
    have X4 := hideit (X3.out.ext hX)
    have Y4 := hideit (Y3.out.ext hX)
    have hE4 := hideit (Ext.trans hE3.out hX)
    clear hX A3 X3 Y3 hE3
    have hc1 := convV _ 512 _ w4 X4.out
    have hc2 := convV _ 512 _ w4 Y4.out
    obtain ⟨sx, hsx⟩ : ∃ sx, sx = bstr 512 (fun j => ((slB a f j).toNat : Int)) := ⟨_, rfl⟩
    rw [← hsx] at hc1 hc2
    clear hsx
    refine wpList_run rfl (.bool false) (by simp [go_sem]) ?_
    simp only [Act.put, List.setIfInBounds_toArray, List.set_cons_zero, List.set_cons_succ]
    refine wpList_run rfl (.bool false) (by simp [go_sem]) ?_
    simp only [Act.put, List.setIfInBounds_toArray, List.set_cons_zero, List.set_cons_succ]
    refine wpList_runW rfl (.slice (some ⟨x, 0, none⟩) 512 512) (by simp [go_sem]) ?_
    simp only [Act.put, List.setIfInBounds_toArray, List.set_cons_zero, List.set_cons_succ]
    refine wpList_runW rfl (.string sx) (by simp [go_sem, hc1]) ?_
    simp only [Act.put, List.setIfInBounds_toArray, List.set_cons_zero, List.set_cons_succ]
    refine wpList_runW rfl (.slice ya 512 yc) (by simp [go_sem]) ?_
    simp only [Act.put, List.setIfInBounds_toArray, List.set_cons_zero, List.set_cons_succ]
    refine wpList_runW rfl (.string sx) (by simp [go_sem, hc2]) ?_
    simp only [Act.put, List.setIfInBounds_toArray, List.set_cons_zero, List.set_cons_succ]
    refine wpList_runW rfl (.bool false) (by simp [go_sem]) ?_
    simp only [Act.put, List.setIfInBounds_toArray, List.set_cons_zero, List.set_cons_succ]
    refine wpList_run rfl (.bool false) (by simp [go_sem]) ?_
    simp only [Act.put, List.setIfInBounds_toArray, List.set_cons_zero, List.set_cons_succ]
    refine wpList_run rfl (.bool false) (by simp [go_sem]) ?_
    simp only [Act.put, List.setIfInBounds_toArray, List.set_cons_zero, List.set_cons_succ]
    refine wpList_runW rfl (.int .i64 0) (by simp [go_sem]) ?_
    simp only [Act.put, List.setIfInBounds_toArray, List.set_cons_zero, List.set_cons_succ]
    refine wpList_runW rfl (.int .i64 0) (by simp [go_sem]) ?_
    simp only [Act.put, List.setIfInBounds_toArray, List.set_cons_zero, List.set_cons_succ]
    refine wpList_runW rfl (.bool false) (by simp [go_sem]) ?_
    simp only [Act.put, List.setIfInBounds_toArray, List.set_cons_zero, List.set_cons_succ]
    refine wpList_run rfl (.bool false) (by simp [go_sem]) ?_
    simp only [Act.put, List.setIfInBounds_toArray, List.set_cons_zero, List.set_cons_succ]
    clear hc1 hc2
    go_upto_region 7 with (fail)
    refine wp_region_lit ?_
    refine wpList_run rfl (.slice (some ⟨x, 0, none⟩) 512 512) (by simp [go_sem]) ?_
    simp only [Act.put, List.setIfInBounds_toArray, List.set_cons_zero, List.set_cons_succ]
    refine wpList_call rfl (by simp [go_sem]; exact ⟨rfl, rfl⟩) ?_
    refine (dec_enc _ a f ha w4 X4.out).mono ?_
    rintro e w5 ⟨rfl, hX⟩
    refine ⟨_, rfl, ?_⟩
    simp only [Act.put, List.setIfInBounds_toArray, List.set_cons_zero, List.set_cons_succ]
    have A5 := hideit (A4.out.carry hX)
    have hE5 := hideit (Ext.trans hE4.out hX)
    clear hX A4 X4 Y4 hE4
    refine wpList_run rfl (.tuple #[.agg (row 81 (slv a f)).toArray, .int .i64 0]) (by simp [go_sem]) ?_
    simp only [Act.put, List.setIfInBounds_toArray, List.set_cons_zero, List.set_cons_succ]
    refine wpList_run rfl (.agg (row 81 (slv a f)).toArray) (by simp [go_sem]) ?_
    simp only [Act.put, List.setIfInBounds_toArray, List.set_cons_zero, List.set_cons_succ]
    refine wpList_run rfl (.int .i64 0) (by simp [go_sem]) ?_
    simp only [Act.put, List.setIfInBounds_toArray, List.set_cons_zero, List.set_cons_succ]
    obtain ⟨H1, hA1, H2, hA2⟩ := made25 w5 a f
    obtain ⟨s, hs⟩ : ∃ s, s = w5.heap.size := ⟨_, rfl⟩
    rw [← hs] at H1 H2 hA2
    refine wpList_to rfl (.pointer (some ⟨s, 0, none⟩)) (w5.alloc (.cells zk25 25)) (by rw [hs]; exact alloc25 rfl) ?_
    simp only [Act.put, List.setIfInBounds_toArray, List.set_cons_zero, List.set_cons_succ]
    refine wpList_store_mid rfl 25 (.tmp 7) (.tmp 37) rfl s 0 (row 81 (slv a f)).toArray rfl rfl (by rw [row_size]; exact H1.there) (by rw [row_size]; exact info25) (row_one (slv_one _ _)) ?_
    rw [show (row 81 (slv a f)).toArray.toList = row 81 (slv a f) from rfl]
    have A6 := hideit (A5.out.carry hA2)
    have S6 := hideit H2
    have hE6 := hideit (Ext.trans hE5.out hA2)
    clear A5 hE5
    clear H1 hA1 H2 hA2 hs
    generalize (w5.alloc (.cells zk25 25)).setCells s 0 (row 81 (slv a f)) = w6 at *
    simp only [Act.put]
    go_upto_region 8 with (fail)
    have hq25 := eql25 a a f f w6
    rw [eqN_refl, beq_self_eq_true, Bool.and_true] at hq25
    refine wp_region_lit ?_
    refine wpList_run rfl (.int .i64 0) (by simp [go_sem]) ?_
    simp only [Act.put, List.setIfInBounds_toArray, List.set_cons_zero, List.set_cons_succ]
    refine wpList_run rfl (.bool true) (by simp [go_sem]) ?_
    simp only [Act.put, List.setIfInBounds_toArray, List.set_cons_zero, List.set_cons_succ]
    refine wpList_run rfl (.bool true) (by simp [go_sem]) ?_
    simp only [Act.put, List.setIfInBounds_toArray, List.set_cons_zero, List.set_cons_succ]
    refine wpList_ungrd rfl ?_
    refine wpList_load_mid rfl 25 (.tmp 7) rfl s 0 rfl (row 81 (slv a f)) _ S6.out.range Try.underlying25 rfl (by rw [row_length]; exact info25) ?_
    simp only [Act.put, List.setIfInBounds_toArray, List.set_cons_zero, List.set_cons_succ]
    refine wpList_ungrd rfl ?_
    refine wpList_load_mid rfl 25 (.tmp 1) rfl p 0 rfl (row 81 (slv a f)) _ A6.out.range Try.underlying25 rfl (by rw [row_length]; exact info25) ?_
    simp only [Act.put, List.setIfInBounds_toArray, List.set_cons_zero, List.set_cons_succ]
    refine wpList_cmp rfl .eql 25 25 (.tmp 42) (.tmp 43) rfl _ _ rfl rfl (by kernel_rfl) true hq25 ?_
    simp only [Act.put, List.setIfInBounds_toArray, List.set_cons_zero, List.set_cons_succ]
    refine wpList_run rfl (.bool true) (by simp [go_sem]) ?_
    simp only [Act.put, List.setIfInBounds_toArray, List.set_cons_zero, List.set_cons_succ]
    clear hq25 A6 S6
    go_wp2
    go_ret
    exact ⟨rfl, hE6.out⟩
  · refine wpList_call rfl (by simp [go_sem]; exact ⟨rfl, rfl⟩) ?_
    refine (enc_no a f ha w1).mono ?_
    rintro e w2 ⟨rfl, hX⟩
    refine ⟨_, rfl, ?_⟩
    simp only [Act.put, List.setIfInBounds_toArray, List.set_cons_zero, List.set_cons_succ]
    have X2 : Hid (BV (.slice none 0 0) 0 (slB a f) w2) := hideit (.inl ⟨rfl, rfl⟩)
    have A2 := hideit (A1.out.carry hX)
    have hE2 := hideit (Ext.trans hE1.out hX)
    clear hX A1 hE1
    go_upto_region 2 with (fail)
    refine wp_region_lit ?_
    refine wpList_load_mid rfl 25 (.tmp 1) rfl p 0 rfl (row 81 (slv a f)) _ A2.out.range Try.underlying25 rfl (by rw [row_length]; exact info25) ?_
    simp only [Act.put, List.setIfInBounds_toArray, List.set_cons_zero, List.set_cons_succ]
    refine wpList_call rfl (by simp [go_sem]; exact ⟨rfl, rfl⟩) ?_
    refine (renc_no a f ha w2).mono ?_
    rintro e w3 ⟨rfl, hX⟩
    refine ⟨_, rfl, ?_⟩
    simp only [Act.put, List.setIfInBounds_toArray, List.set_cons_zero, List.set_cons_succ]
    have Y3 : Hid (BV (.slice none 0 0) 0 (slB a f) w3) := hideit (.inl ⟨rfl, rfl⟩)
    have A3 := hideit (A2.out.carry hX)
    have X3 := hideit (X2.out.ext hX)
    have hE3 := hideit (Ext.trans hE2.out hX)
    clear hX A2 X2 hE2
    go_upto_region 3 with (fail)
    refine wp_region_lit ?_
    refine wpList_call rfl (by simp [go_sem]; exact ⟨rfl, rfl⟩) ?_
    refine (lives_any w3).mono ?_
    rintro e w4 ⟨rfl, hX⟩
    refine ⟨_, rfl, ?_⟩
    simp only [Act.put, List.setIfInBounds_toArray, List.set_cons_zero, List.set_cons_succ]
    have A4 := hideit (A3.out.carry hX)
    have X4 := hideit (X3.out.ext hX)
    have Y4 := hideit (Y3.out.ext hX)
    have hE4 := hideit (Ext.trans hE3.out hX)
    clear hX A3 X3 Y3 hE3
    have hc1 := convV _ 0 _ w4 X4.out
    have hc2 := convV _ 0 _ w4 Y4.out
    obtain ⟨sx, hsx⟩ : ∃ sx, sx = bstr 0 (fun j => ((slB a f j).toNat : Int)) := ⟨_, rfl⟩
    rw [← hsx] at hc1 hc2
    clear hsx
    refine wpList_run rfl (.bool false) (by simp [go_sem]) ?_
    simp only [Act.put, List.setIfInBounds_toArray, List.set_cons_zero, List.set_cons_succ]
    refine wpList_run rfl (.bool false) (by simp [go_sem]) ?_
    simp only [Act.put, List.setIfInBounds_toArray, List.set_cons_zero, List.set_cons_succ]
    refine wpList_runW rfl (.slice none 0 0) (by simp [go_sem]) ?_
    simp only [Act.put, List.setIfInBounds_toArray, List.set_cons_zero, List.set_cons_succ]
    refine wpList_runW rfl (.string sx) (by simp [go_sem, hc1]) ?_
    simp only [Act.put, List.setIfInBounds_toArray, List.set_cons_zero, List.set_cons_succ]
    refine wpList_runW rfl (.slice none 0 0) (by simp [go_sem]) ?_
    simp only [Act.put, List.setIfInBounds_toArray, List.set_cons_zero, List.set_cons_succ]
    refine wpList_runW rfl (.string sx) (by simp [go_sem, hc2]) ?_
    simp only [Act.put, List.setIfInBounds_toArray, List.set_cons_zero, List.set_cons_succ]
    refine wpList_runW rfl (.bool false) (by simp [go_sem]) ?_
    simp only [Act.put, List.setIfInBounds_toArray, List.set_cons_zero, List.set_cons_succ]
    refine wpList_run rfl (.bool false) (by simp [go_sem]) ?_
    simp only [Act.put, List.setIfInBounds_toArray, List.set_cons_zero, List.set_cons_succ]
    refine wpList_run rfl (.bool false) (by simp [go_sem]) ?_
    simp only [Act.put, List.setIfInBounds_toArray, List.set_cons_zero, List.set_cons_succ]
    refine wpList_runW rfl (.int .i64 1) (by simp [go_sem]) ?_
    simp only [Act.put, List.setIfInBounds_toArray, List.set_cons_zero, List.set_cons_succ]
    refine wpList_runW rfl (.int .i64 1) (by simp [go_sem]) ?_
    simp only [Act.put, List.setIfInBounds_toArray, List.set_cons_zero, List.set_cons_succ]
    refine wpList_runW rfl (.bool false) (by simp [go_sem]) ?_
    simp only [Act.put, List.setIfInBounds_toArray, List.set_cons_zero, List.set_cons_succ]
    refine wpList_run rfl (.bool false) (by simp [go_sem]) ?_
    simp only [Act.put, List.setIfInBounds_toArray, List.set_cons_zero, List.set_cons_succ]
    clear hc1 hc2
    go_wp2
    go_ret
    exact ⟨rfl, hE4.out⟩

set_option maxRecDepth 100000 in
theorem lifted (os : Os) (started : os.Started) (H : Type) (enc : TypeId × Value → H) :
    ReturnsInHanded {} Try.checked os 3 .any (Rows.slotEncodesSpec.pre6 enc Try.prog Try.f3 Rows.slotEncodesRow.domain false) (Rows.slotEncodesSpec.post enc Try.prog Try.f3 false true false false) := by
  refine returnsInHanded_of_change_sized (C := Try.checked) own started (by kernel_rfl) Try.func3
    (ChangeSpec.witness6 (enc := enc) (C := Try.checked) false ⟨#[], #[.agg #[.bool false, .int .u8 0, .int .u8 0, .int .u8 0, .int .u8 0, .int .u8 0, .int .u8 0, .int .u8 0, .int .u8 0, .int .u8 0, .int .u8 0, .int .u8 0, .int .u8 0, .int .u8 0, .int .u8 0, .int .u8 0, .int .u8 0, .int .u8 0, .int .u8 0, .int .u8 0, .int .u8 0, .int .u8 0, .int .u8 0, .int .u8 0, .int .u8 0, .int .u8 0, .int .u8 0, .int .u8 0, .int .u8 0, .int .u8 0, .int .u8 0, .int .u8 0, .int .u8 0, .int .u8 0, .int .u8 0, .int .u8 0, .int .u8 0, .int .u8 0, .int .u8 0, .int .u8 0, .int .u8 0, .int .u8 0, .int .u8 0, .int .u8 0, .int .u8 0, .int .u8 0, .int .u8 0, .int .u8 0, .int .u8 0, .int .u8 0, .int .u8 0, .int .u8 0, .int .u8 0, .int .u8 0, .int .u8 0, .int .u8 0, .int .u8 0, .int .u8 0, .int .u8 0, .int .u8 0, .int .u8 0, .int .u8 0, .int .u8 0, .int .u8 0, .int .u8 0, .int .u8 0, .int .u8 0, .int .u8 0, .int .u8 0, .int .u8 0, .int .u8 0, .int .u8 0, .int .u8 0, .int .u8 0, .int .u8 0, .int .u8 0, .int .u8 0, .int .u8 0, .int .u8 0, .int .u8 0, .int .u8 0]], []⟩ 8 (by kernel_rfl) (by kernel_rfl) (by kernel_rfl) (by kernel_rfl)) ?_
  intro W base args ds gs before hval0 hW hcnd hsz0 _
  have hsz := hsz0
  have hval : ∀ (j : Nat) t v, Try.f3.params[j]? = some t → args[j]? = some v → Value.okWide Try.prog W .any base t v := hval0
  have hW' := hW
  obtain ⟨p, q, hA0, hV, rfl, hfz, hnd⟩ := hW
  have hA : DataW.TrodAll enc Try.prog W 0 (fun _ => true) true Try.f3.params.toList args.toList ds p := hA0
  rw [Try.params3] at hA hval hsz
  obtain ⟨v0, vs0, d0, ds0, p0, q0, hargs, rfl, rfl, h0, r0⟩ := trodAll_cons hA
  obtain ⟨rfl, rfl, rfl⟩ := trodAll_nil r0
  obtain rfl : args = #[v0] := by cases args; simp_all
  obtain ⟨rfl, rfl⟩ := trodVars_none hV
  have k0 := h0
  have lt0 : ∀ x ∈ p0, x.block < W.heap.size := by obtain ⟨m, hm⟩ := k0; exact DataW.trod_lt m _ _ _ hm
  obtain ⟨a0, f0, rfl⟩ := open_slot (hval 0 25 v0 rfl rfl) h0
  clear hA0 hval0
  refine (walk a0 f0 W  ).mono fun e W' ⟨he, bel⟩ => ?_
  subst he
  exact ⟨_, rfl, _, _, _, [], _, [], hW', trodAll_mk1 (shut_bool Try.underlying4 _), (trodAll_cons_mk (Below.trod laidOut (by kernel_rfl) (of_decide_eq_true (by kernel_rfl)) k0 bel lt0) trodAll_mk0), rfl, bel.frame _, fun h => by cases h⟩

theorem over : Rows.slotEncodesRow.holds Try.pinned (OpenSpec.ofChange Rows.slotEncodesSpec) :=
  OpenClaim.holds_of_wide 3 Try.f3 rfl rfl rfl rfl rfl rfl rfl ⟨rfl, rfl, rfl, rfl, rfl⟩ rfl rfl rfl rfl rfl (by kernel_rfl) Try.func3 (by kernel_rfl)
    (of_decide_eq_true (by kernel_rfl)) (by unfold Func.isWrapper; first | (rw [if_pos (by decide +kernel)]; kernel_rfl) | (rw [if_neg (by decide +kernel)]; exact ⟨rfl, rfl⟩))
    (fun os started H enc _ => lifted os started H enc)
end Go.Proofs.Ytomalmnpojcloaa.slotEncodes
namespace Go.Proofs.Ytomalmnpojcloaa
theorem slotEncodes_holds : Rows.SlotEncodesSaid := slotEncodes.over
end Go.Proofs.Ytomalmnpojcloaa
