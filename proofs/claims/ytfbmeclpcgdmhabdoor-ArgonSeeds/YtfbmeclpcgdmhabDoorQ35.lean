/-
  The document's order and its first words. The document's mixing of four places of a state.
-/
import Derived.Test.YtfbmeclpcgdmhabDoorQ8
namespace Go.Proofs.YtfbmeclpcgdmhabDoor
set_option maxRecDepth 20000
open Go.RowKit Go.BigFrame
def strR : ByteArray := ⟨#[48, 49, 50, 51, 52, 53, 54, 55, 56, 57, 97, 98, 99, 100, 101, 102, 101, 97, 52, 56, 57, 102, 100, 54, 49, 99, 48, 50, 98, 55, 53, 51, 98, 56, 99, 48, 53, 50, 102, 100, 97, 101, 51, 54, 55, 49, 57, 52, 55, 57, 51, 49, 100, 99, 98, 101, 50, 54, 53, 97, 52, 48, 102, 56, 57, 48, 53, 55, 50, 52, 97, 102, 101, 49, 98, 99, 54, 56, 51, 100, 50, 99, 54, 97, 48, 98, 56, 51, 52, 100, 55, 53, 102, 101, 49, 57, 99, 53, 49, 102, 101, 100, 52, 97, 48, 55, 54, 51, 57, 50, 56, 98, 100, 98, 55, 101, 99, 49, 51, 57, 53, 48, 102, 52, 56, 54, 50, 97, 54, 102, 101, 57, 98, 51, 48, 56, 99, 50, 100, 55, 49, 52, 97, 53, 97, 50, 56, 52, 55, 54, 49, 53, 102, 98, 57, 101, 51, 99, 100, 48]⟩
def crF (k : Nat) : Nat := (strR.data.getD k 0).toNat
theorem cr_all : ∀ k, k < 160 → (97 ≤ crF k ∧ crF k - 97 + 10 = dgF k ∧ crF k ≤ 102) ∨ (¬ 97 ≤ crF k ∧ 48 ≤ crF k ∧ crF k - 48 = dgF k) := by decide +kernel
theorem idxR (k : Nat) (hk : k < 160) (X : World) : (Instr.index 9 (.string strR) (.int .i64 (k : Int))).run Tryd.prog X = .ok (.int .u8 ((crF k : Nat) : Int)) X := by
  have h : k < strR.size := hk
  have h1 : (strR[k]'h).toNat = crF k := by
    unfold crF Array.getD
    have h2 : k < strR.data.size := h
    rw [dif_pos h2]
    rfl
  simp [Instr.index, run_underlying Tryd.underlying9, asIntOf, h, go_sem, h1]
set_option maxRecDepth 20000 in
set_option maxHeartbeats 1000000 in
theorem rorder_any (r k : Nat) (hr : r < 10) (hk : k < 16) (w : World) : Calls Tryd.prog 70 #[.int .i64 (r : Int), .int .i64 (k : Int)] w fun e w' => e = .returned (.int .i64 ((dgF (16 * r + k) : Nat) : Int)) ∧ w' = w := by
  obtain ⟨A, hA⟩ : ∃ A, A = 16 * r + k := ⟨_, rfl⟩
  rw [← hA]
  have hi := idxR A (by omega)
  have h := cr_all A (by omega)
  generalize crF A = c at *
  generalize dgF A = d at *
  have wr1 : IntKind.i64.wrap (16 * (r : Int)) = 16 * (r : Int) := by rw [IntKind.wrap_i64]; omega
  have wr2 : IntKind.i64.wrap (16 * (r : Int) + (k : Int)) = (A : Int) := by rw [IntKind.wrap_i64]; omega
  go_enter Tryd.func70, Tryd.ntmps70
  go_upto_region 1 with (fail)
  refine wp_region_lit ?_
  refine wpList_run rfl (.int .i64 (r : Int)) (by simp [go_sem]) ?_
  simp only [Act.put, List.setIfInBounds_toArray, List.set_cons_zero, List.set_cons_succ]
  refine wpList_run rfl (.int .i64 (16 * (r : Int))) (by simp [go_sem, wr1]) ?_
  simp only [Act.put, List.setIfInBounds_toArray, List.set_cons_zero, List.set_cons_succ]
  refine wpList_run rfl (.int .i64 (k : Int)) (by simp [go_sem]) ?_
  simp only [Act.put, List.setIfInBounds_toArray, List.set_cons_zero, List.set_cons_succ]
  refine wpList_run rfl (.int .i64 (A : Int)) (by simp [go_sem, wr2]) ?_
  simp only [Act.put, List.setIfInBounds_toArray, List.set_cons_zero, List.set_cons_succ]
  refine wpList_run rfl (.int .u8 (c : Int)) (by refine (Sem.run_bind _ _ _ _).trans ?_; exact (congrArg (fun x => Result.andThen x _) (hi w)).trans rfl) ?_
  simp only [Act.put, List.setIfInBounds_toArray, List.set_cons_zero, List.set_cons_succ]
  clear hi wr1 wr2 hA
  rcases h with ⟨h1, h2, h3⟩ | ⟨h1, h2, h3⟩
  · have i1 : (97 : Int) ≤ (c : Int) := by omega
    have i2 : (c : Int) ≤ 102 := by omega
    go_wp2
    go_ret
    exact ⟨ret_int (by omega), rfl⟩
  · have i1 : ¬ (97 : Int) ≤ (c : Int) := by omega
    have i2 : (48 : Int) ≤ (c : Int) := by omega
    have i3 : (c : Int) < 97 := by omega
    go_wp2
    go_ret
    exact ⟨ret_int (by omega), rfl⟩
set_option maxRecDepth 20000 in
theorem rfirst_any (w : World) : Calls Tryd.prog 60 #[] w fun e w' => e = .returned (.agg (row 8 (wv fT)).toArray) ∧ Below w.heap.size w w' := by
  have hz := zero30
  have HR0 := hideit (RowAt.new w 8 (wv fun _ => 0#64) 92)
  have HE0 : Ext w (w.alloc (.cells (row 8 (wv fun _ => 0#64)).toArray 92)) := (Below.refl _ _).alloc (Nat.le_refl _) _
  replace HE0 := hideit HE0
  have hb := bld14
  obtain ⟨F, hF⟩ : ∃ F, F = fT := ⟨_, rfl⟩
  rw [← hF] at hb ⊢
  clear hF
  go_enter Tryd.func60, Tryd.ntmps60
  go_upto_region 1 with (fail)
  generalize w.alloc (.cells (row 8 (wv fun _ => 0#64)).toArray 92) = w1 at *
  refine wp_region_lit ?_
  refine wpList_build rfl 92 [(0, .const (.int .u64 7640891576956012808)), (1, .const (.int .u64 13503953896175478587)), (2, .const (.int .u64 4354685564936845355)), (3, .const (.int .u64 11912009170470909681)), (4, .const (.int .u64 5840696475078001361)), (5, .const (.int .u64 11170449401992604703)), (6, .const (.int .u64 2270897969802886507)), (7, .const (.int .u64 6620516959819538809))] rfl _ (hb _) ?_
  simp only [Act.put, List.setIfInBounds_toArray, List.set_cons_zero, List.set_cons_succ]
  refine wpList_store_mid rfl 92 (.tmp 0) (.tmp 1) rfl _ 0 (row 8 (wv F)).toArray rfl rfl (by rw [row_size]; exact HR0.out.there) (by rw [row_size]; exact info30) (row_one fun _ _ => rfl) ?_
  go_wp2
  exact bodyPost_ret (ret_row Tryd.results60 rfl (HR0.out.cells (g' := wv F)) Tryd.underlying92 rfl info30) rfl ⟨rfl, below_setCells _ (Nat.le_refl _) _ _ _ HE0.out⟩

end Go.Proofs.YtfbmeclpcgdmhabDoor
namespace Go.Proofs.YtfbmeclpcgdmhabDoor
set_option maxRecDepth 20000
open Go.RowKit Go.BigFrame
theorem sW_assoc (a b c : BitVec 64) : sW (sW a b) c = sW a (sW b c) := BitVec.add_assoc a b c
set_option maxRecDepth 20000 in
set_option maxHeartbeats 4000000 in
theorem rmix_any (v : Nat → BitVec 64) (a b c d : Nat) (x y : BitVec 64) (ha : a < 16) (hb : b < 16) (hc : c < 16) (hd : d < 16) (n1 : a ≠ b) (n2 : a ≠ c) (n3 : a ≠ d) (n4 : b ≠ c) (n5 : b ≠ d) (n6 : c ≠ d) (w : World) :
    Calls Tryd.prog 71 #[.agg (row 16 (wv v)).toArray, .int .i64 (a : Int), .int .i64 (b : Int), .int .i64 (c : Int), .int .i64 (d : Int), .int .u64 (x.toNat : Int), .int .u64 (y.toNat : Int)] w fun e w' => e = .returned (.agg (row 16 (wv (rowMix v a b c d x y))).toArray) ∧ Below w.heap.size w w' := by
  have hz := zero46
  obtain ⟨A0, hA0⟩ : ∃ p, p = v a := ⟨_, rfl⟩
  obtain ⟨B0, hB0⟩ : ∃ p, p = v b := ⟨_, rfl⟩
  obtain ⟨C0, hC0⟩ : ∃ p, p = v c := ⟨_, rfl⟩
  obtain ⟨D0, hD0⟩ : ∃ p, p = v d := ⟨_, rfl⟩
  obtain ⟨p1, hp1⟩ : ∃ p, p = sW A0 B0 := ⟨_, rfl⟩
  obtain ⟨q1, hq1⟩ : ∃ p, p = sW p1 x := ⟨_, rfl⟩
  obtain ⟨p2, hp2⟩ : ∃ p, p = xW D0 q1 := ⟨_, rfl⟩
  obtain ⟨q2, hq2⟩ : ∃ p, p = rR 32 p2 := ⟨_, rfl⟩
  obtain ⟨q3, hq3⟩ : ∃ p, p = sW C0 q2 := ⟨_, rfl⟩
  obtain ⟨p4, hp4⟩ : ∃ p, p = xW B0 q3 := ⟨_, rfl⟩
  obtain ⟨q4, hq4⟩ : ∃ p, p = rR 24 p4 := ⟨_, rfl⟩
  obtain ⟨p5, hp5⟩ : ∃ p, p = sW q1 q4 := ⟨_, rfl⟩
  obtain ⟨q5, hq5⟩ : ∃ p, p = sW p5 y := ⟨_, rfl⟩
  obtain ⟨p6, hp6⟩ : ∃ p, p = xW q2 q5 := ⟨_, rfl⟩
  obtain ⟨q6, hq6⟩ : ∃ p, p = rR 16 p6 := ⟨_, rfl⟩
  obtain ⟨q7, hq7⟩ : ∃ p, p = sW q3 q6 := ⟨_, rfl⟩
  obtain ⟨p8, hp8⟩ : ∃ p, p = xW q4 q7 := ⟨_, rfl⟩
  obtain ⟨q8, hq8⟩ : ∃ p, p = rR 63 p8 := ⟨_, rfl⟩
  obtain ⟨R, hR⟩ : ∃ R, R = rowMix v a b c d x y := ⟨_, rfl⟩
  have hmx : mix4 (v a) (v b) (v c) (v d) x y = (q5, q8, q7, q6) := by
    have a1 : q1 = sW A0 (sW B0 x) := by rw [hq1, hp1]; exact sW_assoc ..
    have a5 : q5 = sW q1 (sW q4 y) := by rw [hq5, hp5]; exact sW_assoc ..
    rw [hq8, hp8, hq7, hq6, hp6, a5, hq4, hp4, hq3, hq2, hp2, a1, hA0, hB0, hC0, hD0]
    rfl
  have hRj : Hid (∀ j, R j = if j = d then q6 else if j = c then q7 else if j = b then q8 else if j = a then q5 else v j) := fun j => by
    rw [hR]
    unfold rowMix
    rw [hmx]
  rw [← hR]
  clear hR hmx
  replace hp1 := hideit hp1
  replace hq1 := hideit hq1
  replace hp2 := hideit hp2
  replace hq2 := hideit hq2
  replace hq3 := hideit hq3
  replace hp4 := hideit hp4
  replace hq4 := hideit hq4
  replace hp5 := hideit hp5
  replace hq5 := hideit hq5
  replace hp6 := hideit hp6
  replace hq6 := hideit hq6
  replace hq7 := hideit hq7
  replace hp8 := hideit hp8
  replace hq8 := hideit hq8
  obtain ⟨V0, hV0⟩ : ∃ V0, V0 = v := ⟨_, rfl⟩
  have haV : Hid (V0 a = A0) := by rw [hV0, hA0]; rfl
  have hbV : Hid (V0 b = B0) := by rw [hV0, hB0]; rfl
  have hcV : Hid (V0 c = C0) := by rw [hV0, hC0]; rfl
  have hdV : Hid (V0 d = D0) := by rw [hV0, hD0]; rfl
  have hOV : Hid (∀ j, j ≠ a → j ≠ b → j ≠ c → j ≠ d → V0 j = v j) := fun j _ _ _ _ => by rw [hV0]
  clear hA0 hB0 hC0 hD0
  have ia : (0 : Int) ≤ (a : Int) := by omega
  have ia' : (a : Int) < 16 := by omega
  have ib : (0 : Int) ≤ (b : Int) := by omega
  have ib' : (b : Int) < 16 := by omega
  have ic : (0 : Int) ≤ (c : Int) := by omega
  have ic' : (c : Int) < 16 := by omega
  have id : (0 : Int) ≤ (d : Int) := by omega
  have id' : (d : Int) < 16 := by omega
  obtain ⟨bb, hbb⟩ : ∃ bb, bb = w.heap.size := ⟨_, rfl⟩
  have hb0 : w.heap.size ≤ bb := by omega
  go_enter Tryd.func71, Tryd.ntmps71
  go_upto_region 1 with (fail)
  have HV : RowAt bb 16 (wv V0) ((w.alloc (.cells (row 16 (wv v)).toArray 25)).alloc (.cells (row 16 (wv fun _ => 0#64)).toArray 25)) := by
    rw [hbb, hV0]
    exact (RowAt.new w 16 (wv v) 25).alloc _
  have HZ : RowAt (bb + 1) 16 (wv fun _ => 0#64) ((w.alloc (.cells (row 16 (wv v)).toArray 25)).alloc (.cells (row 16 (wv fun _ => 0#64)).toArray 25)) := by
    rw [hbb]
    have := RowAt.new (w.alloc (.cells (row 16 (wv v)).toArray 25)) 16 (wv fun _ => 0#64) 25
    simpa using this
  have HE : Ext w ((w.alloc (.cells (row 16 (wv v)).toArray 25)).alloc (.cells (row 16 (wv fun _ => 0#64)).toArray 25)) := ((Below.refl _ _).alloc (Nat.le_refl _) _).alloc (by simp) _
  replace HV := hideit HV
  replace HZ := hideit HZ
  replace HE := hideit HE
  generalize (w.alloc (.cells (row 16 (wv v)).toArray 25)).alloc (.cells (row 16 (wv fun _ => 0#64)).toArray 25) = w1 at *
  rw [← hbb]
  clear hbb hV0
  have hne := kept_ne w1.drew
  have e1 : ∀ k : Kept (Ext w1.drew), k.w.cell? ⟨bb, a, none⟩ = some (.int .u64 (A0.toNat : Int)) := fun k => by
    have := HV.out.kept a ha k
    rwa [wv, haV.out] at this
  have e2 : ∀ k : Kept (Ext w1.drew), k.w.cell? ⟨bb, b, none⟩ = some (.int .u64 (B0.toNat : Int)) := fun k => by
    have := HV.out.kept b hb k
    rwa [wv, hbV.out] at this
  have f1 := sW_wrap A0 B0
  rw [← hp1.out] at f1
  have f2 := sW_wrap p1 x
  rw [← hq1.out] at f2
  refine wp_region_late 10 (by kernel_rfl) (by kernel_rfl) (by decide) ?_
  simp only [List.take_succ_cons, List.take_zero, List.drop_succ_cons, List.drop_zero]
  refine wpStrong_run 10 rfl ?_
  simp only [List.take_succ_cons, List.take_zero, List.drop_succ_cons, List.drop_zero]
  repeat (go_big_quiet_step (fail))
  refine wpQuiet_nil ?_
  refine wpStrong_nil ?_
  intro X hX
  have hwX : Ext w1 X := Ext.trans (Below.refl _ _).drew hX
  have HV' := hideit (HV.out.carry hwX)
  have HZ' := hideit (HZ.out.carry hwX)
  have HE' := hideit (Ext.trans HE.out hwX)
  clear hX hwX HV HZ HE hne e1 e2 f1 f2
  have eX := HV'.out.1 a ha
  have gX := HV'.out.2.1 a ha
  have HV : Hid (RowAt bb 16 (wv fun j => if j = a then q1 else V0 j) (X.setCell ⟨bb, a, none⟩ (.int .u64 (q1.toNat : Int)))) := (HV'.out.set a (.int .u64 (q1.toNat : Int))).congr fun j _ => by
    simp only [wv]
    split <;> rfl
  have HZ := hideit (HZ'.out.other ⟨bb, a, none⟩ (.int .u64 (q1.toNat : Int)) (by show bb ≠ bb + 1; omega))
  have HE := hideit (HE'.out.setCell (p := ⟨bb, a, none⟩) hb0 (.int .u64 (q1.toNat : Int)))
  go_upto_region 2 with (fail)
  generalize X.setCell ⟨bb, a, none⟩ (.int .u64 (q1.toNat : Int)) = w2 at *
  clear HV' HZ' HE' eX gX
  obtain ⟨V1, hV1⟩ : ∃ V', V' = fun j => if j = a then q1 else V0 j := ⟨_, rfl⟩
  rw [← hV1] at HV
  have haV' : Hid (V1 a = q1) := by rw [hV1]; exact if_pos rfl
  have hbV' : Hid (V1 b = B0) := by rw [hV1]; exact (if_neg (by omega)).trans hbV.out
  have hcV' : Hid (V1 c = C0) := by rw [hV1]; exact (if_neg (by omega)).trans hcV.out
  have hdV' : Hid (V1 d = D0) := by rw [hV1]; exact (if_neg (by omega)).trans hdV.out
  have hOV' : Hid (∀ j, j ≠ a → j ≠ b → j ≠ c → j ≠ d → V1 j = v j) := fun j n1 n2 n3 n4 => by rw [hV1]; exact (if_neg (by omega)).trans (hOV.out j n1 n2 n3 n4)
  clear haV hbV hcV hdV hOV hV1
  have haV := haV'
  have hbV := hbV'
  have hcV := hcV'
  have hdV := hdV'
  have hOV := hOV'
  clear haV' hbV' hcV' hdV' hOV'
  have hne := kept_ne w2.drew
  have e1 : ∀ k : Kept (Ext w2.drew), k.w.cell? ⟨bb, d, none⟩ = some (.int .u64 (D0.toNat : Int)) := fun k => by
    have := HV.out.kept d hd k
    rwa [wv, hdV.out] at this
  have e2 : ∀ k : Kept (Ext w2.drew), k.w.cell? ⟨bb, a, none⟩ = some (.int .u64 (q1.toNat : Int)) := fun k => by
    have := HV.out.kept a ha k
    rwa [wv, haV.out] at this
  have f1 := xW_fact D0 q1
  rw [← hp2.out] at f1
  have hr := hideit (turn_32 p2)
  rw [← hq2.out] at hr
  refine wp_region_late 9 (by kernel_rfl) (by kernel_rfl) (by decide) ?_
  simp only [List.take_succ_cons, List.take_zero, List.drop_succ_cons, List.drop_zero]
  refine wpStrong_run 8 rfl ?_
  simp only [List.take_succ_cons, List.take_zero, List.drop_succ_cons, List.drop_zero]
  repeat (go_big_quiet_step (fail))
  refine wpQuiet_nil ?_
  refine wpStrong_call rfl (fun X => by simp [go_sem]) (fun X _ => hr.out X) ?_
  simp only [Act.put, List.setIfInBounds_toArray, List.set_cons_zero, List.set_cons_succ]
  refine wpStrong_nil ?_
  intro X hX
  have hwX : Ext w2 X := Ext.trans (Below.refl _ _).drew hX
  have HV' := hideit (HV.out.carry hwX)
  have HZ' := hideit (HZ.out.carry hwX)
  have HE' := hideit (Ext.trans HE.out hwX)
  clear hX hwX HV HZ HE hne e1 e2 f1 hr
  have eX := HV'.out.1 d hd
  have gX := HV'.out.2.1 d hd
  have HV : Hid (RowAt bb 16 (wv fun j => if j = d then q2 else V1 j) (X.setCell ⟨bb, d, none⟩ (.int .u64 (q2.toNat : Int)))) := (HV'.out.set d (.int .u64 (q2.toNat : Int))).congr fun j _ => by
    simp only [wv]
    split <;> rfl
  have HZ := hideit (HZ'.out.other ⟨bb, d, none⟩ (.int .u64 (q2.toNat : Int)) (by show bb ≠ bb + 1; omega))
  have HE := hideit (HE'.out.setCell (p := ⟨bb, d, none⟩) hb0 (.int .u64 (q2.toNat : Int)))
  go_upto_region 3 with (fail)
  generalize X.setCell ⟨bb, d, none⟩ (.int .u64 (q2.toNat : Int)) = w3 at *
  clear HV' HZ' HE' eX gX
  obtain ⟨V2, hV2⟩ : ∃ V', V' = fun j => if j = d then q2 else V1 j := ⟨_, rfl⟩
  rw [← hV2] at HV
  have haV' : Hid (V2 a = q1) := by rw [hV2]; exact (if_neg (by omega)).trans haV.out
  have hbV' : Hid (V2 b = B0) := by rw [hV2]; exact (if_neg (by omega)).trans hbV.out
  have hcV' : Hid (V2 c = C0) := by rw [hV2]; exact (if_neg (by omega)).trans hcV.out
  have hdV' : Hid (V2 d = q2) := by rw [hV2]; exact if_pos rfl
  have hOV' : Hid (∀ j, j ≠ a → j ≠ b → j ≠ c → j ≠ d → V2 j = v j) := fun j n1 n2 n3 n4 => by rw [hV2]; exact (if_neg (by omega)).trans (hOV.out j n1 n2 n3 n4)
  clear haV hbV hcV hdV hOV hV2
  have haV := haV'
  have hbV := hbV'
  have hcV := hcV'
  have hdV := hdV'
  have hOV := hOV'
  clear haV' hbV' hcV' hdV' hOV'
  have hne := kept_ne w3.drew
  have e1 : ∀ k : Kept (Ext w3.drew), k.w.cell? ⟨bb, c, none⟩ = some (.int .u64 (C0.toNat : Int)) := fun k => by
    have := HV.out.kept c hc k
    rwa [wv, hcV.out] at this
  have e2 : ∀ k : Kept (Ext w3.drew), k.w.cell? ⟨bb, d, none⟩ = some (.int .u64 (q2.toNat : Int)) := fun k => by
    have := HV.out.kept d hd k
    rwa [wv, hdV.out] at this
  have f1 := sW_wrap C0 q2
  rw [← hq3.out] at f1
  refine wp_region_late 8 (by kernel_rfl) (by kernel_rfl) (by decide) ?_
  simp only [List.take_succ_cons, List.take_zero, List.drop_succ_cons, List.drop_zero]
  refine wpStrong_run 8 rfl ?_
  simp only [List.take_succ_cons, List.take_zero, List.drop_succ_cons, List.drop_zero]
  repeat (go_big_quiet_step (fail))
  refine wpQuiet_nil ?_
  refine wpStrong_nil ?_
  intro X hX
  have hwX : Ext w3 X := Ext.trans (Below.refl _ _).drew hX
  have HV' := hideit (HV.out.carry hwX)
  have HZ' := hideit (HZ.out.carry hwX)
  have HE' := hideit (Ext.trans HE.out hwX)
  clear hX hwX HV HZ HE hne e1 e2 f1
  have eX := HV'.out.1 c hc
  have gX := HV'.out.2.1 c hc
  have HV : Hid (RowAt bb 16 (wv fun j => if j = c then q3 else V2 j) (X.setCell ⟨bb, c, none⟩ (.int .u64 (q3.toNat : Int)))) := (HV'.out.set c (.int .u64 (q3.toNat : Int))).congr fun j _ => by
    simp only [wv]
    split <;> rfl
  have HZ := hideit (HZ'.out.other ⟨bb, c, none⟩ (.int .u64 (q3.toNat : Int)) (by show bb ≠ bb + 1; omega))
  have HE := hideit (HE'.out.setCell (p := ⟨bb, c, none⟩) hb0 (.int .u64 (q3.toNat : Int)))
  go_upto_region 4 with (fail)
  generalize X.setCell ⟨bb, c, none⟩ (.int .u64 (q3.toNat : Int)) = w4 at *
  clear HV' HZ' HE' eX gX
  obtain ⟨V3, hV3⟩ : ∃ V', V' = fun j => if j = c then q3 else V2 j := ⟨_, rfl⟩
  rw [← hV3] at HV
  have haV' : Hid (V3 a = q1) := by rw [hV3]; exact (if_neg (by omega)).trans haV.out
  have hbV' : Hid (V3 b = B0) := by rw [hV3]; exact (if_neg (by omega)).trans hbV.out
  have hcV' : Hid (V3 c = q3) := by rw [hV3]; exact if_pos rfl
  have hdV' : Hid (V3 d = q2) := by rw [hV3]; exact (if_neg (by omega)).trans hdV.out
  have hOV' : Hid (∀ j, j ≠ a → j ≠ b → j ≠ c → j ≠ d → V3 j = v j) := fun j n1 n2 n3 n4 => by rw [hV3]; exact (if_neg (by omega)).trans (hOV.out j n1 n2 n3 n4)
  clear haV hbV hcV hdV hOV hV3
  have haV := haV'
  have hbV := hbV'
  have hcV := hcV'
  have hdV := hdV'
  have hOV := hOV'
  clear haV' hbV' hcV' hdV' hOV'
  have hne := kept_ne w4.drew
  have e1 : ∀ k : Kept (Ext w4.drew), k.w.cell? ⟨bb, b, none⟩ = some (.int .u64 (B0.toNat : Int)) := fun k => by
    have := HV.out.kept b hb k
    rwa [wv, hbV.out] at this
  have e2 : ∀ k : Kept (Ext w4.drew), k.w.cell? ⟨bb, c, none⟩ = some (.int .u64 (q3.toNat : Int)) := fun k => by
    have := HV.out.kept c hc k
    rwa [wv, hcV.out] at this
  have f1 := xW_fact B0 q3
  rw [← hp4.out] at f1
  have hr := hideit (turn_24 p4)
  rw [← hq4.out] at hr
  refine wp_region_late 9 (by kernel_rfl) (by kernel_rfl) (by decide) ?_
  simp only [List.take_succ_cons, List.take_zero, List.drop_succ_cons, List.drop_zero]
  refine wpStrong_run 8 rfl ?_
  simp only [List.take_succ_cons, List.take_zero, List.drop_succ_cons, List.drop_zero]
  repeat (go_big_quiet_step (fail))
  refine wpQuiet_nil ?_
  refine wpStrong_call rfl (fun X => by simp [go_sem]) (fun X _ => hr.out X) ?_
  simp only [Act.put, List.setIfInBounds_toArray, List.set_cons_zero, List.set_cons_succ]
  refine wpStrong_nil ?_
  intro X hX
  have hwX : Ext w4 X := Ext.trans (Below.refl _ _).drew hX
  have HV' := hideit (HV.out.carry hwX)
  have HZ' := hideit (HZ.out.carry hwX)
  have HE' := hideit (Ext.trans HE.out hwX)
  clear hX hwX HV HZ HE hne e1 e2 f1 hr
  have eX := HV'.out.1 b hb
  have gX := HV'.out.2.1 b hb
  have HV : Hid (RowAt bb 16 (wv fun j => if j = b then q4 else V3 j) (X.setCell ⟨bb, b, none⟩ (.int .u64 (q4.toNat : Int)))) := (HV'.out.set b (.int .u64 (q4.toNat : Int))).congr fun j _ => by
    simp only [wv]
    split <;> rfl
  have HZ := hideit (HZ'.out.other ⟨bb, b, none⟩ (.int .u64 (q4.toNat : Int)) (by show bb ≠ bb + 1; omega))
  have HE := hideit (HE'.out.setCell (p := ⟨bb, b, none⟩) hb0 (.int .u64 (q4.toNat : Int)))
  go_upto_region 5 with (fail)
  generalize X.setCell ⟨bb, b, none⟩ (.int .u64 (q4.toNat : Int)) = w5 at *
  clear HV' HZ' HE' eX gX
  obtain ⟨V4, hV4⟩ : ∃ V', V' = fun j => if j = b then q4 else V3 j := ⟨_, rfl⟩
  rw [← hV4] at HV
  have haV' : Hid (V4 a = q1) := by rw [hV4]; exact (if_neg (by omega)).trans haV.out
  have hbV' : Hid (V4 b = q4) := by rw [hV4]; exact if_pos rfl
  have hcV' : Hid (V4 c = q3) := by rw [hV4]; exact (if_neg (by omega)).trans hcV.out
  have hdV' : Hid (V4 d = q2) := by rw [hV4]; exact (if_neg (by omega)).trans hdV.out
  have hOV' : Hid (∀ j, j ≠ a → j ≠ b → j ≠ c → j ≠ d → V4 j = v j) := fun j n1 n2 n3 n4 => by rw [hV4]; exact (if_neg (by omega)).trans (hOV.out j n1 n2 n3 n4)
  clear haV hbV hcV hdV hOV hV4
  have haV := haV'
  have hbV := hbV'
  have hcV := hcV'
  have hdV := hdV'
  have hOV := hOV'
  clear haV' hbV' hcV' hdV' hOV'
  have hne := kept_ne w5.drew
  have e1 : ∀ k : Kept (Ext w5.drew), k.w.cell? ⟨bb, a, none⟩ = some (.int .u64 (q1.toNat : Int)) := fun k => by
    have := HV.out.kept a ha k
    rwa [wv, haV.out] at this
  have e2 : ∀ k : Kept (Ext w5.drew), k.w.cell? ⟨bb, b, none⟩ = some (.int .u64 (q4.toNat : Int)) := fun k => by
    have := HV.out.kept b hb k
    rwa [wv, hbV.out] at this
  have f1 := sW_wrap q1 q4
  rw [← hp5.out] at f1
  have f2 := sW_wrap p5 y
  rw [← hq5.out] at f2
  refine wp_region_late 10 (by kernel_rfl) (by kernel_rfl) (by decide) ?_
  simp only [List.take_succ_cons, List.take_zero, List.drop_succ_cons, List.drop_zero]
  refine wpStrong_run 10 rfl ?_
  simp only [List.take_succ_cons, List.take_zero, List.drop_succ_cons, List.drop_zero]
  repeat (go_big_quiet_step (fail))
  refine wpQuiet_nil ?_
  refine wpStrong_nil ?_
  intro X hX
  have hwX : Ext w5 X := Ext.trans (Below.refl _ _).drew hX
  have HV' := hideit (HV.out.carry hwX)
  have HZ' := hideit (HZ.out.carry hwX)
  have HE' := hideit (Ext.trans HE.out hwX)
  clear hX hwX HV HZ HE hne e1 e2 f1 f2
  have eX := HV'.out.1 a ha
  have gX := HV'.out.2.1 a ha
  have HV : Hid (RowAt bb 16 (wv fun j => if j = a then q5 else V4 j) (X.setCell ⟨bb, a, none⟩ (.int .u64 (q5.toNat : Int)))) := (HV'.out.set a (.int .u64 (q5.toNat : Int))).congr fun j _ => by
    simp only [wv]
    split <;> rfl
  have HZ := hideit (HZ'.out.other ⟨bb, a, none⟩ (.int .u64 (q5.toNat : Int)) (by show bb ≠ bb + 1; omega))
  have HE := hideit (HE'.out.setCell (p := ⟨bb, a, none⟩) hb0 (.int .u64 (q5.toNat : Int)))
  go_upto_region 6 with (fail)
  generalize X.setCell ⟨bb, a, none⟩ (.int .u64 (q5.toNat : Int)) = w6 at *
  clear HV' HZ' HE' eX gX
  obtain ⟨V5, hV5⟩ : ∃ V', V' = fun j => if j = a then q5 else V4 j := ⟨_, rfl⟩
  rw [← hV5] at HV
  have haV' : Hid (V5 a = q5) := by rw [hV5]; exact if_pos rfl
  have hbV' : Hid (V5 b = q4) := by rw [hV5]; exact (if_neg (by omega)).trans hbV.out
  have hcV' : Hid (V5 c = q3) := by rw [hV5]; exact (if_neg (by omega)).trans hcV.out
  have hdV' : Hid (V5 d = q2) := by rw [hV5]; exact (if_neg (by omega)).trans hdV.out
  have hOV' : Hid (∀ j, j ≠ a → j ≠ b → j ≠ c → j ≠ d → V5 j = v j) := fun j n1 n2 n3 n4 => by rw [hV5]; exact (if_neg (by omega)).trans (hOV.out j n1 n2 n3 n4)
  clear haV hbV hcV hdV hOV hV5
  have haV := haV'
  have hbV := hbV'
  have hcV := hcV'
  have hdV := hdV'
  have hOV := hOV'
  clear haV' hbV' hcV' hdV' hOV'
  have hne := kept_ne w6.drew
  have e1 : ∀ k : Kept (Ext w6.drew), k.w.cell? ⟨bb, d, none⟩ = some (.int .u64 (q2.toNat : Int)) := fun k => by
    have := HV.out.kept d hd k
    rwa [wv, hdV.out] at this
  have e2 : ∀ k : Kept (Ext w6.drew), k.w.cell? ⟨bb, a, none⟩ = some (.int .u64 (q5.toNat : Int)) := fun k => by
    have := HV.out.kept a ha k
    rwa [wv, haV.out] at this
  have f1 := xW_fact q2 q5
  rw [← hp6.out] at f1
  have hr := hideit (turn_16 p6)
  rw [← hq6.out] at hr
  refine wp_region_late 9 (by kernel_rfl) (by kernel_rfl) (by decide) ?_
  simp only [List.take_succ_cons, List.take_zero, List.drop_succ_cons, List.drop_zero]
  refine wpStrong_run 8 rfl ?_
  simp only [List.take_succ_cons, List.take_zero, List.drop_succ_cons, List.drop_zero]
  repeat (go_big_quiet_step (fail))
  refine wpQuiet_nil ?_
  refine wpStrong_call rfl (fun X => by simp [go_sem]) (fun X _ => hr.out X) ?_
  simp only [Act.put, List.setIfInBounds_toArray, List.set_cons_zero, List.set_cons_succ]
  refine wpStrong_nil ?_
  intro X hX
  have hwX : Ext w6 X := Ext.trans (Below.refl _ _).drew hX
  have HV' := hideit (HV.out.carry hwX)
  have HZ' := hideit (HZ.out.carry hwX)
  have HE' := hideit (Ext.trans HE.out hwX)
  clear hX hwX HV HZ HE hne e1 e2 f1 hr
  have eX := HV'.out.1 d hd
  have gX := HV'.out.2.1 d hd
  have HV : Hid (RowAt bb 16 (wv fun j => if j = d then q6 else V5 j) (X.setCell ⟨bb, d, none⟩ (.int .u64 (q6.toNat : Int)))) := (HV'.out.set d (.int .u64 (q6.toNat : Int))).congr fun j _ => by
    simp only [wv]
    split <;> rfl
  have HZ := hideit (HZ'.out.other ⟨bb, d, none⟩ (.int .u64 (q6.toNat : Int)) (by show bb ≠ bb + 1; omega))
  have HE := hideit (HE'.out.setCell (p := ⟨bb, d, none⟩) hb0 (.int .u64 (q6.toNat : Int)))
  go_upto_region 7 with (fail)
  generalize X.setCell ⟨bb, d, none⟩ (.int .u64 (q6.toNat : Int)) = w7 at *
  clear HV' HZ' HE' eX gX
  obtain ⟨V6, hV6⟩ : ∃ V', V' = fun j => if j = d then q6 else V5 j := ⟨_, rfl⟩
  rw [← hV6] at HV
  have haV' : Hid (V6 a = q5) := by rw [hV6]; exact (if_neg (by omega)).trans haV.out
  have hbV' : Hid (V6 b = q4) := by rw [hV6]; exact (if_neg (by omega)).trans hbV.out
  have hcV' : Hid (V6 c = q3) := by rw [hV6]; exact (if_neg (by omega)).trans hcV.out
  have hdV' : Hid (V6 d = q6) := by rw [hV6]; exact if_pos rfl
  have hOV' : Hid (∀ j, j ≠ a → j ≠ b → j ≠ c → j ≠ d → V6 j = v j) := fun j n1 n2 n3 n4 => by rw [hV6]; exact (if_neg (by omega)).trans (hOV.out j n1 n2 n3 n4)
  clear haV hbV hcV hdV hOV hV6
  have haV := haV'
  have hbV := hbV'
  have hcV := hcV'
  have hdV := hdV'
  have hOV := hOV'
  clear haV' hbV' hcV' hdV' hOV'
  have hne := kept_ne w7.drew
  have e1 : ∀ k : Kept (Ext w7.drew), k.w.cell? ⟨bb, c, none⟩ = some (.int .u64 (q3.toNat : Int)) := fun k => by
    have := HV.out.kept c hc k
    rwa [wv, hcV.out] at this
  have e2 : ∀ k : Kept (Ext w7.drew), k.w.cell? ⟨bb, d, none⟩ = some (.int .u64 (q6.toNat : Int)) := fun k => by
    have := HV.out.kept d hd k
    rwa [wv, hdV.out] at this
  have f1 := sW_wrap q3 q6
  rw [← hq7.out] at f1
  refine wp_region_late 8 (by kernel_rfl) (by kernel_rfl) (by decide) ?_
  simp only [List.take_succ_cons, List.take_zero, List.drop_succ_cons, List.drop_zero]
  refine wpStrong_run 8 rfl ?_
  simp only [List.take_succ_cons, List.take_zero, List.drop_succ_cons, List.drop_zero]
  repeat (go_big_quiet_step (fail))
  refine wpQuiet_nil ?_
  refine wpStrong_nil ?_
  intro X hX
  have hwX : Ext w7 X := Ext.trans (Below.refl _ _).drew hX
  have HV' := hideit (HV.out.carry hwX)
  have HZ' := hideit (HZ.out.carry hwX)
  have HE' := hideit (Ext.trans HE.out hwX)
  clear hX hwX HV HZ HE hne e1 e2 f1
  have eX := HV'.out.1 c hc
  have gX := HV'.out.2.1 c hc
  have HV : Hid (RowAt bb 16 (wv fun j => if j = c then q7 else V6 j) (X.setCell ⟨bb, c, none⟩ (.int .u64 (q7.toNat : Int)))) := (HV'.out.set c (.int .u64 (q7.toNat : Int))).congr fun j _ => by
    simp only [wv]
    split <;> rfl
  have HZ := hideit (HZ'.out.other ⟨bb, c, none⟩ (.int .u64 (q7.toNat : Int)) (by show bb ≠ bb + 1; omega))
  have HE := hideit (HE'.out.setCell (p := ⟨bb, c, none⟩) hb0 (.int .u64 (q7.toNat : Int)))
  go_upto_region 8 with (fail)
  generalize X.setCell ⟨bb, c, none⟩ (.int .u64 (q7.toNat : Int)) = w8 at *
  clear HV' HZ' HE' eX gX
  obtain ⟨V7, hV7⟩ : ∃ V', V' = fun j => if j = c then q7 else V6 j := ⟨_, rfl⟩
  rw [← hV7] at HV
  have haV' : Hid (V7 a = q5) := by rw [hV7]; exact (if_neg (by omega)).trans haV.out
  have hbV' : Hid (V7 b = q4) := by rw [hV7]; exact (if_neg (by omega)).trans hbV.out
  have hcV' : Hid (V7 c = q7) := by rw [hV7]; exact if_pos rfl
  have hdV' : Hid (V7 d = q6) := by rw [hV7]; exact (if_neg (by omega)).trans hdV.out
  have hOV' : Hid (∀ j, j ≠ a → j ≠ b → j ≠ c → j ≠ d → V7 j = v j) := fun j n1 n2 n3 n4 => by rw [hV7]; exact (if_neg (by omega)).trans (hOV.out j n1 n2 n3 n4)
  clear haV hbV hcV hdV hOV hV7
  have haV := haV'
  have hbV := hbV'
  have hcV := hcV'
  have hdV := hdV'
  have hOV := hOV'
  clear haV' hbV' hcV' hdV' hOV'
  have hne := kept_ne w8.drew
  have e1 : ∀ k : Kept (Ext w8.drew), k.w.cell? ⟨bb, b, none⟩ = some (.int .u64 (q4.toNat : Int)) := fun k => by
    have := HV.out.kept b hb k
    rwa [wv, hbV.out] at this
  have e2 : ∀ k : Kept (Ext w8.drew), k.w.cell? ⟨bb, c, none⟩ = some (.int .u64 (q7.toNat : Int)) := fun k => by
    have := HV.out.kept c hc k
    rwa [wv, hcV.out] at this
  have f1 := xW_fact q4 q7
  rw [← hp8.out] at f1
  have hr := hideit (turn_63 p8)
  rw [← hq8.out] at hr
  refine wp_region_late 9 (by kernel_rfl) (by kernel_rfl) (by decide) ?_
  simp only [List.take_succ_cons, List.take_zero, List.drop_succ_cons, List.drop_zero]
  refine wpStrong_run 8 rfl ?_
  simp only [List.take_succ_cons, List.take_zero, List.drop_succ_cons, List.drop_zero]
  repeat (go_big_quiet_step (fail))
  refine wpQuiet_nil ?_
  refine wpStrong_call rfl (fun X => by simp [go_sem]) (fun X _ => hr.out X) ?_
  simp only [Act.put, List.setIfInBounds_toArray, List.set_cons_zero, List.set_cons_succ]
  refine wpStrong_nil ?_
  intro X hX
  have hwX : Ext w8 X := Ext.trans (Below.refl _ _).drew hX
  have HV' := hideit (HV.out.carry hwX)
  have HZ' := hideit (HZ.out.carry hwX)
  have HE' := hideit (Ext.trans HE.out hwX)
  clear hX hwX HV HZ HE hne e1 e2 f1 hr
  have eX := HV'.out.1 b hb
  have gX := HV'.out.2.1 b hb
  have HV : Hid (RowAt bb 16 (wv fun j => if j = b then q8 else V7 j) (X.setCell ⟨bb, b, none⟩ (.int .u64 (q8.toNat : Int)))) := (HV'.out.set b (.int .u64 (q8.toNat : Int))).congr fun j _ => by
    simp only [wv]
    split <;> rfl
  have HZ := hideit (HZ'.out.other ⟨bb, b, none⟩ (.int .u64 (q8.toNat : Int)) (by show bb ≠ bb + 1; omega))
  have HE := hideit (HE'.out.setCell (p := ⟨bb, b, none⟩) hb0 (.int .u64 (q8.toNat : Int)))
  go_upto_region 9 with (fail)
  generalize X.setCell ⟨bb, b, none⟩ (.int .u64 (q8.toNat : Int)) = w9 at *
  clear HV' HZ' HE' eX gX
  obtain ⟨V8, hV8⟩ : ∃ V', V' = fun j => if j = b then q8 else V7 j := ⟨_, rfl⟩
  rw [← hV8] at HV
  have haV' : Hid (V8 a = q5) := by rw [hV8]; exact (if_neg (by omega)).trans haV.out
  have hbV' : Hid (V8 b = q8) := by rw [hV8]; exact if_pos rfl
  have hcV' : Hid (V8 c = q7) := by rw [hV8]; exact (if_neg (by omega)).trans hcV.out
  have hdV' : Hid (V8 d = q6) := by rw [hV8]; exact (if_neg (by omega)).trans hdV.out
  have hOV' : Hid (∀ j, j ≠ a → j ≠ b → j ≠ c → j ≠ d → V8 j = v j) := fun j n1 n2 n3 n4 => by rw [hV8]; exact (if_neg (by omega)).trans (hOV.out j n1 n2 n3 n4)
  clear haV hbV hcV hdV hOV hV8
  have haV := haV'
  have hbV := hbV'
  have hcV := hcV'
  have hdV := hdV'
  have hOV := hOV'
  clear haV' hbV' hcV' hdV' hOV'
  have HR := hideit (HV.out.congr (g' := wv R) fun j _ => by
    simp only [wv]
    rw [hRj.out j]
    by_cases e1 : j = d
    · rw [if_pos e1, e1, hdV.out]
    · rw [if_neg e1]
      by_cases e2 : j = c
      · rw [if_pos e2, e2, hcV.out]
      · rw [if_neg e2]
        by_cases e3 : j = b
        · rw [if_pos e3, e3, hbV.out]
        · rw [if_neg e3]
          by_cases e4 : j = a
          · rw [if_pos e4, e4, haV.out]
          · rw [if_neg e4, hOV.out j e4 e3 e2 e1])
  clear HV
  go_wp2_with (first | (refine wpList_load_mid rfl 25 (.tmp 7) rfl _ 0 rfl (row 16 (wv R)) _ HR.out.range Tryd.underlying25 rfl (by rw [row_length]; exact info46) ?_) | (refine wpList_store_mid rfl 25 (.tmp 14) (.tmp 95) rfl _ 0 (row 16 (wv R)).toArray rfl rfl (by rw [row_size]; exact HZ.out.there) (by rw [row_size]; exact info46) (row_one fun _ _ => rfl) ?_))
  exact bodyPost_ret (ret_row Tryd.results71 rfl (HZ.out.cells (g' := wv R)) Tryd.underlying25 rfl info46) rfl ⟨rfl, below_setCells _ (by omega) _ _ _ HE.out⟩
end Go.Proofs.YtfbmeclpcgdmhabDoor
