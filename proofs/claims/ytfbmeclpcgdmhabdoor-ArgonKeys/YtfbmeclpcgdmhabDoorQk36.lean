/-
  The document's mixing of four places of a state. The document's state behind a piece.
-/
import Derived.Test.YtfbmeclpcgdmhabDoorQk1
import Derived.Test.YtfbmeclpcgdmhabDoorQk9
import Derived.Test.YtfbmeclpcgdmhabDoorQk35
import Derived.Test.YtfbmeclpcgdmhabDoorQk11
namespace Go.Proofs.YtfbmeclpcgdmhabDoor
set_option maxRecDepth 20000
open Go.RowKit Go.BigFrame
theorem sW_assoc (a b c:BitVec 64):sW (sW a b) c = sW a (sW b c):=BitVec.add_assoc a b c
set_option maxRecDepth 20000 in
set_option maxHeartbeats 4000000 in
theorem rmix_any (v:Nat → BitVec 64) (a b c d:Nat) (x y:BitVec 64) (ha:a < 16) (hb:b < 16) (hc:c < 16) (hd:d < 16) (n1:a ≠ b) (n2:a ≠ c) (n3:a ≠ d) (n4:b ≠ c) (n5:b ≠ d) (n6:c ≠ d) (w:World):
    Calls Tryd.prog 71 #[.agg (row 16 (wv v)).toArray,.int .i64 (a:Int),.int .i64 (b:Int),.int .i64 (c:Int),.int .i64 (d:Int),.int .u64 (x.toNat:Int),.int .u64 (y.toNat:Int)] w fun e w'=>e = .returned (.agg (row 16 (wv (rowMix v a b c d x y))).toArray) ∧ Below w.heap.size w w':=by
  have hz:=zero46
  obtain ⟨A0,hA0⟩:∃ p,p = v a:=⟨_,rfl⟩
  obtain ⟨B0,hB0⟩:∃ p,p = v b:=⟨_,rfl⟩
  obtain ⟨C0,hC0⟩:∃ p,p = v c:=⟨_,rfl⟩
  obtain ⟨D0,hD0⟩:∃ p,p = v d:=⟨_,rfl⟩
  obtain ⟨p1,hp1⟩:∃ p,p = sW A0 B0:=⟨_,rfl⟩
  obtain ⟨q1,hq1⟩:∃ p,p = sW p1 x:=⟨_,rfl⟩
  obtain ⟨p2,hp2⟩:∃ p,p = xW D0 q1:=⟨_,rfl⟩
  obtain ⟨q2,hq2⟩:∃ p,p = rR 32 p2:=⟨_,rfl⟩
  obtain ⟨q3,hq3⟩:∃ p,p = sW C0 q2:=⟨_,rfl⟩
  obtain ⟨p4,hp4⟩:∃ p,p = xW B0 q3:=⟨_,rfl⟩
  obtain ⟨q4,hq4⟩:∃ p,p = rR 24 p4:=⟨_,rfl⟩
  obtain ⟨p5,hp5⟩:∃ p,p = sW q1 q4:=⟨_,rfl⟩
  obtain ⟨q5,hq5⟩:∃ p,p = sW p5 y:=⟨_,rfl⟩
  obtain ⟨p6,hp6⟩:∃ p,p = xW q2 q5:=⟨_,rfl⟩
  obtain ⟨q6,hq6⟩:∃ p,p = rR 16 p6:=⟨_,rfl⟩
  obtain ⟨q7,hq7⟩:∃ p,p = sW q3 q6:=⟨_,rfl⟩
  obtain ⟨p8,hp8⟩:∃ p,p = xW q4 q7:=⟨_,rfl⟩
  obtain ⟨q8,hq8⟩:∃ p,p = rR 63 p8:=⟨_,rfl⟩
  obtain ⟨R,hR⟩:∃ R,R = rowMix v a b c d x y:=⟨_,rfl⟩
  have hmx:mix4 (v a) (v b) (v c) (v d) x y = (q5,q8,q7,q6):=by
    have a1:q1 = sW A0 (sW B0 x):=by rw [hq1,hp1]; exact sW_assoc ..
    have a5:q5 = sW q1 (sW q4 y):=by rw [hq5,hp5]; exact sW_assoc ..
    rw [hq8,hp8,hq7,hq6,hp6,a5,hq4,hp4,hq3,hq2,hp2,a1,hA0,hB0,hC0,hD0]
    rfl
  have hRj:Hid (∀ j,R j = if j = d then q6 else if j = c then q7 else if j = b then q8 else if j = a then q5 else v j):=fun j=>by
    rw [hR]
    unfold rowMix
    rw [hmx]
  rw [← hR]
  clear hR hmx
  replace hp1:=hideit hp1
  replace hq1:=hideit hq1
  replace hp2:=hideit hp2
  replace hq2:=hideit hq2
  replace hq3:=hideit hq3
  replace hp4:=hideit hp4
  replace hq4:=hideit hq4
  replace hp5:=hideit hp5
  replace hq5:=hideit hq5
  replace hp6:=hideit hp6
  replace hq6:=hideit hq6
  replace hq7:=hideit hq7
  replace hp8:=hideit hp8
  replace hq8:=hideit hq8
  obtain ⟨V0,hV0⟩:∃ V0,V0 = v:=⟨_,rfl⟩
  have haV:Hid (V0 a = A0):=by rw [hV0,hA0]; rfl
  have hbV:Hid (V0 b = B0):=by rw [hV0,hB0]; rfl
  have hcV:Hid (V0 c = C0):=by rw [hV0,hC0]; rfl
  have hdV:Hid (V0 d = D0):=by rw [hV0,hD0]; rfl
  have hOV:Hid (∀ j,j ≠ a → j ≠ b → j ≠ c → j ≠ d → V0 j = v j):=fun j _ _ _ _=>by rw [hV0]
  clear hA0 hB0 hC0 hD0
  have ia:(0:Int) ≤ (a:Int):=by omega
  have ia':(a:Int) < 16:=by omega
  have ib:(0:Int) ≤ (b:Int):=by omega
  have ib':(b:Int) < 16:=by omega
  have ic:(0:Int) ≤ (c:Int):=by omega
  have ic':(c:Int) < 16:=by omega
  have id:(0:Int) ≤ (d:Int):=by omega
  have id':(d:Int) < 16:=by omega
  obtain ⟨bb,hbb⟩:∃ bb,bb = w.heap.size:=⟨_,rfl⟩
  have hb0:w.heap.size ≤ bb:=by omega
  go_enter Tryd.func71,Tryd.ntmps71
  go_upto_region 1 with (fail)
  have HV:RowAt bb 16 (wv V0) ((w.alloc (.cells (row 16 (wv v)).toArray 25)).alloc (.cells (row 16 (wv fun _=>0#64)).toArray 25)):=by
    rw [hbb,hV0]
    exact (RowAt.new w 16 (wv v) 25).alloc _
  have HZ:RowAt (bb + 1) 16 (wv fun _=>0#64) ((w.alloc (.cells (row 16 (wv v)).toArray 25)).alloc (.cells (row 16 (wv fun _=>0#64)).toArray 25)):=by
    rw [hbb]
    have:=RowAt.new (w.alloc (.cells (row 16 (wv v)).toArray 25)) 16 (wv fun _=>0#64) 25
    simpa using this
  have HE:Ext w ((w.alloc (.cells (row 16 (wv v)).toArray 25)).alloc (.cells (row 16 (wv fun _=>0#64)).toArray 25)):=((Below.refl _ _).alloc (Nat.le_refl _) _).alloc (by simp) _
  replace HV:=hideit HV
  replace HZ:=hideit HZ
  replace HE:=hideit HE
  generalize (w.alloc (.cells (row 16 (wv v)).toArray 25)).alloc (.cells (row 16 (wv fun _=>0#64)).toArray 25) = w1 at *
  rw [← hbb]
  clear hbb hV0
  have hne:=kept_ne w1.drew
  have e1:∀ k:Kept (Ext w1.drew),k.w.cell? ⟨bb,a,none⟩ = some (.int .u64 (A0.toNat:Int)):=fun k=>by
    have:=HV.out.kept a ha k
    rwa [wv,haV.out] at this
  have e2:∀ k:Kept (Ext w1.drew),k.w.cell? ⟨bb,b,none⟩ = some (.int .u64 (B0.toNat:Int)):=fun k=>by
    have:=HV.out.kept b hb k
    rwa [wv,hbV.out] at this
  have f1:=sW_wrap A0 B0
  rw [← hp1.out] at f1
  have f2:=sW_wrap p1 x
  rw [← hq1.out] at f2
  refine wp_region_late 10 (by kernel_rfl) (by kernel_rfl) (by decide) ?_
  simp only [List.take_succ_cons,List.take_zero,List.drop_succ_cons,List.drop_zero]
  refine wpStrong_run 10 rfl ?_
  simp only [List.take_succ_cons,List.take_zero,List.drop_succ_cons,List.drop_zero]
  repeat (go_big_quiet_step (fail))
  refine wpQuiet_nil ?_
  refine wpStrong_nil ?_
  intro X hX
  have hwX:Ext w1 X:=Ext.trans (Below.refl _ _).drew hX
  have HV':=hideit (HV.out.carry hwX)
  have HZ':=hideit (HZ.out.carry hwX)
  have HE':=hideit (Ext.trans HE.out hwX)
  clear hX hwX HV HZ HE hne e1 e2 f1 f2
  have eX:=HV'.out.1 a ha
  have gX:=HV'.out.2.1 a ha
  have HV:Hid (RowAt bb 16 (wv fun j=>if j = a then q1 else V0 j) (X.setCell ⟨bb,a,none⟩ (.int .u64 (q1.toNat:Int)))):=(HV'.out.set a (.int .u64 (q1.toNat:Int))).congr fun j _=>by
    simp only [wv]
    split <;> rfl
  have HZ:=hideit (HZ'.out.other ⟨bb,a,none⟩ (.int .u64 (q1.toNat:Int)) (by show bb ≠ bb + 1; omega))
  have HE:=hideit (HE'.out.setCell (p:=⟨bb,a,none⟩) hb0 (.int .u64 (q1.toNat:Int)))
  go_upto_region 2 with (fail)
  generalize X.setCell ⟨bb,a,none⟩ (.int .u64 (q1.toNat:Int)) = w2 at *
  clear HV' HZ' HE' eX gX
  obtain ⟨V1,hV1⟩:∃ V',V' = fun j=>if j = a then q1 else V0 j:=⟨_,rfl⟩
  rw [← hV1] at HV
  have haV':Hid (V1 a = q1):=by rw [hV1]; exact if_pos rfl
  have hbV':Hid (V1 b = B0):=by rw [hV1]; exact (if_neg (by omega)).trans hbV.out
  have hcV':Hid (V1 c = C0):=by rw [hV1]; exact (if_neg (by omega)).trans hcV.out
  have hdV':Hid (V1 d = D0):=by rw [hV1]; exact (if_neg (by omega)).trans hdV.out
  have hOV':Hid (∀ j,j ≠ a → j ≠ b → j ≠ c → j ≠ d → V1 j = v j):=fun j n1 n2 n3 n4=>by rw [hV1]; exact (if_neg (by omega)).trans (hOV.out j n1 n2 n3 n4)
  clear haV hbV hcV hdV hOV hV1
  have haV:=haV'
  have hbV:=hbV'
  have hcV:=hcV'
  have hdV:=hdV'
  have hOV:=hOV'
  clear haV' hbV' hcV' hdV' hOV'
  have hne:=kept_ne w2.drew
  have e1:∀ k:Kept (Ext w2.drew),k.w.cell? ⟨bb,d,none⟩ = some (.int .u64 (D0.toNat:Int)):=fun k=>by
    have:=HV.out.kept d hd k
    rwa [wv,hdV.out] at this
  have e2:∀ k:Kept (Ext w2.drew),k.w.cell? ⟨bb,a,none⟩ = some (.int .u64 (q1.toNat:Int)):=fun k=>by
    have:=HV.out.kept a ha k
    rwa [wv,haV.out] at this
  have f1:=xW_fact D0 q1
  rw [← hp2.out] at f1
  have hr:=hideit (turn_32 p2)
  rw [← hq2.out] at hr
  refine wp_region_late 9 (by kernel_rfl) (by kernel_rfl) (by decide) ?_
  simp only [List.take_succ_cons,List.take_zero,List.drop_succ_cons,List.drop_zero]
  refine wpStrong_run 8 rfl ?_
  simp only [List.take_succ_cons,List.take_zero,List.drop_succ_cons,List.drop_zero]
  repeat (go_big_quiet_step (fail))
  refine wpQuiet_nil ?_
  refine wpStrong_call rfl (fun X=>by simp [go_sem]) (fun X _=>hr.out X) ?_
  simp only [jk,jq,jv,jy]
  refine wpStrong_nil ?_
  intro X hX
  have hwX:Ext w2 X:=Ext.trans (Below.refl _ _).drew hX
  have HV':=hideit (HV.out.carry hwX)
  have HZ':=hideit (HZ.out.carry hwX)
  have HE':=hideit (Ext.trans HE.out hwX)
  clear hX hwX HV HZ HE hne e1 e2 f1 hr
  have eX:=HV'.out.1 d hd
  have gX:=HV'.out.2.1 d hd
  have HV:Hid (RowAt bb 16 (wv fun j=>if j = d then q2 else V1 j) (X.setCell ⟨bb,d,none⟩ (.int .u64 (q2.toNat:Int)))):=(HV'.out.set d (.int .u64 (q2.toNat:Int))).congr fun j _=>by
    simp only [wv]
    split <;> rfl
  have HZ:=hideit (HZ'.out.other ⟨bb,d,none⟩ (.int .u64 (q2.toNat:Int)) (by show bb ≠ bb + 1; omega))
  have HE:=hideit (HE'.out.setCell (p:=⟨bb,d,none⟩) hb0 (.int .u64 (q2.toNat:Int)))
  go_upto_region 3 with (fail)
  generalize X.setCell ⟨bb,d,none⟩ (.int .u64 (q2.toNat:Int)) = w3 at *
  clear HV' HZ' HE' eX gX
  obtain ⟨V2,hV2⟩:∃ V',V' = fun j=>if j = d then q2 else V1 j:=⟨_,rfl⟩
  rw [← hV2] at HV
  have haV':Hid (V2 a = q1):=by rw [hV2]; exact (if_neg (by omega)).trans haV.out
  have hbV':Hid (V2 b = B0):=by rw [hV2]; exact (if_neg (by omega)).trans hbV.out
  have hcV':Hid (V2 c = C0):=by rw [hV2]; exact (if_neg (by omega)).trans hcV.out
  have hdV':Hid (V2 d = q2):=by rw [hV2]; exact if_pos rfl
  have hOV':Hid (∀ j,j ≠ a → j ≠ b → j ≠ c → j ≠ d → V2 j = v j):=fun j n1 n2 n3 n4=>by rw [hV2]; exact (if_neg (by omega)).trans (hOV.out j n1 n2 n3 n4)
  clear haV hbV hcV hdV hOV hV2
  have haV:=haV'
  have hbV:=hbV'
  have hcV:=hcV'
  have hdV:=hdV'
  have hOV:=hOV'
  clear haV' hbV' hcV' hdV' hOV'
  have hne:=kept_ne w3.drew
  have e1:∀ k:Kept (Ext w3.drew),k.w.cell? ⟨bb,c,none⟩ = some (.int .u64 (C0.toNat:Int)):=fun k=>by
    have:=HV.out.kept c hc k
    rwa [wv,hcV.out] at this
  have e2:∀ k:Kept (Ext w3.drew),k.w.cell? ⟨bb,d,none⟩ = some (.int .u64 (q2.toNat:Int)):=fun k=>by
    have:=HV.out.kept d hd k
    rwa [wv,hdV.out] at this
  have f1:=sW_wrap C0 q2
  rw [← hq3.out] at f1
  refine wp_region_late 8 (by kernel_rfl) (by kernel_rfl) (by decide) ?_
  simp only [List.take_succ_cons,List.take_zero,List.drop_succ_cons,List.drop_zero]
  refine wpStrong_run 8 rfl ?_
  simp only [List.take_succ_cons,List.take_zero,List.drop_succ_cons,List.drop_zero]
  repeat (go_big_quiet_step (fail))
  refine wpQuiet_nil ?_
  refine wpStrong_nil ?_
  intro X hX
  have hwX:Ext w3 X:=Ext.trans (Below.refl _ _).drew hX
  have HV':=hideit (HV.out.carry hwX)
  have HZ':=hideit (HZ.out.carry hwX)
  have HE':=hideit (Ext.trans HE.out hwX)
  clear hX hwX HV HZ HE hne e1 e2 f1
  have eX:=HV'.out.1 c hc
  have gX:=HV'.out.2.1 c hc
  have HV:Hid (RowAt bb 16 (wv fun j=>if j = c then q3 else V2 j) (X.setCell ⟨bb,c,none⟩ (.int .u64 (q3.toNat:Int)))):=(HV'.out.set c (.int .u64 (q3.toNat:Int))).congr fun j _=>by
    simp only [wv]
    split <;> rfl
  have HZ:=hideit (HZ'.out.other ⟨bb,c,none⟩ (.int .u64 (q3.toNat:Int)) (by show bb ≠ bb + 1; omega))
  have HE:=hideit (HE'.out.setCell (p:=⟨bb,c,none⟩) hb0 (.int .u64 (q3.toNat:Int)))
  go_upto_region 4 with (fail)
  generalize X.setCell ⟨bb,c,none⟩ (.int .u64 (q3.toNat:Int)) = w4 at *
  clear HV' HZ' HE' eX gX
  obtain ⟨V3,hV3⟩:∃ V',V' = fun j=>if j = c then q3 else V2 j:=⟨_,rfl⟩
  rw [← hV3] at HV
  have haV':Hid (V3 a = q1):=by rw [hV3]; exact (if_neg (by omega)).trans haV.out
  have hbV':Hid (V3 b = B0):=by rw [hV3]; exact (if_neg (by omega)).trans hbV.out
  have hcV':Hid (V3 c = q3):=by rw [hV3]; exact if_pos rfl
  have hdV':Hid (V3 d = q2):=by rw [hV3]; exact (if_neg (by omega)).trans hdV.out
  have hOV':Hid (∀ j,j ≠ a → j ≠ b → j ≠ c → j ≠ d → V3 j = v j):=fun j n1 n2 n3 n4=>by rw [hV3]; exact (if_neg (by omega)).trans (hOV.out j n1 n2 n3 n4)
  clear haV hbV hcV hdV hOV hV3
  have haV:=haV'
  have hbV:=hbV'
  have hcV:=hcV'
  have hdV:=hdV'
  have hOV:=hOV'
  clear haV' hbV' hcV' hdV' hOV'
  have hne:=kept_ne w4.drew
  have e1:∀ k:Kept (Ext w4.drew),k.w.cell? ⟨bb,b,none⟩ = some (.int .u64 (B0.toNat:Int)):=fun k=>by
    have:=HV.out.kept b hb k
    rwa [wv,hbV.out] at this
  have e2:∀ k:Kept (Ext w4.drew),k.w.cell? ⟨bb,c,none⟩ = some (.int .u64 (q3.toNat:Int)):=fun k=>by
    have:=HV.out.kept c hc k
    rwa [wv,hcV.out] at this
  have f1:=xW_fact B0 q3
  rw [← hp4.out] at f1
  have hr:=hideit (turn_24 p4)
  rw [← hq4.out] at hr
  refine wp_region_late 9 (by kernel_rfl) (by kernel_rfl) (by decide) ?_
  simp only [List.take_succ_cons,List.take_zero,List.drop_succ_cons,List.drop_zero]
  refine wpStrong_run 8 rfl ?_
  simp only [List.take_succ_cons,List.take_zero,List.drop_succ_cons,List.drop_zero]
  repeat (go_big_quiet_step (fail))
  refine wpQuiet_nil ?_
  refine wpStrong_call rfl (fun X=>by simp [go_sem]) (fun X _=>hr.out X) ?_
  simp only [jk,jq,jv,jy]
  refine wpStrong_nil ?_
  intro X hX
  have hwX:Ext w4 X:=Ext.trans (Below.refl _ _).drew hX
  have HV':=hideit (HV.out.carry hwX)
  have HZ':=hideit (HZ.out.carry hwX)
  have HE':=hideit (Ext.trans HE.out hwX)
  clear hX hwX HV HZ HE hne e1 e2 f1 hr
  have eX:=HV'.out.1 b hb
  have gX:=HV'.out.2.1 b hb
  have HV:Hid (RowAt bb 16 (wv fun j=>if j = b then q4 else V3 j) (X.setCell ⟨bb,b,none⟩ (.int .u64 (q4.toNat:Int)))):=(HV'.out.set b (.int .u64 (q4.toNat:Int))).congr fun j _=>by
    simp only [wv]
    split <;> rfl
  have HZ:=hideit (HZ'.out.other ⟨bb,b,none⟩ (.int .u64 (q4.toNat:Int)) (by show bb ≠ bb + 1; omega))
  have HE:=hideit (HE'.out.setCell (p:=⟨bb,b,none⟩) hb0 (.int .u64 (q4.toNat:Int)))
  go_upto_region 5 with (fail)
  generalize X.setCell ⟨bb,b,none⟩ (.int .u64 (q4.toNat:Int)) = w5 at *
  clear HV' HZ' HE' eX gX
  obtain ⟨V4,hV4⟩:∃ V',V' = fun j=>if j = b then q4 else V3 j:=⟨_,rfl⟩
  rw [← hV4] at HV
  have haV':Hid (V4 a = q1):=by rw [hV4]; exact (if_neg (by omega)).trans haV.out
  have hbV':Hid (V4 b = q4):=by rw [hV4]; exact if_pos rfl
  have hcV':Hid (V4 c = q3):=by rw [hV4]; exact (if_neg (by omega)).trans hcV.out
  have hdV':Hid (V4 d = q2):=by rw [hV4]; exact (if_neg (by omega)).trans hdV.out
  have hOV':Hid (∀ j,j ≠ a → j ≠ b → j ≠ c → j ≠ d → V4 j = v j):=fun j n1 n2 n3 n4=>by rw [hV4]; exact (if_neg (by omega)).trans (hOV.out j n1 n2 n3 n4)
  clear haV hbV hcV hdV hOV hV4
  have haV:=haV'
  have hbV:=hbV'
  have hcV:=hcV'
  have hdV:=hdV'
  have hOV:=hOV'
  clear haV' hbV' hcV' hdV' hOV'
  have hne:=kept_ne w5.drew
  have e1:∀ k:Kept (Ext w5.drew),k.w.cell? ⟨bb,a,none⟩ = some (.int .u64 (q1.toNat:Int)):=fun k=>by
    have:=HV.out.kept a ha k
    rwa [wv,haV.out] at this
  have e2:∀ k:Kept (Ext w5.drew),k.w.cell? ⟨bb,b,none⟩ = some (.int .u64 (q4.toNat:Int)):=fun k=>by
    have:=HV.out.kept b hb k
    rwa [wv,hbV.out] at this
  have f1:=sW_wrap q1 q4
  rw [← hp5.out] at f1
  have f2:=sW_wrap p5 y
  rw [← hq5.out] at f2
  refine wp_region_late 10 (by kernel_rfl) (by kernel_rfl) (by decide) ?_
  simp only [List.take_succ_cons,List.take_zero,List.drop_succ_cons,List.drop_zero]
  refine wpStrong_run 10 rfl ?_
  simp only [List.take_succ_cons,List.take_zero,List.drop_succ_cons,List.drop_zero]
  repeat (go_big_quiet_step (fail))
  refine wpQuiet_nil ?_
  refine wpStrong_nil ?_
  intro X hX
  have hwX:Ext w5 X:=Ext.trans (Below.refl _ _).drew hX
  have HV':=hideit (HV.out.carry hwX)
  have HZ':=hideit (HZ.out.carry hwX)
  have HE':=hideit (Ext.trans HE.out hwX)
  clear hX hwX HV HZ HE hne e1 e2 f1 f2
  have eX:=HV'.out.1 a ha
  have gX:=HV'.out.2.1 a ha
  have HV:Hid (RowAt bb 16 (wv fun j=>if j = a then q5 else V4 j) (X.setCell ⟨bb,a,none⟩ (.int .u64 (q5.toNat:Int)))):=(HV'.out.set a (.int .u64 (q5.toNat:Int))).congr fun j _=>by
    simp only [wv]
    split <;> rfl
  have HZ:=hideit (HZ'.out.other ⟨bb,a,none⟩ (.int .u64 (q5.toNat:Int)) (by show bb ≠ bb + 1; omega))
  have HE:=hideit (HE'.out.setCell (p:=⟨bb,a,none⟩) hb0 (.int .u64 (q5.toNat:Int)))
  go_upto_region 6 with (fail)
  generalize X.setCell ⟨bb,a,none⟩ (.int .u64 (q5.toNat:Int)) = w6 at *
  clear HV' HZ' HE' eX gX
  obtain ⟨V5,hV5⟩:∃ V',V' = fun j=>if j = a then q5 else V4 j:=⟨_,rfl⟩
  rw [← hV5] at HV
  have haV':Hid (V5 a = q5):=by rw [hV5]; exact if_pos rfl
  have hbV':Hid (V5 b = q4):=by rw [hV5]; exact (if_neg (by omega)).trans hbV.out
  have hcV':Hid (V5 c = q3):=by rw [hV5]; exact (if_neg (by omega)).trans hcV.out
  have hdV':Hid (V5 d = q2):=by rw [hV5]; exact (if_neg (by omega)).trans hdV.out
  have hOV':Hid (∀ j,j ≠ a → j ≠ b → j ≠ c → j ≠ d → V5 j = v j):=fun j n1 n2 n3 n4=>by rw [hV5]; exact (if_neg (by omega)).trans (hOV.out j n1 n2 n3 n4)
  clear haV hbV hcV hdV hOV hV5
  have haV:=haV'
  have hbV:=hbV'
  have hcV:=hcV'
  have hdV:=hdV'
  have hOV:=hOV'
  clear haV' hbV' hcV' hdV' hOV'
  have hne:=kept_ne w6.drew
  have e1:∀ k:Kept (Ext w6.drew),k.w.cell? ⟨bb,d,none⟩ = some (.int .u64 (q2.toNat:Int)):=fun k=>by
    have:=HV.out.kept d hd k
    rwa [wv,hdV.out] at this
  have e2:∀ k:Kept (Ext w6.drew),k.w.cell? ⟨bb,a,none⟩ = some (.int .u64 (q5.toNat:Int)):=fun k=>by
    have:=HV.out.kept a ha k
    rwa [wv,haV.out] at this
  have f1:=xW_fact q2 q5
  rw [← hp6.out] at f1
  have hr:=hideit (turn_16 p6)
  rw [← hq6.out] at hr
  refine wp_region_late 9 (by kernel_rfl) (by kernel_rfl) (by decide) ?_
  simp only [List.take_succ_cons,List.take_zero,List.drop_succ_cons,List.drop_zero]
  refine wpStrong_run 8 rfl ?_
  simp only [List.take_succ_cons,List.take_zero,List.drop_succ_cons,List.drop_zero]
  repeat (go_big_quiet_step (fail))
  refine wpQuiet_nil ?_
  refine wpStrong_call rfl (fun X=>by simp [go_sem]) (fun X _=>hr.out X) ?_
  simp only [jk,jq,jv,jy]
  refine wpStrong_nil ?_
  intro X hX
  have hwX:Ext w6 X:=Ext.trans (Below.refl _ _).drew hX
  have HV':=hideit (HV.out.carry hwX)
  have HZ':=hideit (HZ.out.carry hwX)
  have HE':=hideit (Ext.trans HE.out hwX)
  clear hX hwX HV HZ HE hne e1 e2 f1 hr
  have eX:=HV'.out.1 d hd
  have gX:=HV'.out.2.1 d hd
  have HV:Hid (RowAt bb 16 (wv fun j=>if j = d then q6 else V5 j) (X.setCell ⟨bb,d,none⟩ (.int .u64 (q6.toNat:Int)))):=(HV'.out.set d (.int .u64 (q6.toNat:Int))).congr fun j _=>by
    simp only [wv]
    split <;> rfl
  have HZ:=hideit (HZ'.out.other ⟨bb,d,none⟩ (.int .u64 (q6.toNat:Int)) (by show bb ≠ bb + 1; omega))
  have HE:=hideit (HE'.out.setCell (p:=⟨bb,d,none⟩) hb0 (.int .u64 (q6.toNat:Int)))
  go_upto_region 7 with (fail)
  generalize X.setCell ⟨bb,d,none⟩ (.int .u64 (q6.toNat:Int)) = w7 at *
  clear HV' HZ' HE' eX gX
  obtain ⟨V6,hV6⟩:∃ V',V' = fun j=>if j = d then q6 else V5 j:=⟨_,rfl⟩
  rw [← hV6] at HV
  have haV':Hid (V6 a = q5):=by rw [hV6]; exact (if_neg (by omega)).trans haV.out
  have hbV':Hid (V6 b = q4):=by rw [hV6]; exact (if_neg (by omega)).trans hbV.out
  have hcV':Hid (V6 c = q3):=by rw [hV6]; exact (if_neg (by omega)).trans hcV.out
  have hdV':Hid (V6 d = q6):=by rw [hV6]; exact if_pos rfl
  have hOV':Hid (∀ j,j ≠ a → j ≠ b → j ≠ c → j ≠ d → V6 j = v j):=fun j n1 n2 n3 n4=>by rw [hV6]; exact (if_neg (by omega)).trans (hOV.out j n1 n2 n3 n4)
  clear haV hbV hcV hdV hOV hV6
  have haV:=haV'
  have hbV:=hbV'
  have hcV:=hcV'
  have hdV:=hdV'
  have hOV:=hOV'
  clear haV' hbV' hcV' hdV' hOV'
  have hne:=kept_ne w7.drew
  have e1:∀ k:Kept (Ext w7.drew),k.w.cell? ⟨bb,c,none⟩ = some (.int .u64 (q3.toNat:Int)):=fun k=>by
    have:=HV.out.kept c hc k
    rwa [wv,hcV.out] at this
  have e2:∀ k:Kept (Ext w7.drew),k.w.cell? ⟨bb,d,none⟩ = some (.int .u64 (q6.toNat:Int)):=fun k=>by
    have:=HV.out.kept d hd k
    rwa [wv,hdV.out] at this
  have f1:=sW_wrap q3 q6
  rw [← hq7.out] at f1
  refine wp_region_late 8 (by kernel_rfl) (by kernel_rfl) (by decide) ?_
  simp only [List.take_succ_cons,List.take_zero,List.drop_succ_cons,List.drop_zero]
  refine wpStrong_run 8 rfl ?_
  simp only [List.take_succ_cons,List.take_zero,List.drop_succ_cons,List.drop_zero]
  repeat (go_big_quiet_step (fail))
  refine wpQuiet_nil ?_
  refine wpStrong_nil ?_
  intro X hX
  have hwX:Ext w7 X:=Ext.trans (Below.refl _ _).drew hX
  have HV':=hideit (HV.out.carry hwX)
  have HZ':=hideit (HZ.out.carry hwX)
  have HE':=hideit (Ext.trans HE.out hwX)
  clear hX hwX HV HZ HE hne e1 e2 f1
  have eX:=HV'.out.1 c hc
  have gX:=HV'.out.2.1 c hc
  have HV:Hid (RowAt bb 16 (wv fun j=>if j = c then q7 else V6 j) (X.setCell ⟨bb,c,none⟩ (.int .u64 (q7.toNat:Int)))):=(HV'.out.set c (.int .u64 (q7.toNat:Int))).congr fun j _=>by
    simp only [wv]
    split <;> rfl
  have HZ:=hideit (HZ'.out.other ⟨bb,c,none⟩ (.int .u64 (q7.toNat:Int)) (by show bb ≠ bb + 1; omega))
  have HE:=hideit (HE'.out.setCell (p:=⟨bb,c,none⟩) hb0 (.int .u64 (q7.toNat:Int)))
  go_upto_region 8 with (fail)
  generalize X.setCell ⟨bb,c,none⟩ (.int .u64 (q7.toNat:Int)) = w8 at *
  clear HV' HZ' HE' eX gX
  obtain ⟨V7,hV7⟩:∃ V',V' = fun j=>if j = c then q7 else V6 j:=⟨_,rfl⟩
  rw [← hV7] at HV
  have haV':Hid (V7 a = q5):=by rw [hV7]; exact (if_neg (by omega)).trans haV.out
  have hbV':Hid (V7 b = q4):=by rw [hV7]; exact (if_neg (by omega)).trans hbV.out
  have hcV':Hid (V7 c = q7):=by rw [hV7]; exact if_pos rfl
  have hdV':Hid (V7 d = q6):=by rw [hV7]; exact (if_neg (by omega)).trans hdV.out
  have hOV':Hid (∀ j,j ≠ a → j ≠ b → j ≠ c → j ≠ d → V7 j = v j):=fun j n1 n2 n3 n4=>by rw [hV7]; exact (if_neg (by omega)).trans (hOV.out j n1 n2 n3 n4)
  clear haV hbV hcV hdV hOV hV7
  have haV:=haV'
  have hbV:=hbV'
  have hcV:=hcV'
  have hdV:=hdV'
  have hOV:=hOV'
  clear haV' hbV' hcV' hdV' hOV'
  have hne:=kept_ne w8.drew
  have e1:∀ k:Kept (Ext w8.drew),k.w.cell? ⟨bb,b,none⟩ = some (.int .u64 (q4.toNat:Int)):=fun k=>by
    have:=HV.out.kept b hb k
    rwa [wv,hbV.out] at this
  have e2:∀ k:Kept (Ext w8.drew),k.w.cell? ⟨bb,c,none⟩ = some (.int .u64 (q7.toNat:Int)):=fun k=>by
    have:=HV.out.kept c hc k
    rwa [wv,hcV.out] at this
  have f1:=xW_fact q4 q7
  rw [← hp8.out] at f1
  have hr:=hideit (turn_63 p8)
  rw [← hq8.out] at hr
  refine wp_region_late 9 (by kernel_rfl) (by kernel_rfl) (by decide) ?_
  simp only [List.take_succ_cons,List.take_zero,List.drop_succ_cons,List.drop_zero]
  refine wpStrong_run 8 rfl ?_
  simp only [List.take_succ_cons,List.take_zero,List.drop_succ_cons,List.drop_zero]
  repeat (go_big_quiet_step (fail))
  refine wpQuiet_nil ?_
  refine wpStrong_call rfl (fun X=>by simp [go_sem]) (fun X _=>hr.out X) ?_
  simp only [jk,jq,jv,jy]
  refine wpStrong_nil ?_
  intro X hX
  have hwX:Ext w8 X:=Ext.trans (Below.refl _ _).drew hX
  have HV':=hideit (HV.out.carry hwX)
  have HZ':=hideit (HZ.out.carry hwX)
  have HE':=hideit (Ext.trans HE.out hwX)
  clear hX hwX HV HZ HE hne e1 e2 f1 hr
  have eX:=HV'.out.1 b hb
  have gX:=HV'.out.2.1 b hb
  have HV:Hid (RowAt bb 16 (wv fun j=>if j = b then q8 else V7 j) (X.setCell ⟨bb,b,none⟩ (.int .u64 (q8.toNat:Int)))):=(HV'.out.set b (.int .u64 (q8.toNat:Int))).congr fun j _=>by
    simp only [wv]
    split <;> rfl
  have HZ:=hideit (HZ'.out.other ⟨bb,b,none⟩ (.int .u64 (q8.toNat:Int)) (by show bb ≠ bb + 1; omega))
  have HE:=hideit (HE'.out.setCell (p:=⟨bb,b,none⟩) hb0 (.int .u64 (q8.toNat:Int)))
  go_upto_region 9 with (fail)
  generalize X.setCell ⟨bb,b,none⟩ (.int .u64 (q8.toNat:Int)) = w9 at *
  clear HV' HZ' HE' eX gX
  obtain ⟨V8,hV8⟩:∃ V',V' = fun j=>if j = b then q8 else V7 j:=⟨_,rfl⟩
  rw [← hV8] at HV
  have haV':Hid (V8 a = q5):=by rw [hV8]; exact (if_neg (by omega)).trans haV.out
  have hbV':Hid (V8 b = q8):=by rw [hV8]; exact if_pos rfl
  have hcV':Hid (V8 c = q7):=by rw [hV8]; exact (if_neg (by omega)).trans hcV.out
  have hdV':Hid (V8 d = q6):=by rw [hV8]; exact (if_neg (by omega)).trans hdV.out
  have hOV':Hid (∀ j,j ≠ a → j ≠ b → j ≠ c → j ≠ d → V8 j = v j):=fun j n1 n2 n3 n4=>by rw [hV8]; exact (if_neg (by omega)).trans (hOV.out j n1 n2 n3 n4)
  clear haV hbV hcV hdV hOV hV8
  have haV:=haV'
  have hbV:=hbV'
  have hcV:=hcV'
  have hdV:=hdV'
  have hOV:=hOV'
  clear haV' hbV' hcV' hdV' hOV'
  have HR:=hideit (HV.out.congr (g':=wv R) fun j _=>by
    simp only [wv]
    rw [hRj.out j]
    by_cases e1:j = d
    · rw [if_pos e1,e1,hdV.out]
    · rw [if_neg e1]
      by_cases e2:j = c
      · rw [if_pos e2,e2,hcV.out]
      · rw [if_neg e2]
        by_cases e3:j = b
        · rw [if_pos e3,e3,hbV.out]
        · rw [if_neg e3]
          by_cases e4:j = a
          · rw [if_pos e4,e4,haV.out]
          · rw [if_neg e4,hOV.out j e4 e3 e2 e1])
  clear HV
  go_wp2_with (first | (refine wpList_load_mid rfl 25 (.tmp 7) rfl _ 0 rfl (row 16 (wv R)) _ HR.out.range Tryd.underlying25 rfl (by rw [row_length]; exact info46) ?_) | (refine wpList_store_mid rfl 25 (.tmp 14) (.tmp 95) rfl _ 0 (row 16 (wv R)).toArray rfl rfl (by rw [row_size]; exact HZ.out.there) (by rw [row_size]; exact info46) (row_one fun _ _=>rfl) ?_))
  exact bodyPost_ret (ret_row Tryd.results71 rfl (HZ.out.cells (g':=wv R)) Tryd.underlying25 rfl info46) rfl ⟨rfl,below_setCells _ (by omega) _ _ _ HE.out⟩
end Go.Proofs.YtfbmeclpcgdmhabDoor
namespace Go.Proofs.YtfbmeclpcgdmhabDoor
set_option maxRecDepth 20000
open Go.RowKit Go.BigFrame
theorem xW_assoc (a b c:BitVec 64):xW (xW a b) c = xW a (xW b c):=BitVec.xor_assoc a b c
structure QR (w:World) (b:Nat) (h:Nat → BitVec 64) (p:Nat → BitVec 8) (m v:Nat → BitVec 64) (X:World):Prop where
  ext:Ext w X
  hh:RowAt b 8 (wv h) X
  pp:RowAt (b + 1) 128 (yv p) X
  res:RowAt (b + 2) 8 (wv fun _=>0#64) X
  mm:RowAt (b + 3) 16 (wv m) X
  vv:RowAt (b + 4) 16 (wv v) X
theorem QR.carry {w X Y:World} {b:Nat} {h m v:Nat → BitVec 64} {p:Nat → BitVec 8} (q:QR w b h p m v X) (k:Ext X Y):QR w b h p m v Y:=
  ⟨Ext.trans q.ext k,q.hh.carry k,q.pp.carry k,q.res.carry k,q.mm.carry k,q.vv.carry k⟩
theorem QR.setV {w X:World} {b:Nat} {h m v:Nat → BitVec 64} {p:Nat → BitVec 8} (q:QR w b h p m v X) (hb:w.heap.size ≤ b) (i:Nat) (a:BitVec 64):QR w b h p m (fun j=>if j = i then a else v j) (X.setCell ⟨b + 4,i,none⟩ (.int .u64 (a.toNat:Int))):=
  ⟨Below.setCell q.ext (show w.heap.size ≤ b + 4 by omega) _,q.hh.other _ _ (by show b + 4 ≠ b; omega),q.pp.other _ _ (by show b + 4 ≠ b + 1; omega),q.res.other _ _ (by show b + 4 ≠ b + 2; omega),q.mm.other _ _ (by show b + 4 ≠ b + 3; omega),(q.vv.set i (.int .u64 (a.toNat:Int))).congr fun j _=>by
    simp only [wv]
    split <;> rfl⟩
theorem QR.setM {w X:World} {b:Nat} {h m v:Nat → BitVec 64} {p:Nat → BitVec 8} (q:QR w b h p m v X) (hb:w.heap.size ≤ b) (i:Nat) (a:BitVec 64):QR w b h p (fun j=>if j = i then a else m j) v (X.setCell ⟨b + 3,i,none⟩ (.int .u64 (a.toNat:Int))):=
  ⟨Below.setCell q.ext (show w.heap.size ≤ b + 3 by omega) _,q.hh.other _ _ (by show b + 3 ≠ b; omega),q.pp.other _ _ (by show b + 3 ≠ b + 1; omega),q.res.other _ _ (by show b + 3 ≠ b + 2; omega),(q.mm.set i (.int .u64 (a.toNat:Int))).congr fun j _=>by
    simp only [wv]
    split <;> rfl,q.vv.other _ _ (by show b + 3 ≠ b + 4; omega)⟩
theorem QR.setH {w X:World} {b:Nat} {h m v:Nat → BitVec 64} {p:Nat → BitVec 8} (q:QR w b h p m v X) (hb:w.heap.size ≤ b) (i:Nat) (a:BitVec 64):QR w b (fun j=>if j = i then a else h j) p m v (X.setCell ⟨b,i,none⟩ (.int .u64 (a.toNat:Int))):=
  ⟨Below.setCell q.ext hb _,(q.hh.set i (.int .u64 (a.toNat:Int))).congr fun j _=>by
    simp only [wv]
    split <;> rfl,q.pp.other _ _ (by show b ≠ b + 1; omega),q.res.other _ _ (by show b ≠ b + 2; omega),q.mm.other _ _ (by show b ≠ b + 3; omega),q.vv.other _ _ (by show b ≠ b + 4; omega)⟩
theorem QR.setVs {w X:World} {b:Nat} {h m v:Nat → BitVec 64} {p:Nat → BitVec 8} (q:QR w b h p m v X) (hb:w.heap.size ≤ b) (u:Nat → BitVec 64):QR w b h p m u (X.setCells (b + 4) 0 (row 16 (wv u))):=
  ⟨below_setCells (b + 4) (by omega) _ _ _ q.ext,q.hh.cellsOther (by omega) _ _,q.pp.cellsOther (by omega) _ _,q.res.cellsOther (by omega) _ _,q.mm.cellsOther (by omega) _ _,q.vv.cells (g':=wv u)⟩
set_option maxRecDepth 20000 in
set_option maxHeartbeats 8000000 in
theorem rpiece_any (h:Nat → BitVec 64) (p:Nat → BitVec 8) (t:BitVec 64) (last:Bool) (w:World):
    Calls Tryd.prog 61 #[.agg (row 8 (wv h)).toArray,.agg (row 128 (yv p)).toArray,.int .u64 (t.toNat:Int),.bool last] w fun e w'=>e = .returned (.agg (row 8 (wv (pieceF h p t last))).toArray) ∧ Below w.heap.size w w':=by
  have hz:=zero46
  have hz2:=zero30
  obtain ⟨b,hb⟩:∃ b,b = w.heap.size:=⟨_,rfl⟩
  have hb0:w.heap.size ≤ b:=by omega
  obtain ⟨V,hV⟩:∃ V,V = rK (startF h t last) (wordsW p):=⟨_,rfl⟩
  have hVs:Hid (∀ r,V (r + 1) = mixK (V r) (wordsW p) (ordF r) 8):=fun r=>by rw [hV]; rfl
  have hV0:Hid (V 0 = startF h t last):=by rw [hV]; rfl
  obtain ⟨R,hR⟩:∃ R,R = pieceF h p t last:=⟨_,rfl⟩
  have hRj:Hid (∀ j,R j = xW (h j) (xW (V 12 j) (V 12 (j + 8)))):=fun j=>by rw [hR,hV]; rfl
  rw [← hR]
  clear hR hV
  obtain ⟨f,hf⟩:∃ f,f = fT:=⟨_,rfl⟩
  have hfi:=rfirst_any
  rw [← hf] at hfi
  replace hfi:=hideit hfi
  have hst:Hid (∀ j,V 0 j = if j = 14 then (if last = true then nW (f 6) else f 6) else if j = 12 then xW (f 4) t else if j < 8 then h j else f (j - 8)):=fun j=>by rw [hV0.out,hf]; rfl
  clear hf hV0
  obtain ⟨MW,hMW⟩:∃ MW,MW = wordsW p:=⟨_,rfl⟩
  rw [← hMW] at hVs
  have hM:Hid (wK p 128 = MW):=by rw [hMW]; rfl
  clear hMW
  go_enter Tryd.func61,Tryd.ntmps61
  go_upto_region 2 with (fail)
  have HQ:QR w b h p (wK p 0) (fun _=>0#64) (((((w.alloc (.cells (row 8 (wv h)).toArray 92)).alloc (.cells (row 128 (yv p)).toArray 94)).alloc (.cells (row 8 (wv fun _=>0#64)).toArray 92)).alloc (.cells (row 16 (wv fun _=>0#64)).toArray 25)).alloc (.cells (row 16 (wv fun _=>0#64)).toArray 25)):=by
    rw [hb]
    refine ⟨(((((Below.refl _ _).alloc (Nat.le_refl _) _).alloc (by simp) _).alloc (by simp; omega) _).alloc (by simp; omega) _).alloc (by simp; omega) _,?_,?_,?_,?_,?_⟩
    · exact ((((RowAt.new w 8 (wv h) 92).alloc _).alloc _).alloc _).alloc _
    · have:=(((RowAt.new (w.alloc (.cells (row 8 (wv h)).toArray 92)) 128 (yv p) 94).alloc (.cells (row 8 (wv fun _=>0#64)).toArray 92)).alloc (.cells (row 16 (wv fun _=>0#64)).toArray 25)).alloc (.cells (row 16 (wv fun _=>0#64)).toArray 25)
      simpa using this
    · have:=((RowAt.new ((w.alloc (.cells (row 8 (wv h)).toArray 92)).alloc (.cells (row 128 (yv p)).toArray 94)) 8 (wv fun _=>0#64) 92).alloc (.cells (row 16 (wv fun _=>0#64)).toArray 25)).alloc (.cells (row 16 (wv fun _=>0#64)).toArray 25)
      simpa using this
    · have:=(RowAt.new (((w.alloc (.cells (row 8 (wv h)).toArray 92)).alloc (.cells (row 128 (yv p)).toArray 94)).alloc (.cells (row 8 (wv fun _=>0#64)).toArray 92)) 16 (wv fun _=>0#64) 25).alloc (.cells (row 16 (wv fun _=>0#64)).toArray 25)
      exact RowAt.congr (g:=wv fun _=>0#64) (by simpa using this) fun j _=>rfl
    · have:=RowAt.new ((((w.alloc (.cells (row 8 (wv h)).toArray 92)).alloc (.cells (row 128 (yv p)).toArray 94)).alloc (.cells (row 8 (wv fun _=>0#64)).toArray 92)).alloc (.cells (row 16 (wv fun _=>0#64)).toArray 25)) 16 (wv fun _=>0#64) 25
      simpa using this
  replace HQ:=hideit HQ
  generalize ((((w.alloc (.cells (row 8 (wv h)).toArray 92)).alloc (.cells (row 128 (yv p)).toArray 94)).alloc (.cells (row 8 (wv fun _=>0#64)).toArray 92)).alloc (.cells (row 16 (wv fun _=>0#64)).toArray 25)).alloc (.cells (row 16 (wv fun _=>0#64)).toArray 25) = w1 at *
  rw [← hb]
  clear hb
  go_wp2
  go_loopw [11] (fun i wr=>∃ n:Nat,n ≤ 128 ∧ i = .int .i64 n ∧ QR w b h p (wK p n) (fun _=>0#64) wr) (fun i _=>128 - (intOf i).toNat)
  case atStart=>exact ⟨0,by omega,rfl,HQ.out⟩
  case round=>
    clear HQ
    obtain ⟨n,hn,rfl,hQ⟩:=hrel
    have HQ:=hideit hQ
    clear hQ
    by_cases hlt:n < 128
    · have i0:(0:Int) ≤ (n:Int):=by omega
      have i1:(n:Int) < 128:=by omega
      have q0:(0:Int) ≤ (n:Int) / 8:=by omega
      have q1:(n:Int) / 8 < 16:=by omega
      go_upto_region 5 with (fail)
      have hne:=kept_ne wr.drew
      have e3:∀ k:Kept (Ext wr.drew),k.w.cell? ⟨b + 3,n / 8,none⟩ = some (.int .u64 ((wK p n (n / 8)).toNat:Int)):=fun k=>HQ.out.mm.kept (n / 8) (by omega) k
      have e4:∀ k:Kept (Ext wr.drew),k.w.cell? ⟨b + 1,n,none⟩ = some (.int .u8 ((p n).toNat:Int)):=fun k=>HQ.out.pp.kept n hlt k
      have hsh:=shB_wrap (p n) (8 * (n % 8))
      have hor:=oW_fact (wK p n (n / 8)) (shB (p n) (8 * (n % 8)))
      refine wp_region_late 15 (by kernel_rfl) (by kernel_rfl) (by decide) ?_
      simp only [List.take_succ_cons,List.take_zero,List.drop_succ_cons,List.drop_zero]
      refine wpStrong_run 15 rfl ?_
      simp only [List.take_succ_cons,List.take_zero,List.drop_succ_cons,List.drop_zero]
      repeat (go_big_quiet_step (fail))
      refine wpQuiet_nil ?_
      refine wpStrong_nil ?_
      intro X hX
      have hwX:Ext wr X:=Ext.trans (Below.refl _ _).drew hX
      have HQ':=hideit (HQ.out.carry hwX)
      have eX:=HQ'.out.mm.1 (n / 8) (by omega)
      have gX:=HQ'.out.mm.2.1 (n / 8) (by omega)
      clear hwX hX HQ hne e3 e4 hsh hor
      simp only [wv] at eX
      have HF:QR w b h p (wK p (n + 1)) (fun _=>0#64) (X.setCell ⟨b + 3,n / 8,none⟩ (.int .u64 ((oW (wK p n (n / 8)) (shB (p n) (8 * (n % 8)))).toNat:Int))):=by
        have hh:=HQ'.out.setM hb0 (n / 8) (oW (wK p n (n / 8)) (shB (p n) (8 * (n % 8))))
        refine ⟨hh.ext,hh.hh,hh.pp,hh.res,hh.mm.congr fun j _=>?_,hh.vv⟩
        simp only [wv,wK]
        by_cases e:j = n / 8
        · subst e; rw [if_pos rfl]
        · rw [if_neg e,if_neg e]
      replace HF:=hideit HF
      go_wp2
      exact ⟨⟨n + 1,by omega,by go_num,HF.out⟩,by simp [intOf]; omega⟩
    · have i1:¬ (n:Int) < 128:=by omega
      have hM':wK p n = MW:=by
        rw [show n = 128 by omega]
        exact hM.out
      have HQ1:=HQ
      rw [hM'] at HQ1
      clear HQ hM'
      go_upto_region 6 with (fail)
      refine wp_region_lit ?_
      refine wpList_call rfl (by simp [go_sem]) ((hfi.out wr).mono ?_)
      rintro e w2 ⟨rfl,hw2⟩
      refine ⟨_,rfl,?_⟩
      simp only [jk,jq,jv,jy]
      have HN:=hideit (RowAt.new w2 8 (wv fun _=>0#64) 92)
      have hE3:Ext w2 (w2.alloc (.cells (row 8 (wv fun _=>0#64)).toArray 92)):=(Below.refl _ _).alloc (Nat.le_refl _) _
      refine wpList_to rfl (.pointer (some ⟨w2.heap.size,0,none⟩)) (w2.alloc (.cells (row 8 (wv fun _=>0#64)).toArray 92)) (by simp [go_sem,hz2]) ?_
      simp only [jk,jq,jv,jy]
      refine wpList_store_mid rfl 92 (.tmp 12) (.tmp 40) rfl _ 0 (row 8 (wv f)).toArray rfl rfl (by rw [row_size]; exact HN.out.there) (by rw [row_size]; exact info30) (row_one fun _ _=>rfl) ?_
      have hE4:Ext wr ((w2.alloc (.cells (row 8 (wv fun _=>0#64)).toArray 92)).setCells w2.heap.size 0 (row 8 (wv f))):=Ext.trans hw2 (below_setCells w2.heap.size (Nat.le_refl _) _ _ _ hE3)
      have HF:=hideit (HN.out.cells (g':=wv f))
      have HQ4:=hideit (HQ1.out.carry hE4)
      have hb12:b + 4 < w2.heap.size:=Nat.lt_of_lt_of_le HQ1.out.vv.2.2 (Below.size hw2)
      generalize (w2.alloc (.cells (row 8 (wv fun _=>0#64)).toArray 92)).setCells w2.heap.size 0 (row 8 (wv f)) = w4 at *
      generalize w2.heap.size = c12 at *
      clear HN hE3 hE4 hw2 HQ1 hfi
      have HQ5:QR w b h p MW (fun j=>if j < 0 then h j else if 8 ≤ j ∧ j < 8 + 0 then f (j - 8) else 0#64) w4:=by
        have hh:=HQ4.out
        refine ⟨hh.ext,hh.hh,hh.pp,hh.res,hh.mm,hh.vv.congr fun j _=>?_⟩
        simp only [wv]
        rw [if_neg (by omega),if_neg (by omega)]
      replace HQ5:=hideit HQ5
      clear HQ4
      simp only [Act.put]
      go_wp2
      go_loopw [13] (fun i wr=>∃ n:Nat,n ≤ 8 ∧ i = .int .i64 n ∧ QR w b h p MW (fun j=>if j < n then h j else if 8 ≤ j ∧ j < 8 + n then f (j - 8) else 0#64) wr ∧ RowAt c12 8 (wv f) wr) (fun i _=>8 - (intOf i).toNat)
      case atStart=>exact ⟨0,by omega,rfl,HQ5.out,HF.out⟩
      case round=>
        clear HQ5 HF
        obtain ⟨n,hn,rfl,hQ,hF⟩:=hrel
        have HQ:=hideit hQ
        have HF:=hideit hF
        clear hQ hF
        by_cases hlt:n < 8
        · have i0:(0:Int) ≤ (n:Int):=by omega
          have i1:(n:Int) < 8:=by omega
          have i2:(n:Int) < 16:=by omega
          have i3:(0:Int) ≤ 8 + (n:Int):=by omega
          have i4:8 + (n:Int) < 16:=by omega
          have wr1:IntKind.i64.wrap (8 + (n:Int)) = 8 + (n:Int):=by rw [IntKind.wrap_i64]; omega
          have t8:(8 + (n:Int)).toNat = 8 + n:=by omega
          go_upto_region 10 with (fail)
          have hne:=kept_ne wr.drew
          have e1:∀ k:Kept (Ext wr.drew),k.w.cell? ⟨b,n,none⟩ = some (.int .u64 ((h n).toNat:Int)):=fun k=>HQ.out.hh.kept n hlt k
          refine wp_region_flo (fun Y=>RowAt c12 8 (wv f) Y) (fun Y hY=>HF.out.carry (Ext.trans (Below.refl _ _).drew hY)) [0,3,4,5] [1,2,6,7,8] [9,10,11,12] [_,_,_,_] (by kernel_rfl) (by kernel_rfl) (by decide) rfl (by decide +kernel) (by decide +kernel) (by decide +kernel) (by decide +kernel) (by decide +kernel) (by decide +kernel) (by decide +kernel) (by decide +kernel) (by decide +kernel) ?_
          simp only [List.getElem_toArray,List.getElem_cons_zero,List.getElem_cons_succ]
          refine wpStrong_run 4 rfl ?_
          simp only [List.take_succ_cons,List.take_zero,List.drop_succ_cons,List.drop_zero]
          repeat (go_big_quiet_step (fail))
          refine wpQuiet_nil ?_
          refine wpStrong_nil ?_
          refine wpF_one _ (.int .i64 (n:Int)) rfl rfl (fun X _=>by simp [go_sem]) ?_
          simp only [jw,jz,kj,jk,jq,jv,jy]
          refine wpF_one _ (.int .i64 (8 + (n:Int))) rfl rfl (fun X _=>by simp [go_sem,wr1]) ?_
          simp only [jw,jz,kj,jk,jq,jv,jy]
          refine wpF_one _ (.int .i64 (n:Int)) rfl rfl (fun X _=>by simp [go_sem]) ?_
          simp only [jw,jz,kj,jk,jq,jv,jy]
          refine wpF_one _ (.pointer (some ⟨c12,n,none⟩)) rfl rfl (fun X _=>by simp [go_sem,i0,i1]) ?_
          simp only [jw,jz,kj,jk,jq,jv,jy]
          refine wpF_one _ (.int .u64 ((f n).toNat:Int)) rfl rfl (fun X hX=>by
            have e:=hX.1 n hlt
            simp only [wv] at e
            simp [go_sem,e]) ?_
          simp only [jw,jz,kj,jk,jq,jv,jy]
          refine wpF_nil ?_
          intro X hX
          have hwX:Ext wr X:=Ext.trans (Below.refl _ _).drew hX
          have HQ1:=hideit (HQ.out.carry hwX)
          have HF1:=hideit (HF.out.carry hwX)
          clear hwX hX hne e1 HQ HF
          have e0:=HQ1.out.vv.1 n (by omega)
          have g0:=HQ1.out.vv.2.1 n (by omega)
          simp only [wv] at e0
          refine wpL_val _ (.pointer (some ⟨b + 4,n,none⟩)) rfl rfl (by simp [go_sem,i0,i2]) HF1.out ?_
          simp only [jw,jz,kj,jk,jq,jv,jy]
          have HQ2:=hideit (HQ1.out.setV hb0 n (h n))
          have HF2:=hideit (HF1.out.other ⟨b + 4,n,none⟩ (.int .u64 ((h n).toNat:Int)) (by show b + 4 ≠ c12; omega))
          refine wpL_skip _ (X.setCell ⟨b + 4,n,none⟩ (.int .u64 ((h n).toNat:Int))) rfl rfl (by simp [go_sem,e0,g0]) HF2.out ?_
          simp only [List.getElem_toArray,List.getElem_cons_zero,List.getElem_cons_succ,Act.put]
          generalize X.setCell ⟨b + 4,n,none⟩ (.int .u64 ((h n).toNat:Int)) = Y0 at *
          clear e0 g0 HQ1 HF1
          have e1:=HQ2.out.vv.1 (8 + n) (by omega)
          have g1:=HQ2.out.vv.2.1 (8 + n) (by omega)
          simp only [wv] at e1
          refine wpL_val _ (.pointer (some ⟨b + 4,8 + n,none⟩)) rfl rfl (by simp [go_sem,i3,i4,t8]) HF2.out ?_
          simp only [jw,jz,kj,jk,jq,jv,jy]
          have HQ3:=hideit (HQ2.out.setV hb0 (8 + n) (f n))
          have HF3:=hideit (HF2.out.other ⟨b + 4,8 + n,none⟩ (.int .u64 ((f n).toNat:Int)) (by show b + 4 ≠ c12; omega))
          refine wpL_skip _ (Y0.setCell ⟨b + 4,8 + n,none⟩ (.int .u64 ((f n).toNat:Int))) rfl rfl (by simp [go_sem,e1,g1]) HF3.out ?_
          refine wpL_nil ?_
          simp only [Act.put]
          have HQ4:QR w b h p MW (fun j=>if j < n + 1 then h j else if 8 ≤ j ∧ j < 8 + (n + 1) then f (j - 8) else 0#64) (Y0.setCell ⟨b + 4,8 + n,none⟩ (.int .u64 ((f n).toNat:Int))):=by
            have hh:=HQ3.out
            refine ⟨hh.ext,hh.hh,hh.pp,hh.res,hh.mm,hh.vv.congr fun j _=>?_⟩
            simp only [wv]
            by_cases a1:j = 8 + n
            · subst a1
              rw [if_pos rfl,if_neg (by omega),if_pos (by omega),Nat.add_sub_cancel_left]
            · rw [if_neg a1]
              by_cases a2:j = n
              · subst a2
                rw [if_pos rfl,if_pos (by omega)]
              · rw [if_neg a2]
                by_cases a3:j < n
                · rw [if_pos a3,if_pos (by omega)]
                · rw [if_neg a3,if_neg (show ¬ j < n + 1 by omega)]
                  by_cases a4:8 ≤ j ∧ j < 8 + n
                  · rw [if_pos a4,if_pos (by omega)]
                  · rw [if_neg a4,if_neg (by omega)]
          replace HQ4:=hideit HQ4
          generalize Y0.setCell ⟨b + 4,8 + n,none⟩ (.int .u64 ((f n).toNat:Int)) = Y1 at *
          clear HQ3 HQ2 HF2 e1 g1
          go_wp2
          exact ⟨⟨n + 1,by omega,by go_num,HQ4.out,HF3.out⟩,by simp [intOf]; omega⟩
        · have i8:¬ (n:Int) < 8:=by omega
          have HQ0:=HQ
          clear HQ
          have hn8:n = 8:=by omega
          have HQ:Hid (QR w b h p MW (fun j=>if j < 8 then h j else if 8 ≤ j ∧ j < 8 + 8 then f (j - 8) else 0#64) wr):=by
            have:=HQ0.out
            rw [hn8] at this
            exact this
          clear HF HQ0 hn8
          have e12:=HQ.out.vv.1 12 (by omega)
          have g12:=HQ.out.vv.2.1 12 (by omega)
          have hx12:=xW_fact (f 4) t
          simp only [wv] at e12
          rw [if_neg (by omega),if_pos (by omega),show 12 - 8 = 4 from rfl] at e12
          go_upto_region 12 with (fail)
          have HQ9:=hideit (HQ.out.setV hb0 12 (xW (f 4) t))
          generalize wr.setCell ⟨b + 4,12,none⟩ (.int .u64 ((xW (f 4) t).toNat:Int)) = w9 at *
          clear HQ e12 g12 hx12
          have e14:=HQ9.out.vv.1 14 (by omega)
          have g14:=HQ9.out.vv.2.1 14 (by omega)
          simp only [wv] at e14
          rw [if_neg (by omega),if_neg (by omega),if_pos (by omega),show 14 - 8 = 6 from rfl] at e14
          have hn14:=nW_fact (f 6)
          cases last with
          | true=>
            go_upto_region 14 with (fail)
            have HQA:QR w b h p MW (V 0) (w9.setCell ⟨b + 4,14,none⟩ (.int .u64 ((nW (f 6)).toNat:Int))):=by
              have hh:=HQ9.out.setV hb0 14 (nW (f 6))
              refine ⟨hh.ext,hh.hh,hh.pp,hh.res,hh.mm,hh.vv.congr fun j hj=>?_⟩
              simp only [wv]
              rw [hst.out j,if_pos rfl]
              by_cases a1:j = 14
              · rw [if_pos a1,if_pos a1]
              · rw [if_neg a1,if_neg a1]
                by_cases a2:j = 12
                · rw [if_pos a2,if_pos a2]
                · rw [if_neg a2,if_neg a2]
                  by_cases a3:j < 8
                  · rw [if_pos a3,if_pos a3]
                  · rw [if_neg a3,if_neg a3,if_pos (by omega)]
            replace HQA:=hideit HQA
            generalize w9.setCell ⟨b + 4,14,none⟩ (.int .u64 ((nW (f 6)).toNat:Int)) = wA at *
            clear HQ9 e14 g14 hn14
            go_wp2
            go_loopw [14] (fun i wr=>∃ r:Nat,r ≤ 12 ∧ i = .int .i64 r ∧ QR w b h p MW (V r) wr) (fun i _=>12 - (intOf i).toNat)
            case atStart=>exact ⟨0,by omega,rfl,HQA.out⟩
            case round=>
              clear HQA
              obtain ⟨r,hr,rfl,hQ⟩:=hrel
              have HQ:=hideit hQ
              clear hQ
              by_cases hlt:r < 12
              · have i0:(0:Int) ≤ (r:Int):=by omega
                have i1:(r:Int) < 12:=by omega
                obtain ⟨q,hq⟩:∃ q,q = r % 10:=⟨_,rfl⟩
                have hq1:(r:Int) % 10 = (q:Int):=by omega
                have hq10:q < 10:=by omega
                have q0:(0:Int) ≤ (q:Int):=by omega
                have hor:Hid (∀ (k:Nat) (X:World),k < 16 → Calls Tryd.prog 70 #[.int .i64 (q:Int),.int .i64 (k:Int)] X fun e w'=>e = .returned (.int .i64 ((ordF r k:Nat):Int)) ∧ w' = X):=fun k X hk=>by
                  have h:=rorder_any q k hq10 hk X
                  have e:ordF r k = dgF (16 * q + k):=by
                    unfold ordF
                    rw [show 16 * r % 160 = 16 * q by omega]
                  rw [e]
                  exact h
                obtain ⟨F,hF⟩:∃ F,F = mixK (V r) MW (ordF r):=⟨_,rfl⟩
                have hFs:Hid (∀ k,F (k + 1) = rowMix (F k) (plF (4 * k)) (plF (4 * k + 1)) (plF (4 * k + 2)) (plF (4 * k + 3)) (MW (ordF r (2 * k))) (MW (ordF r (2 * k + 1)))):=fun k=>by rw [hF]; rfl
                have hF0:V r = F 0:=by rw [hF]; rfl
                have hF8:Hid (F 8 = V (r + 1)):=by rw [hF,hVs.out r]; rfl
                have hol:Hid (∀ j,j < 16 → ordF r j < 16):=fun j hj=>ord_lt r hlt j hj
                obtain ⟨od,hod⟩:∃ od,od = ordF r:=⟨_,rfl⟩
                rw [← hod] at hor hFs hol
                rw [hF0] at HQ
                replace hq:=hideit hq
                clear hF hF0 hod
                go_wp2
                simp only [hq1]
                go_loopw [16] (fun i wr=>∃ k:Nat,k ≤ 8 ∧ i = .int .i64 k ∧ QR w b h p MW (F k) wr) (fun i _=>8 - (intOf i).toNat)
                case atStart=>exact ⟨0,by omega,rfl,HQ.out⟩
                case round=>
                  clear HQ
                  obtain ⟨k,hk,rfl,hQ⟩:=hrel
                  have HQ:=hideit hQ
                  clear hQ
                  by_cases hlk:k < 8
                  · have k0:(0:Int) ≤ (k:Int):=by omega
                    have k1:(k:Int) < 8:=by omega
                    have ho0:=hol.out (2 * k) (by omega)
                    have ho1:=hol.out (2 * k + 1) (by omega)
                    have j4:(0:Int) ≤ ((od (2 * k):Nat):Int):=by omega
                    have j5:((od (2 * k):Nat):Int) < 16:=by omega
                    have j6:(0:Int) ≤ ((od (2 * k + 1):Nat):Int):=by omega
                    have j7:((od (2 * k + 1):Nat):Int) < 16:=by omega
                    have h23a:Hid (∀ X:World,Calls Tryd.prog 70 #[.int .i64 (q:Int),.int .i64 (2 * (k:Int))] X fun e w'=>e = .returned (.int .i64 ((od (2 * k):Nat):Int)) ∧ w' = X):=fun X=>by
                      have h:=hor.out (2 * k) X (by omega)
                      rw [show ((2 * k:Nat):Int) = 2 * (k:Int) by omega] at h
                      exact h
                    have h23b:Hid (∀ X:World,Calls Tryd.prog 70 #[.int .i64 (q:Int),.int .i64 (2 * (k:Int) + 1)] X fun e w'=>e = .returned (.int .i64 ((od (2 * k + 1):Nat):Int)) ∧ w' = X):=fun X=>by
                      have h:=hor.out (2 * k + 1) X (by omega)
                      rw [show ((2 * k + 1:Nat):Int) = 2 * (k:Int) + 1 by omega] at h
                      exact h
                    go_upto_region 21 with (fail)
                    have hne:=kept_ne wr.drew
                    have e0:∀ k':Kept (Ext wr.drew),k'.w.cell? ⟨b + 3,od (2 * k),none⟩ = some (.int .u64 ((MW (od (2 * k))).toNat:Int)):=fun k'=>HQ.out.mm.kept (od (2 * k)) ho0 k'
                    refine wp_region_flo (fun Y=>RowAt (b + 3) 16 (wv MW) Y) (fun Y hY=>HQ.out.mm.carry (Ext.trans (Below.refl _ _).drew hY)) [0,1,2,3,4,5,6,7,8,9,10] [11,12] [13,14] [_,_,_,_,_,_,_,_,_,_,_] (by kernel_rfl) (by kernel_rfl) (by decide) rfl (by decide +kernel) (by decide +kernel) (by decide +kernel) (by decide +kernel) (by decide +kernel) (by decide +kernel) (by decide +kernel) (by decide +kernel) (by decide +kernel) ?_
                    simp only [List.getElem_toArray,List.getElem_cons_zero,List.getElem_cons_succ]
                    refine wpStrong_run 3 rfl ?_
                    simp only [List.take_succ_cons,List.take_zero,List.drop_succ_cons,List.drop_zero]
                    repeat (go_big_quiet_step (fail))
                    refine wpQuiet_nil ?_
                    refine wpStrong_call rfl (fun X=>by simp [go_sem]) (fun X _=>(h23a.out X).mono fun e w' h=>⟨h.1,by rw [h.2]; exact Below.refl _ _⟩) ?_
                    simp only [jk,jq,jv,jy]
                    refine wpStrong_run 6 rfl ?_
                    simp only [List.take_succ_cons,List.take_zero,List.drop_succ_cons,List.drop_zero]
                    repeat (go_big_quiet_step (fail))
                    refine wpQuiet_nil ?_
                    refine wpStrong_call rfl (fun X=>by simp [go_sem]) (fun X _=>(h23b.out X).mono fun e w' h=>⟨h.1,by rw [h.2]; exact Below.refl _ _⟩) ?_
                    simp only [jk,jq,jv,jy]
                    refine wpStrong_nil ?_
                    refine wpF_one _ (.pointer (some ⟨b + 3,od (2 * k + 1),none⟩)) rfl rfl (fun X _=>by simp [go_sem,j6,j7]) ?_
                    simp only [jw,jz,kj,jk,jq,jv,jy]
                    refine wpF_one _ (.int .u64 ((MW (od (2 * k + 1))).toNat:Int)) rfl rfl (fun X hX=>by
                      have e:=hX.1 (od (2 * k + 1)) ho1
                      simp only [wv] at e
                      simp [go_sem,e]) ?_
                    simp only [jw,jz,kj,jk,jq,jv,jy]
                    refine wpF_nil ?_
                    intro X hX
                    have hXm:=HQ.out.mm.carry (Ext.trans (Below.refl _ _).drew hX)
                    refine wpL_val _ (.int .u64 ((MW (od (2 * k))).toNat:Int)) rfl rfl (by simp [go_sem]) hXm ?_
                    simp only [jw,jz,kj,jk,jq,jv,jy]
                    refine wpL_val _ (.int .u64 ((MW (od (2 * k + 1))).toNat:Int)) rfl rfl (by simp [go_sem]) hXm ?_
                    refine wpL_nil ?_
                    simp only [jw,jz,kj,jk,jq,jv,jy]
                    have HQ6:=hideit (HQ.out.carry (Ext.trans (Below.refl _ _).drew hX))
                    clear hXm hX HQ hne e0 h23a h23b j4 j5 j6 j7 ho0 ho1
                    obtain ⟨xx,hxx⟩:∃ xx,xx = MW (od (2 * k)):=⟨_,rfl⟩
                    obtain ⟨yy,hyy⟩:∃ yy,yy = MW (od (2 * k + 1)):=⟨_,rfl⟩
                    rw [← hxx,← hyy]
                    replace hxx:=hideit hxx
                    replace hyy:=hideit hyy
                    clear k0 k1
                    rcases (by omega:k = 0 ∨ k = 1 ∨ k = 2 ∨ k = 3 ∨ k = 4 ∨ k = 5 ∨ k = 6 ∨ k = 7) with rfl | rfl | rfl | rfl | rfl | rfl | rfl | rfl
                    · have hmx:∀ X:World,Calls Tryd.prog 71 #[.agg (row 16 (wv (F 0))).toArray,.int .i64 0,.int .i64 4,.int .i64 8,.int .i64 12,.int .u64 (xx.toNat:Int),.int .u64 (yy.toNat:Int)] X fun e w'=>e = .returned (.agg (row 16 (wv (F (0 + 1)))).toArray) ∧ Below X.heap.size X w':=fun X=>by
                        rw [hFs.out 0,← hxx.out,← hyy.out]
                        exact rmix_any (F 0) 0 4 8 12 xx yy (by omega) (by omega) (by omega) (by omega) (by omega) (by omega) (by omega) (by omega) (by omega) (by omega) X
                      replace hmx:=hideit hmx
                      go_upto_region 23 with (fail)
                      refine wp_region_lit ?_
                      refine wpList_load_mid rfl 25 (.tmp 10) rfl (b + 4) 0 rfl (row 16 (wv (F 0))) _ HQ6.out.vv.range Tryd.underlying25 rfl (by rw [row_length]; exact info46) ?_
                      simp only [jk,jq,jv,jy]
                      refine wpList_run rfl (.int .i64 0) (by simp [go_sem] <;> rfl) ?_
                      simp only [jk,jq,jv,jy]
                      refine wpList_run rfl (.int .i64 0) (by simp [go_sem] <;> rfl) ?_
                      simp only [jk,jq,jv,jy]
                      refine wpList_run rfl (.int .i64 4) (by simp [go_sem] <;> rfl) ?_
                      simp only [jk,jq,jv,jy]
                      refine wpList_run rfl (.int .i64 0) (by simp [go_sem] <;> rfl) ?_
                      simp only [jk,jq,jv,jy]
                      refine wpList_run rfl (.int .i64 8) (by simp [go_sem] <;> rfl) ?_
                      simp only [jk,jq,jv,jy]
                      refine wpList_run rfl (.int .i64 0) (by simp [go_sem] <;> rfl) ?_
                      simp only [jk,jq,jv,jy]
                      refine wpList_run rfl (.int .i64 12) (by simp [go_sem] <;> rfl) ?_
                      simp only [jk,jq,jv,jy]
                      refine wpList_run rfl (.int .u64 (xx.toNat:Int)) (by simp [go_sem]) ?_
                      simp only [jk,jq,jv,jy]
                      refine wpList_run rfl (.int .u64 (yy.toNat:Int)) (by simp [go_sem]) ?_
                      simp only [jk,jq,jv,jy]
                      refine wpList_call rfl (by simp [go_sem]) ((hmx.out _).mono ?_)
                      rintro e Y ⟨rfl,hY⟩
                      refine ⟨_,rfl,?_⟩
                      simp only [jk,jq,jv,jy]
                      have HQ7:=hideit (HQ6.out.carry hY)
                      clear hY HQ6 hmx
                      refine wpList_store_mid rfl 25 (.tmp 10) (.tmp 101) rfl (b + 4) 0 (row 16 (wv (F (0 + 1)))).toArray rfl rfl (by rw [row_size]; exact HQ7.out.vv.there) (by rw [row_size]; exact info46) (row_one fun _ _=>rfl) ?_
                      have HQ8:=hideit (HQ7.out.setVs hb0 (F (0 + 1)))
                      simp only [Act.put]
                      go_wp2
                      exact ⟨⟨0 + 1,by omega,by go_num,HQ8.out⟩,by simp [intOf]⟩
                    · have hmx:∀ X:World,Calls Tryd.prog 71 #[.agg (row 16 (wv (F 1))).toArray,.int .i64 1,.int .i64 5,.int .i64 9,.int .i64 13,.int .u64 (xx.toNat:Int),.int .u64 (yy.toNat:Int)] X fun e w'=>e = .returned (.agg (row 16 (wv (F (1 + 1)))).toArray) ∧ Below X.heap.size X w':=fun X=>by
                        rw [hFs.out 1,← hxx.out,← hyy.out]
                        exact rmix_any (F 1) 1 5 9 13 xx yy (by omega) (by omega) (by omega) (by omega) (by omega) (by omega) (by omega) (by omega) (by omega) (by omega) X
                      replace hmx:=hideit hmx
                      go_upto_region 23 with (fail)
                      refine wp_region_lit ?_
                      refine wpList_load_mid rfl 25 (.tmp 10) rfl (b + 4) 0 rfl (row 16 (wv (F 1))) _ HQ6.out.vv.range Tryd.underlying25 rfl (by rw [row_length]; exact info46) ?_
                      simp only [jk,jq,jv,jy]
                      refine wpList_run rfl (.int .i64 1) (by simp [go_sem] <;> rfl) ?_
                      simp only [jk,jq,jv,jy]
                      refine wpList_run rfl (.int .i64 1) (by simp [go_sem] <;> rfl) ?_
                      simp only [jk,jq,jv,jy]
                      refine wpList_run rfl (.int .i64 5) (by simp [go_sem] <;> rfl) ?_
                      simp only [jk,jq,jv,jy]
                      refine wpList_run rfl (.int .i64 1) (by simp [go_sem] <;> rfl) ?_
                      simp only [jk,jq,jv,jy]
                      refine wpList_run rfl (.int .i64 9) (by simp [go_sem] <;> rfl) ?_
                      simp only [jk,jq,jv,jy]
                      refine wpList_run rfl (.int .i64 1) (by simp [go_sem] <;> rfl) ?_
                      simp only [jk,jq,jv,jy]
                      refine wpList_run rfl (.int .i64 13) (by simp [go_sem] <;> rfl) ?_
                      simp only [jk,jq,jv,jy]
                      refine wpList_run rfl (.int .u64 (xx.toNat:Int)) (by simp [go_sem]) ?_
                      simp only [jk,jq,jv,jy]
                      refine wpList_run rfl (.int .u64 (yy.toNat:Int)) (by simp [go_sem]) ?_
                      simp only [jk,jq,jv,jy]
                      refine wpList_call rfl (by simp [go_sem]) ((hmx.out _).mono ?_)
                      rintro e Y ⟨rfl,hY⟩
                      refine ⟨_,rfl,?_⟩
                      simp only [jk,jq,jv,jy]
                      have HQ7:=hideit (HQ6.out.carry hY)
                      clear hY HQ6 hmx
                      refine wpList_store_mid rfl 25 (.tmp 10) (.tmp 101) rfl (b + 4) 0 (row 16 (wv (F (1 + 1)))).toArray rfl rfl (by rw [row_size]; exact HQ7.out.vv.there) (by rw [row_size]; exact info46) (row_one fun _ _=>rfl) ?_
                      have HQ8:=hideit (HQ7.out.setVs hb0 (F (1 + 1)))
                      simp only [Act.put]
                      go_wp2
                      exact ⟨⟨1 + 1,by omega,by go_num,HQ8.out⟩,by simp [intOf]⟩
                    · have hmx:∀ X:World,Calls Tryd.prog 71 #[.agg (row 16 (wv (F 2))).toArray,.int .i64 2,.int .i64 6,.int .i64 10,.int .i64 14,.int .u64 (xx.toNat:Int),.int .u64 (yy.toNat:Int)] X fun e w'=>e = .returned (.agg (row 16 (wv (F (2 + 1)))).toArray) ∧ Below X.heap.size X w':=fun X=>by
                        rw [hFs.out 2,← hxx.out,← hyy.out]
                        exact rmix_any (F 2) 2 6 10 14 xx yy (by omega) (by omega) (by omega) (by omega) (by omega) (by omega) (by omega) (by omega) (by omega) (by omega) X
                      replace hmx:=hideit hmx
                      go_upto_region 23 with (fail)
                      refine wp_region_lit ?_
                      refine wpList_load_mid rfl 25 (.tmp 10) rfl (b + 4) 0 rfl (row 16 (wv (F 2))) _ HQ6.out.vv.range Tryd.underlying25 rfl (by rw [row_length]; exact info46) ?_
                      simp only [jk,jq,jv,jy]
                      refine wpList_run rfl (.int .i64 2) (by simp [go_sem] <;> rfl) ?_
                      simp only [jk,jq,jv,jy]
                      refine wpList_run rfl (.int .i64 2) (by simp [go_sem] <;> rfl) ?_
                      simp only [jk,jq,jv,jy]
                      refine wpList_run rfl (.int .i64 6) (by simp [go_sem] <;> rfl) ?_
                      simp only [jk,jq,jv,jy]
                      refine wpList_run rfl (.int .i64 2) (by simp [go_sem] <;> rfl) ?_
                      simp only [jk,jq,jv,jy]
                      refine wpList_run rfl (.int .i64 10) (by simp [go_sem] <;> rfl) ?_
                      simp only [jk,jq,jv,jy]
                      refine wpList_run rfl (.int .i64 2) (by simp [go_sem] <;> rfl) ?_
                      simp only [jk,jq,jv,jy]
                      refine wpList_run rfl (.int .i64 14) (by simp [go_sem] <;> rfl) ?_
                      simp only [jk,jq,jv,jy]
                      refine wpList_run rfl (.int .u64 (xx.toNat:Int)) (by simp [go_sem]) ?_
                      simp only [jk,jq,jv,jy]
                      refine wpList_run rfl (.int .u64 (yy.toNat:Int)) (by simp [go_sem]) ?_
                      simp only [jk,jq,jv,jy]
                      refine wpList_call rfl (by simp [go_sem]) ((hmx.out _).mono ?_)
                      rintro e Y ⟨rfl,hY⟩
                      refine ⟨_,rfl,?_⟩
                      simp only [jk,jq,jv,jy]
                      have HQ7:=hideit (HQ6.out.carry hY)
                      clear hY HQ6 hmx
                      refine wpList_store_mid rfl 25 (.tmp 10) (.tmp 101) rfl (b + 4) 0 (row 16 (wv (F (2 + 1)))).toArray rfl rfl (by rw [row_size]; exact HQ7.out.vv.there) (by rw [row_size]; exact info46) (row_one fun _ _=>rfl) ?_
                      have HQ8:=hideit (HQ7.out.setVs hb0 (F (2 + 1)))
                      simp only [Act.put]
                      go_wp2
                      exact ⟨⟨2 + 1,by omega,by go_num,HQ8.out⟩,by simp [intOf]⟩
                    · have hmx:∀ X:World,Calls Tryd.prog 71 #[.agg (row 16 (wv (F 3))).toArray,.int .i64 3,.int .i64 7,.int .i64 11,.int .i64 15,.int .u64 (xx.toNat:Int),.int .u64 (yy.toNat:Int)] X fun e w'=>e = .returned (.agg (row 16 (wv (F (3 + 1)))).toArray) ∧ Below X.heap.size X w':=fun X=>by
                        rw [hFs.out 3,← hxx.out,← hyy.out]
                        exact rmix_any (F 3) 3 7 11 15 xx yy (by omega) (by omega) (by omega) (by omega) (by omega) (by omega) (by omega) (by omega) (by omega) (by omega) X
                      replace hmx:=hideit hmx
                      go_upto_region 23 with (fail)
                      refine wp_region_lit ?_
                      refine wpList_load_mid rfl 25 (.tmp 10) rfl (b + 4) 0 rfl (row 16 (wv (F 3))) _ HQ6.out.vv.range Tryd.underlying25 rfl (by rw [row_length]; exact info46) ?_
                      simp only [jk,jq,jv,jy]
                      refine wpList_run rfl (.int .i64 3) (by simp [go_sem] <;> rfl) ?_
                      simp only [jk,jq,jv,jy]
                      refine wpList_run rfl (.int .i64 3) (by simp [go_sem] <;> rfl) ?_
                      simp only [jk,jq,jv,jy]
                      refine wpList_run rfl (.int .i64 7) (by simp [go_sem] <;> rfl) ?_
                      simp only [jk,jq,jv,jy]
                      refine wpList_run rfl (.int .i64 3) (by simp [go_sem] <;> rfl) ?_
                      simp only [jk,jq,jv,jy]
                      refine wpList_run rfl (.int .i64 11) (by simp [go_sem] <;> rfl) ?_
                      simp only [jk,jq,jv,jy]
                      refine wpList_run rfl (.int .i64 3) (by simp [go_sem] <;> rfl) ?_
                      simp only [jk,jq,jv,jy]
                      refine wpList_run rfl (.int .i64 15) (by simp [go_sem] <;> rfl) ?_
                      simp only [jk,jq,jv,jy]
                      refine wpList_run rfl (.int .u64 (xx.toNat:Int)) (by simp [go_sem]) ?_
                      simp only [jk,jq,jv,jy]
                      refine wpList_run rfl (.int .u64 (yy.toNat:Int)) (by simp [go_sem]) ?_
                      simp only [jk,jq,jv,jy]
                      refine wpList_call rfl (by simp [go_sem]) ((hmx.out _).mono ?_)
                      rintro e Y ⟨rfl,hY⟩
                      refine ⟨_,rfl,?_⟩
                      simp only [jk,jq,jv,jy]
                      have HQ7:=hideit (HQ6.out.carry hY)
                      clear hY HQ6 hmx
                      refine wpList_store_mid rfl 25 (.tmp 10) (.tmp 101) rfl (b + 4) 0 (row 16 (wv (F (3 + 1)))).toArray rfl rfl (by rw [row_size]; exact HQ7.out.vv.there) (by rw [row_size]; exact info46) (row_one fun _ _=>rfl) ?_
                      have HQ8:=hideit (HQ7.out.setVs hb0 (F (3 + 1)))
                      simp only [Act.put]
                      go_wp2
                      exact ⟨⟨3 + 1,by omega,by go_num,HQ8.out⟩,by simp [intOf]⟩
                    · have hmx:∀ X:World,Calls Tryd.prog 71 #[.agg (row 16 (wv (F 4))).toArray,.int .i64 0,.int .i64 5,.int .i64 10,.int .i64 15,.int .u64 (xx.toNat:Int),.int .u64 (yy.toNat:Int)] X fun e w'=>e = .returned (.agg (row 16 (wv (F (4 + 1)))).toArray) ∧ Below X.heap.size X w':=fun X=>by
                        rw [hFs.out 4,← hxx.out,← hyy.out]
                        exact rmix_any (F 4) 0 5 10 15 xx yy (by omega) (by omega) (by omega) (by omega) (by omega) (by omega) (by omega) (by omega) (by omega) (by omega) X
                      replace hmx:=hideit hmx
                      go_upto_region 24 with (fail)
                      refine wp_region_lit ?_
                      refine wpList_load_mid rfl 25 (.tmp 10) rfl (b + 4) 0 rfl (row 16 (wv (F 4))) _ HQ6.out.vv.range Tryd.underlying25 rfl (by rw [row_length]; exact info46) ?_
                      simp only [jk,jq,jv,jy]
                      refine wpList_run rfl (.int .i64 4) (by simp [go_sem] <;> rfl) ?_
                      simp only [jk,jq,jv,jy]
                      refine wpList_run rfl (.int .i64 0) (by simp [go_sem] <;> rfl) ?_
                      simp only [jk,jq,jv,jy]
                      refine wpList_run rfl (.int .i64 4) (by simp [go_sem] <;> rfl) ?_
                      simp only [jk,jq,jv,jy]
                      refine wpList_run rfl (.int .i64 5) (by simp [go_sem] <;> rfl) ?_
                      simp only [jk,jq,jv,jy]
                      refine wpList_run rfl (.int .i64 1) (by simp [go_sem] <;> rfl) ?_
                      simp only [jk,jq,jv,jy]
                      refine wpList_run rfl (.int .i64 5) (by simp [go_sem] <;> rfl) ?_
                      simp only [jk,jq,jv,jy]
                      refine wpList_run rfl (.int .i64 4) (by simp [go_sem] <;> rfl) ?_
                      simp only [jk,jq,jv,jy]
                      refine wpList_run rfl (.int .i64 6) (by simp [go_sem] <;> rfl) ?_
                      simp only [jk,jq,jv,jy]
                      refine wpList_run rfl (.int .i64 2) (by simp [go_sem] <;> rfl) ?_
                      simp only [jk,jq,jv,jy]
                      refine wpList_run rfl (.int .i64 10) (by simp [go_sem] <;> rfl) ?_
                      simp only [jk,jq,jv,jy]
                      refine wpList_run rfl (.int .i64 4) (by simp [go_sem] <;> rfl) ?_
                      simp only [jk,jq,jv,jy]
                      refine wpList_run rfl (.int .i64 7) (by simp [go_sem] <;> rfl) ?_
                      simp only [jk,jq,jv,jy]
                      refine wpList_run rfl (.int .i64 3) (by simp [go_sem] <;> rfl) ?_
                      simp only [jk,jq,jv,jy]
                      refine wpList_run rfl (.int .i64 15) (by simp [go_sem] <;> rfl) ?_
                      simp only [jk,jq,jv,jy]
                      refine wpList_run rfl (.int .u64 (xx.toNat:Int)) (by simp [go_sem]) ?_
                      simp only [jk,jq,jv,jy]
                      refine wpList_run rfl (.int .u64 (yy.toNat:Int)) (by simp [go_sem]) ?_
                      simp only [jk,jq,jv,jy]
                      refine wpList_call rfl (by simp [go_sem]) ((hmx.out _).mono ?_)
                      rintro e Y ⟨rfl,hY⟩
                      refine ⟨_,rfl,?_⟩
                      simp only [jk,jq,jv,jy]
                      have HQ7:=hideit (HQ6.out.carry hY)
                      clear hY HQ6 hmx
                      refine wpList_store_mid rfl 25 (.tmp 10) (.tmp 119) rfl (b + 4) 0 (row 16 (wv (F (4 + 1)))).toArray rfl rfl (by rw [row_size]; exact HQ7.out.vv.there) (by rw [row_size]; exact info46) (row_one fun _ _=>rfl) ?_
                      have HQ8:=hideit (HQ7.out.setVs hb0 (F (4 + 1)))
                      simp only [Act.put]
                      go_wp2
                      exact ⟨⟨4 + 1,by omega,by go_num,HQ8.out⟩,by simp [intOf]⟩
                    · have hmx:∀ X:World,Calls Tryd.prog 71 #[.agg (row 16 (wv (F 5))).toArray,.int .i64 1,.int .i64 6,.int .i64 11,.int .i64 12,.int .u64 (xx.toNat:Int),.int .u64 (yy.toNat:Int)] X fun e w'=>e = .returned (.agg (row 16 (wv (F (5 + 1)))).toArray) ∧ Below X.heap.size X w':=fun X=>by
                        rw [hFs.out 5,← hxx.out,← hyy.out]
                        exact rmix_any (F 5) 1 6 11 12 xx yy (by omega) (by omega) (by omega) (by omega) (by omega) (by omega) (by omega) (by omega) (by omega) (by omega) X
                      replace hmx:=hideit hmx
                      go_upto_region 24 with (fail)
                      refine wp_region_lit ?_
                      refine wpList_load_mid rfl 25 (.tmp 10) rfl (b + 4) 0 rfl (row 16 (wv (F 5))) _ HQ6.out.vv.range Tryd.underlying25 rfl (by rw [row_length]; exact info46) ?_
                      simp only [jk,jq,jv,jy]
                      refine wpList_run rfl (.int .i64 5) (by simp [go_sem] <;> rfl) ?_
                      simp only [jk,jq,jv,jy]
                      refine wpList_run rfl (.int .i64 1) (by simp [go_sem] <;> rfl) ?_
                      simp only [jk,jq,jv,jy]
                      refine wpList_run rfl (.int .i64 5) (by simp [go_sem] <;> rfl) ?_
                      simp only [jk,jq,jv,jy]
                      refine wpList_run rfl (.int .i64 6) (by simp [go_sem] <;> rfl) ?_
                      simp only [jk,jq,jv,jy]
                      refine wpList_run rfl (.int .i64 2) (by simp [go_sem] <;> rfl) ?_
                      simp only [jk,jq,jv,jy]
                      refine wpList_run rfl (.int .i64 6) (by simp [go_sem] <;> rfl) ?_
                      simp only [jk,jq,jv,jy]
                      refine wpList_run rfl (.int .i64 5) (by simp [go_sem] <;> rfl) ?_
                      simp only [jk,jq,jv,jy]
                      refine wpList_run rfl (.int .i64 7) (by simp [go_sem] <;> rfl) ?_
                      simp only [jk,jq,jv,jy]
                      refine wpList_run rfl (.int .i64 3) (by simp [go_sem] <;> rfl) ?_
                      simp only [jk,jq,jv,jy]
                      refine wpList_run rfl (.int .i64 11) (by simp [go_sem] <;> rfl) ?_
                      simp only [jk,jq,jv,jy]
                      refine wpList_run rfl (.int .i64 5) (by simp [go_sem] <;> rfl) ?_
                      simp only [jk,jq,jv,jy]
                      refine wpList_run rfl (.int .i64 8) (by simp [go_sem] <;> rfl) ?_
                      simp only [jk,jq,jv,jy]
                      refine wpList_run rfl (.int .i64 0) (by simp [go_sem] <;> rfl) ?_
                      simp only [jk,jq,jv,jy]
                      refine wpList_run rfl (.int .i64 12) (by simp [go_sem] <;> rfl) ?_
                      simp only [jk,jq,jv,jy]
                      refine wpList_run rfl (.int .u64 (xx.toNat:Int)) (by simp [go_sem]) ?_
                      simp only [jk,jq,jv,jy]
                      refine wpList_run rfl (.int .u64 (yy.toNat:Int)) (by simp [go_sem]) ?_
                      simp only [jk,jq,jv,jy]
                      refine wpList_call rfl (by simp [go_sem]) ((hmx.out _).mono ?_)
                      rintro e Y ⟨rfl,hY⟩
                      refine ⟨_,rfl,?_⟩
                      simp only [jk,jq,jv,jy]
                      have HQ7:=hideit (HQ6.out.carry hY)
                      clear hY HQ6 hmx
                      refine wpList_store_mid rfl 25 (.tmp 10) (.tmp 119) rfl (b + 4) 0 (row 16 (wv (F (5 + 1)))).toArray rfl rfl (by rw [row_size]; exact HQ7.out.vv.there) (by rw [row_size]; exact info46) (row_one fun _ _=>rfl) ?_
                      have HQ8:=hideit (HQ7.out.setVs hb0 (F (5 + 1)))
                      simp only [Act.put]
                      go_wp2
                      exact ⟨⟨5 + 1,by omega,by go_num,HQ8.out⟩,by simp [intOf]⟩
                    · have hmx:∀ X:World,Calls Tryd.prog 71 #[.agg (row 16 (wv (F 6))).toArray,.int .i64 2,.int .i64 7,.int .i64 8,.int .i64 13,.int .u64 (xx.toNat:Int),.int .u64 (yy.toNat:Int)] X fun e w'=>e = .returned (.agg (row 16 (wv (F (6 + 1)))).toArray) ∧ Below X.heap.size X w':=fun X=>by
                        rw [hFs.out 6,← hxx.out,← hyy.out]
                        exact rmix_any (F 6) 2 7 8 13 xx yy (by omega) (by omega) (by omega) (by omega) (by omega) (by omega) (by omega) (by omega) (by omega) (by omega) X
                      replace hmx:=hideit hmx
                      go_upto_region 24 with (fail)
                      refine wp_region_lit ?_
                      refine wpList_load_mid rfl 25 (.tmp 10) rfl (b + 4) 0 rfl (row 16 (wv (F 6))) _ HQ6.out.vv.range Tryd.underlying25 rfl (by rw [row_length]; exact info46) ?_
                      simp only [jk,jq,jv,jy]
                      refine wpList_run rfl (.int .i64 6) (by simp [go_sem] <;> rfl) ?_
                      simp only [jk,jq,jv,jy]
                      refine wpList_run rfl (.int .i64 2) (by simp [go_sem] <;> rfl) ?_
                      simp only [jk,jq,jv,jy]
                      refine wpList_run rfl (.int .i64 6) (by simp [go_sem] <;> rfl) ?_
                      simp only [jk,jq,jv,jy]
                      refine wpList_run rfl (.int .i64 7) (by simp [go_sem] <;> rfl) ?_
                      simp only [jk,jq,jv,jy]
                      refine wpList_run rfl (.int .i64 3) (by simp [go_sem] <;> rfl) ?_
                      simp only [jk,jq,jv,jy]
                      refine wpList_run rfl (.int .i64 7) (by simp [go_sem] <;> rfl) ?_
                      simp only [jk,jq,jv,jy]
                      refine wpList_run rfl (.int .i64 6) (by simp [go_sem] <;> rfl) ?_
                      simp only [jk,jq,jv,jy]
                      refine wpList_run rfl (.int .i64 8) (by simp [go_sem] <;> rfl) ?_
                      simp only [jk,jq,jv,jy]
                      refine wpList_run rfl (.int .i64 0) (by simp [go_sem] <;> rfl) ?_
                      simp only [jk,jq,jv,jy]
                      refine wpList_run rfl (.int .i64 8) (by simp [go_sem] <;> rfl) ?_
                      simp only [jk,jq,jv,jy]
                      refine wpList_run rfl (.int .i64 6) (by simp [go_sem] <;> rfl) ?_
                      simp only [jk,jq,jv,jy]
                      refine wpList_run rfl (.int .i64 9) (by simp [go_sem] <;> rfl) ?_
                      simp only [jk,jq,jv,jy]
                      refine wpList_run rfl (.int .i64 1) (by simp [go_sem] <;> rfl) ?_
                      simp only [jk,jq,jv,jy]
                      refine wpList_run rfl (.int .i64 13) (by simp [go_sem] <;> rfl) ?_
                      simp only [jk,jq,jv,jy]
                      refine wpList_run rfl (.int .u64 (xx.toNat:Int)) (by simp [go_sem]) ?_
                      simp only [jk,jq,jv,jy]
                      refine wpList_run rfl (.int .u64 (yy.toNat:Int)) (by simp [go_sem]) ?_
                      simp only [jk,jq,jv,jy]
                      refine wpList_call rfl (by simp [go_sem]) ((hmx.out _).mono ?_)
                      rintro e Y ⟨rfl,hY⟩
                      refine ⟨_,rfl,?_⟩
                      simp only [jk,jq,jv,jy]
                      have HQ7:=hideit (HQ6.out.carry hY)
                      clear hY HQ6 hmx
                      refine wpList_store_mid rfl 25 (.tmp 10) (.tmp 119) rfl (b + 4) 0 (row 16 (wv (F (6 + 1)))).toArray rfl rfl (by rw [row_size]; exact HQ7.out.vv.there) (by rw [row_size]; exact info46) (row_one fun _ _=>rfl) ?_
                      have HQ8:=hideit (HQ7.out.setVs hb0 (F (6 + 1)))
                      simp only [Act.put]
                      go_wp2
                      exact ⟨⟨6 + 1,by omega,by go_num,HQ8.out⟩,by simp [intOf]⟩
                    · have hmx:∀ X:World,Calls Tryd.prog 71 #[.agg (row 16 (wv (F 7))).toArray,.int .i64 3,.int .i64 4,.int .i64 9,.int .i64 14,.int .u64 (xx.toNat:Int),.int .u64 (yy.toNat:Int)] X fun e w'=>e = .returned (.agg (row 16 (wv (F (7 + 1)))).toArray) ∧ Below X.heap.size X w':=fun X=>by
                        rw [hFs.out 7,← hxx.out,← hyy.out]
                        exact rmix_any (F 7) 3 4 9 14 xx yy (by omega) (by omega) (by omega) (by omega) (by omega) (by omega) (by omega) (by omega) (by omega) (by omega) X
                      replace hmx:=hideit hmx
                      go_upto_region 24 with (fail)
                      refine wp_region_lit ?_
                      refine wpList_load_mid rfl 25 (.tmp 10) rfl (b + 4) 0 rfl (row 16 (wv (F 7))) _ HQ6.out.vv.range Tryd.underlying25 rfl (by rw [row_length]; exact info46) ?_
                      simp only [jk,jq,jv,jy]
                      refine wpList_run rfl (.int .i64 7) (by simp [go_sem] <;> rfl) ?_
                      simp only [jk,jq,jv,jy]
                      refine wpList_run rfl (.int .i64 3) (by simp [go_sem] <;> rfl) ?_
                      simp only [jk,jq,jv,jy]
                      refine wpList_run rfl (.int .i64 7) (by simp [go_sem] <;> rfl) ?_
                      simp only [jk,jq,jv,jy]
                      refine wpList_run rfl (.int .i64 8) (by simp [go_sem] <;> rfl) ?_
                      simp only [jk,jq,jv,jy]
                      refine wpList_run rfl (.int .i64 0) (by simp [go_sem] <;> rfl) ?_
                      simp only [jk,jq,jv,jy]
                      refine wpList_run rfl (.int .i64 4) (by simp [go_sem] <;> rfl) ?_
                      simp only [jk,jq,jv,jy]
                      refine wpList_run rfl (.int .i64 7) (by simp [go_sem] <;> rfl) ?_
                      simp only [jk,jq,jv,jy]
                      refine wpList_run rfl (.int .i64 9) (by simp [go_sem] <;> rfl) ?_
                      simp only [jk,jq,jv,jy]
                      refine wpList_run rfl (.int .i64 1) (by simp [go_sem] <;> rfl) ?_
                      simp only [jk,jq,jv,jy]
                      refine wpList_run rfl (.int .i64 9) (by simp [go_sem] <;> rfl) ?_
                      simp only [jk,jq,jv,jy]
                      refine wpList_run rfl (.int .i64 7) (by simp [go_sem] <;> rfl) ?_
                      simp only [jk,jq,jv,jy]
                      refine wpList_run rfl (.int .i64 10) (by simp [go_sem] <;> rfl) ?_
                      simp only [jk,jq,jv,jy]
                      refine wpList_run rfl (.int .i64 2) (by simp [go_sem] <;> rfl) ?_
                      simp only [jk,jq,jv,jy]
                      refine wpList_run rfl (.int .i64 14) (by simp [go_sem] <;> rfl) ?_
                      simp only [jk,jq,jv,jy]
                      refine wpList_run rfl (.int .u64 (xx.toNat:Int)) (by simp [go_sem]) ?_
                      simp only [jk,jq,jv,jy]
                      refine wpList_run rfl (.int .u64 (yy.toNat:Int)) (by simp [go_sem]) ?_
                      simp only [jk,jq,jv,jy]
                      refine wpList_call rfl (by simp [go_sem]) ((hmx.out _).mono ?_)
                      rintro e Y ⟨rfl,hY⟩
                      refine ⟨_,rfl,?_⟩
                      simp only [jk,jq,jv,jy]
                      have HQ7:=hideit (HQ6.out.carry hY)
                      clear hY HQ6 hmx
                      refine wpList_store_mid rfl 25 (.tmp 10) (.tmp 119) rfl (b + 4) 0 (row 16 (wv (F (7 + 1)))).toArray rfl rfl (by rw [row_size]; exact HQ7.out.vv.there) (by rw [row_size]; exact info46) (row_one fun _ _=>rfl) ?_
                      have HQ8:=hideit (HQ7.out.setVs hb0 (F (7 + 1)))
                      simp only [Act.put]
                      go_wp2
                      exact ⟨⟨7 + 1,by omega,by go_num,HQ8.out⟩,by simp [intOf]⟩
                  · obtain rfl:k = 8:=by omega
                    have HQ9:=HQ
                    rw [hF8.out] at HQ9
                    clear HQ
                    go_wp2
                    exact ⟨⟨r + 1,by omega,by go_num,HQ9.out⟩,by simp [intOf]; omega⟩
              · have i12:¬ (r:Int) < 12:=by omega
                have hr12:r = 12:=by omega
                have HQC:QR w b (fun j=>if j < 0 then R j else h j) p MW (V 12) wr:=by
                  have hh:=HQ.out
                  rw [hr12] at hh
                  exact ⟨hh.ext,hh.hh.congr fun j _=>by simp [wv],hh.pp,hh.res,hh.mm,hh.vv⟩
                replace HQC:=hideit HQC
                clear HQ hr12
                go_wp2
                go_loopw [19] (fun i wr=>∃ n:Nat,n ≤ 8 ∧ i = .int .i64 n ∧ QR w b (fun j=>if j < n then R j else h j) p MW (V 12) wr) (fun i _=>8 - (intOf i).toNat)
                case atStart=>exact ⟨0,by omega,rfl,HQC.out⟩
                case round=>
                  clear HQC
                  obtain ⟨n,hn,rfl,hQ⟩:=hrel
                  have HQ:=hideit hQ
                  clear hQ
                  by_cases hlt:n < 8
                  · have i0:(0:Int) ≤ (n:Int):=by omega
                    have i1:(n:Int) < 8:=by omega
                    have i2:(n:Int) < 16:=by omega
                    have i3:(0:Int) ≤ 8 + (n:Int):=by omega
                    have i4:8 + (n:Int) < 16:=by omega
                    have t8:(8 + (n:Int)).toNat = n + 8:=by omega
                    have hne:=kept_ne wr.drew
                    have e1:∀ k:Kept (Ext wr.drew),k.w.cell? ⟨b,n,none⟩ = some (.int .u64 ((h n).toNat:Int)):=fun k=>by
                      have:=HQ.out.hh.kept n hlt k
                      simpa [wv] using this
                    have e2:∀ k:Kept (Ext wr.drew),k.w.cell? ⟨b + 4,n,none⟩ = some (.int .u64 ((V 12 n).toNat:Int)):=fun k=>HQ.out.vv.kept n (by omega) k
                    have e3:∀ k:Kept (Ext wr.drew),k.w.cell? ⟨b + 4,n + 8,none⟩ = some (.int .u64 ((V 12 (n + 8)).toNat:Int)):=fun k=>HQ.out.vv.kept (n + 8) (by omega) k
                    have e4:∀ k:Kept (Ext wr.drew),k.w.cell? ⟨b + 4,8 + n,none⟩ = some (.int .u64 ((V 12 (n + 8)).toNat:Int)):=fun k=>by
                      rw [Nat.add_comm 8 n]
                      exact e3 k
                    have hx1:=xW_fact (h n) (V 12 n)
                    have hx2:=xW_fact (xW (h n) (V 12 n)) (V 12 (n + 8))
                    rw [xW_assoc,← hRj.out n] at hx2
                    go_upto_region 28 with (fail)
                    refine wp_region_late 13 (by kernel_rfl) (by kernel_rfl) (by decide) ?_
                    simp only [List.take_succ_cons,List.take_zero,List.drop_succ_cons,List.drop_zero]
                    refine wpStrong_run 13 rfl ?_
                    simp only [List.take_succ_cons,List.take_zero,List.drop_succ_cons,List.drop_zero]
                    repeat (go_big_quiet_step (fail))
                    refine wpQuiet_nil ?_
                    refine wpStrong_nil ?_
                    intro X hX
                    have hwX:Ext wr X:=Ext.trans (Below.refl _ _).drew hX
                    have HQ':=hideit (HQ.out.carry hwX)
                    clear hwX hX HQ hne e1 e2 e3 e4 hx1 hx2
                    have eX:=HQ'.out.hh.1 n hlt
                    have gX:=HQ'.out.hh.2.1 n hlt
                    have HQ2:QR w b (fun j=>if j < n + 1 then R j else h j) p MW (V 12) (X.setCell ⟨b,n,none⟩ (.int .u64 ((R n).toNat:Int))):=by
                      have hh:=HQ'.out.setH hb0 n (R n)
                      refine ⟨hh.ext,hh.hh.congr fun j _=>?_,hh.pp,hh.res,hh.mm,hh.vv⟩
                      simp only [wv]
                      by_cases e:j = n
                      · subst e; rw [if_pos rfl,if_pos (by omega)]
                      · rw [if_neg e]
                        by_cases h:j < n
                        · rw [if_pos h,if_pos (by omega)]
                        · rw [if_neg h,if_neg (by omega)]
                    replace HQ2:=hideit HQ2
                    go_wp2
                    exact ⟨⟨n + 1,by omega,by go_num,HQ2.out⟩,by simp [intOf]; omega⟩
                  · obtain rfl:n = 8:=by omega
                    have HR:=hideit (HQ.out.hh.congr (g':=wv R) fun j hj=>by simp only [wv]; rw [if_pos hj])
                    go_wp2_with (first | (refine wpList_load_mid rfl 92 (.tmp 4) rfl _ 0 rfl (row 8 (wv R)) _ HR.out.range Tryd.underlying92 rfl (by rw [row_length]; exact info30) ?_) | (refine wpList_store_mid rfl 92 (.tmp 8) (.tmp 138) rfl _ 0 (row 8 (wv R)).toArray rfl rfl (by rw [row_size]; exact HQ.out.res.there) (by rw [row_size]; exact info30) (row_one fun _ _=>rfl) ?_))
                    exact bodyPost_ret (ret_row Tryd.results61 rfl (HQ.out.res.cells (g':=wv R)) Tryd.underlying92 rfl info30) rfl ⟨rfl,below_setCells _ (by omega) _ _ _ HQ.out.ext⟩
          | false=>
            clear hn14 e14 g14
            go_upto_region 14 with (fail)
            have HQA:QR w b h p MW (V 0) w9:=by
              have hh:=HQ9.out
              refine ⟨hh.ext,hh.hh,hh.pp,hh.res,hh.mm,hh.vv.congr fun j hj=>?_⟩
              simp only [wv]
              rw [hst.out j]
              by_cases a1:j = 14
              · subst a1
                rw [if_neg (show ¬ (14:Nat) = 12 by omega),if_neg (show ¬ (14:Nat) < 8 by omega),if_pos (by omega),if_pos rfl,if_neg (by decide)]
              · rw [if_neg a1]
                by_cases a2:j = 12
                · rw [if_pos a2,if_pos a2]
                · rw [if_neg a2,if_neg a2]
                  by_cases a3:j < 8
                  · rw [if_pos a3,if_pos a3]
                  · rw [if_neg a3,if_neg a3,if_pos (by omega)]
            replace HQA:=hideit HQA
            clear HQ9
            go_wp2
            go_loopw [14] (fun i wr=>∃ r:Nat,r ≤ 12 ∧ i = .int .i64 r ∧ QR w b h p MW (V r) wr) (fun i _=>12 - (intOf i).toNat)
            case atStart=>exact ⟨0,by omega,rfl,HQA.out⟩
            case round=>
              clear HQA
              obtain ⟨r,hr,rfl,hQ⟩:=hrel
              have HQ:=hideit hQ
              clear hQ
              by_cases hlt:r < 12
              · have i0:(0:Int) ≤ (r:Int):=by omega
                have i1:(r:Int) < 12:=by omega
                obtain ⟨q,hq⟩:∃ q,q = r % 10:=⟨_,rfl⟩
                have hq1:(r:Int) % 10 = (q:Int):=by omega
                have hq10:q < 10:=by omega
                have q0:(0:Int) ≤ (q:Int):=by omega
                have hor:Hid (∀ (k:Nat) (X:World),k < 16 → Calls Tryd.prog 70 #[.int .i64 (q:Int),.int .i64 (k:Int)] X fun e w'=>e = .returned (.int .i64 ((ordF r k:Nat):Int)) ∧ w' = X):=fun k X hk=>by
                  have h:=rorder_any q k hq10 hk X
                  have e:ordF r k = dgF (16 * q + k):=by
                    unfold ordF
                    rw [show 16 * r % 160 = 16 * q by omega]
                  rw [e]
                  exact h
                obtain ⟨F,hF⟩:∃ F,F = mixK (V r) MW (ordF r):=⟨_,rfl⟩
                have hFs:Hid (∀ k,F (k + 1) = rowMix (F k) (plF (4 * k)) (plF (4 * k + 1)) (plF (4 * k + 2)) (plF (4 * k + 3)) (MW (ordF r (2 * k))) (MW (ordF r (2 * k + 1)))):=fun k=>by rw [hF]; rfl
                have hF0:V r = F 0:=by rw [hF]; rfl
                have hF8:Hid (F 8 = V (r + 1)):=by rw [hF,hVs.out r]; rfl
                have hol:Hid (∀ j,j < 16 → ordF r j < 16):=fun j hj=>ord_lt r hlt j hj
                obtain ⟨od,hod⟩:∃ od,od = ordF r:=⟨_,rfl⟩
                rw [← hod] at hor hFs hol
                rw [hF0] at HQ
                replace hq:=hideit hq
                clear hF hF0 hod
                go_wp2
                simp only [hq1]
                go_loopw [16] (fun i wr=>∃ k:Nat,k ≤ 8 ∧ i = .int .i64 k ∧ QR w b h p MW (F k) wr) (fun i _=>8 - (intOf i).toNat)
                case atStart=>exact ⟨0,by omega,rfl,HQ.out⟩
                case round=>
                  clear HQ
                  obtain ⟨k,hk,rfl,hQ⟩:=hrel
                  have HQ:=hideit hQ
                  clear hQ
                  by_cases hlk:k < 8
                  · have k0:(0:Int) ≤ (k:Int):=by omega
                    have k1:(k:Int) < 8:=by omega
                    have ho0:=hol.out (2 * k) (by omega)
                    have ho1:=hol.out (2 * k + 1) (by omega)
                    have j4:(0:Int) ≤ ((od (2 * k):Nat):Int):=by omega
                    have j5:((od (2 * k):Nat):Int) < 16:=by omega
                    have j6:(0:Int) ≤ ((od (2 * k + 1):Nat):Int):=by omega
                    have j7:((od (2 * k + 1):Nat):Int) < 16:=by omega
                    have h23a:Hid (∀ X:World,Calls Tryd.prog 70 #[.int .i64 (q:Int),.int .i64 (2 * (k:Int))] X fun e w'=>e = .returned (.int .i64 ((od (2 * k):Nat):Int)) ∧ w' = X):=fun X=>by
                      have h:=hor.out (2 * k) X (by omega)
                      rw [show ((2 * k:Nat):Int) = 2 * (k:Int) by omega] at h
                      exact h
                    have h23b:Hid (∀ X:World,Calls Tryd.prog 70 #[.int .i64 (q:Int),.int .i64 (2 * (k:Int) + 1)] X fun e w'=>e = .returned (.int .i64 ((od (2 * k + 1):Nat):Int)) ∧ w' = X):=fun X=>by
                      have h:=hor.out (2 * k + 1) X (by omega)
                      rw [show ((2 * k + 1:Nat):Int) = 2 * (k:Int) + 1 by omega] at h
                      exact h
                    go_upto_region 21 with (fail)
                    have hne:=kept_ne wr.drew
                    have e0:∀ k':Kept (Ext wr.drew),k'.w.cell? ⟨b + 3,od (2 * k),none⟩ = some (.int .u64 ((MW (od (2 * k))).toNat:Int)):=fun k'=>HQ.out.mm.kept (od (2 * k)) ho0 k'
                    refine wp_region_flo (fun Y=>RowAt (b + 3) 16 (wv MW) Y) (fun Y hY=>HQ.out.mm.carry (Ext.trans (Below.refl _ _).drew hY)) [0,1,2,3,4,5,6,7,8,9,10] [11,12] [13,14] [_,_,_,_,_,_,_,_,_,_,_] (by kernel_rfl) (by kernel_rfl) (by decide) rfl (by decide +kernel) (by decide +kernel) (by decide +kernel) (by decide +kernel) (by decide +kernel) (by decide +kernel) (by decide +kernel) (by decide +kernel) (by decide +kernel) ?_
                    simp only [List.getElem_toArray,List.getElem_cons_zero,List.getElem_cons_succ]
                    refine wpStrong_run 3 rfl ?_
                    simp only [List.take_succ_cons,List.take_zero,List.drop_succ_cons,List.drop_zero]
                    repeat (go_big_quiet_step (fail))
                    refine wpQuiet_nil ?_
                    refine wpStrong_call rfl (fun X=>by simp [go_sem]) (fun X _=>(h23a.out X).mono fun e w' h=>⟨h.1,by rw [h.2]; exact Below.refl _ _⟩) ?_
                    simp only [jk,jq,jv,jy]
                    refine wpStrong_run 6 rfl ?_
                    simp only [List.take_succ_cons,List.take_zero,List.drop_succ_cons,List.drop_zero]
                    repeat (go_big_quiet_step (fail))
                    refine wpQuiet_nil ?_
                    refine wpStrong_call rfl (fun X=>by simp [go_sem]) (fun X _=>(h23b.out X).mono fun e w' h=>⟨h.1,by rw [h.2]; exact Below.refl _ _⟩) ?_
                    simp only [jk,jq,jv,jy]
                    refine wpStrong_nil ?_
                    refine wpF_one _ (.pointer (some ⟨b + 3,od (2 * k + 1),none⟩)) rfl rfl (fun X _=>by simp [go_sem,j6,j7]) ?_
                    simp only [jw,jz,kj,jk,jq,jv,jy]
                    refine wpF_one _ (.int .u64 ((MW (od (2 * k + 1))).toNat:Int)) rfl rfl (fun X hX=>by
                      have e:=hX.1 (od (2 * k + 1)) ho1
                      simp only [wv] at e
                      simp [go_sem,e]) ?_
                    simp only [jw,jz,kj,jk,jq,jv,jy]
                    refine wpF_nil ?_
                    intro X hX
                    have hXm:=HQ.out.mm.carry (Ext.trans (Below.refl _ _).drew hX)
                    refine wpL_val _ (.int .u64 ((MW (od (2 * k))).toNat:Int)) rfl rfl (by simp [go_sem]) hXm ?_
                    simp only [jw,jz,kj,jk,jq,jv,jy]
                    refine wpL_val _ (.int .u64 ((MW (od (2 * k + 1))).toNat:Int)) rfl rfl (by simp [go_sem]) hXm ?_
                    refine wpL_nil ?_
                    simp only [jw,jz,kj,jk,jq,jv,jy]
                    have HQ6:=hideit (HQ.out.carry (Ext.trans (Below.refl _ _).drew hX))
                    clear hXm hX HQ hne e0 h23a h23b j4 j5 j6 j7 ho0 ho1
                    obtain ⟨xx,hxx⟩:∃ xx,xx = MW (od (2 * k)):=⟨_,rfl⟩
                    obtain ⟨yy,hyy⟩:∃ yy,yy = MW (od (2 * k + 1)):=⟨_,rfl⟩
                    rw [← hxx,← hyy]
                    replace hxx:=hideit hxx
                    replace hyy:=hideit hyy
                    clear k0 k1
                    rcases (by omega:k = 0 ∨ k = 1 ∨ k = 2 ∨ k = 3 ∨ k = 4 ∨ k = 5 ∨ k = 6 ∨ k = 7) with rfl | rfl | rfl | rfl | rfl | rfl | rfl | rfl
                    · have hmx:∀ X:World,Calls Tryd.prog 71 #[.agg (row 16 (wv (F 0))).toArray,.int .i64 0,.int .i64 4,.int .i64 8,.int .i64 12,.int .u64 (xx.toNat:Int),.int .u64 (yy.toNat:Int)] X fun e w'=>e = .returned (.agg (row 16 (wv (F (0 + 1)))).toArray) ∧ Below X.heap.size X w':=fun X=>by
                        rw [hFs.out 0,← hxx.out,← hyy.out]
                        exact rmix_any (F 0) 0 4 8 12 xx yy (by omega) (by omega) (by omega) (by omega) (by omega) (by omega) (by omega) (by omega) (by omega) (by omega) X
                      replace hmx:=hideit hmx
                      go_upto_region 23 with (fail)
                      refine wp_region_lit ?_
                      refine wpList_load_mid rfl 25 (.tmp 10) rfl (b + 4) 0 rfl (row 16 (wv (F 0))) _ HQ6.out.vv.range Tryd.underlying25 rfl (by rw [row_length]; exact info46) ?_
                      simp only [jk,jq,jv,jy]
                      refine wpList_run rfl (.int .i64 0) (by simp [go_sem] <;> rfl) ?_
                      simp only [jk,jq,jv,jy]
                      refine wpList_run rfl (.int .i64 0) (by simp [go_sem] <;> rfl) ?_
                      simp only [jk,jq,jv,jy]
                      refine wpList_run rfl (.int .i64 4) (by simp [go_sem] <;> rfl) ?_
                      simp only [jk,jq,jv,jy]
                      refine wpList_run rfl (.int .i64 0) (by simp [go_sem] <;> rfl) ?_
                      simp only [jk,jq,jv,jy]
                      refine wpList_run rfl (.int .i64 8) (by simp [go_sem] <;> rfl) ?_
                      simp only [jk,jq,jv,jy]
                      refine wpList_run rfl (.int .i64 0) (by simp [go_sem] <;> rfl) ?_
                      simp only [jk,jq,jv,jy]
                      refine wpList_run rfl (.int .i64 12) (by simp [go_sem] <;> rfl) ?_
                      simp only [jk,jq,jv,jy]
                      refine wpList_run rfl (.int .u64 (xx.toNat:Int)) (by simp [go_sem]) ?_
                      simp only [jk,jq,jv,jy]
                      refine wpList_run rfl (.int .u64 (yy.toNat:Int)) (by simp [go_sem]) ?_
                      simp only [jk,jq,jv,jy]
                      refine wpList_call rfl (by simp [go_sem]) ((hmx.out _).mono ?_)
                      rintro e Y ⟨rfl,hY⟩
                      refine ⟨_,rfl,?_⟩
                      simp only [jk,jq,jv,jy]
                      have HQ7:=hideit (HQ6.out.carry hY)
                      clear hY HQ6 hmx
                      refine wpList_store_mid rfl 25 (.tmp 10) (.tmp 101) rfl (b + 4) 0 (row 16 (wv (F (0 + 1)))).toArray rfl rfl (by rw [row_size]; exact HQ7.out.vv.there) (by rw [row_size]; exact info46) (row_one fun _ _=>rfl) ?_
                      have HQ8:=hideit (HQ7.out.setVs hb0 (F (0 + 1)))
                      simp only [Act.put]
                      go_wp2
                      exact ⟨⟨0 + 1,by omega,by go_num,HQ8.out⟩,by simp [intOf]⟩
                    · have hmx:∀ X:World,Calls Tryd.prog 71 #[.agg (row 16 (wv (F 1))).toArray,.int .i64 1,.int .i64 5,.int .i64 9,.int .i64 13,.int .u64 (xx.toNat:Int),.int .u64 (yy.toNat:Int)] X fun e w'=>e = .returned (.agg (row 16 (wv (F (1 + 1)))).toArray) ∧ Below X.heap.size X w':=fun X=>by
                        rw [hFs.out 1,← hxx.out,← hyy.out]
                        exact rmix_any (F 1) 1 5 9 13 xx yy (by omega) (by omega) (by omega) (by omega) (by omega) (by omega) (by omega) (by omega) (by omega) (by omega) X
                      replace hmx:=hideit hmx
                      go_upto_region 23 with (fail)
                      refine wp_region_lit ?_
                      refine wpList_load_mid rfl 25 (.tmp 10) rfl (b + 4) 0 rfl (row 16 (wv (F 1))) _ HQ6.out.vv.range Tryd.underlying25 rfl (by rw [row_length]; exact info46) ?_
                      simp only [jk,jq,jv,jy]
                      refine wpList_run rfl (.int .i64 1) (by simp [go_sem] <;> rfl) ?_
                      simp only [jk,jq,jv,jy]
                      refine wpList_run rfl (.int .i64 1) (by simp [go_sem] <;> rfl) ?_
                      simp only [jk,jq,jv,jy]
                      refine wpList_run rfl (.int .i64 5) (by simp [go_sem] <;> rfl) ?_
                      simp only [jk,jq,jv,jy]
                      refine wpList_run rfl (.int .i64 1) (by simp [go_sem] <;> rfl) ?_
                      simp only [jk,jq,jv,jy]
                      refine wpList_run rfl (.int .i64 9) (by simp [go_sem] <;> rfl) ?_
                      simp only [jk,jq,jv,jy]
                      refine wpList_run rfl (.int .i64 1) (by simp [go_sem] <;> rfl) ?_
                      simp only [jk,jq,jv,jy]
                      refine wpList_run rfl (.int .i64 13) (by simp [go_sem] <;> rfl) ?_
                      simp only [jk,jq,jv,jy]
                      refine wpList_run rfl (.int .u64 (xx.toNat:Int)) (by simp [go_sem]) ?_
                      simp only [jk,jq,jv,jy]
                      refine wpList_run rfl (.int .u64 (yy.toNat:Int)) (by simp [go_sem]) ?_
                      simp only [jk,jq,jv,jy]
                      refine wpList_call rfl (by simp [go_sem]) ((hmx.out _).mono ?_)
                      rintro e Y ⟨rfl,hY⟩
                      refine ⟨_,rfl,?_⟩
                      simp only [jk,jq,jv,jy]
                      have HQ7:=hideit (HQ6.out.carry hY)
                      clear hY HQ6 hmx
                      refine wpList_store_mid rfl 25 (.tmp 10) (.tmp 101) rfl (b + 4) 0 (row 16 (wv (F (1 + 1)))).toArray rfl rfl (by rw [row_size]; exact HQ7.out.vv.there) (by rw [row_size]; exact info46) (row_one fun _ _=>rfl) ?_
                      have HQ8:=hideit (HQ7.out.setVs hb0 (F (1 + 1)))
                      simp only [Act.put]
                      go_wp2
                      exact ⟨⟨1 + 1,by omega,by go_num,HQ8.out⟩,by simp [intOf]⟩
                    · have hmx:∀ X:World,Calls Tryd.prog 71 #[.agg (row 16 (wv (F 2))).toArray,.int .i64 2,.int .i64 6,.int .i64 10,.int .i64 14,.int .u64 (xx.toNat:Int),.int .u64 (yy.toNat:Int)] X fun e w'=>e = .returned (.agg (row 16 (wv (F (2 + 1)))).toArray) ∧ Below X.heap.size X w':=fun X=>by
                        rw [hFs.out 2,← hxx.out,← hyy.out]
                        exact rmix_any (F 2) 2 6 10 14 xx yy (by omega) (by omega) (by omega) (by omega) (by omega) (by omega) (by omega) (by omega) (by omega) (by omega) X
                      replace hmx:=hideit hmx
                      go_upto_region 23 with (fail)
                      refine wp_region_lit ?_
                      refine wpList_load_mid rfl 25 (.tmp 10) rfl (b + 4) 0 rfl (row 16 (wv (F 2))) _ HQ6.out.vv.range Tryd.underlying25 rfl (by rw [row_length]; exact info46) ?_
                      simp only [jk,jq,jv,jy]
                      refine wpList_run rfl (.int .i64 2) (by simp [go_sem] <;> rfl) ?_
                      simp only [jk,jq,jv,jy]
                      refine wpList_run rfl (.int .i64 2) (by simp [go_sem] <;> rfl) ?_
                      simp only [jk,jq,jv,jy]
                      refine wpList_run rfl (.int .i64 6) (by simp [go_sem] <;> rfl) ?_
                      simp only [jk,jq,jv,jy]
                      refine wpList_run rfl (.int .i64 2) (by simp [go_sem] <;> rfl) ?_
                      simp only [jk,jq,jv,jy]
                      refine wpList_run rfl (.int .i64 10) (by simp [go_sem] <;> rfl) ?_
                      simp only [jk,jq,jv,jy]
                      refine wpList_run rfl (.int .i64 2) (by simp [go_sem] <;> rfl) ?_
                      simp only [jk,jq,jv,jy]
                      refine wpList_run rfl (.int .i64 14) (by simp [go_sem] <;> rfl) ?_
                      simp only [jk,jq,jv,jy]
                      refine wpList_run rfl (.int .u64 (xx.toNat:Int)) (by simp [go_sem]) ?_
                      simp only [jk,jq,jv,jy]
                      refine wpList_run rfl (.int .u64 (yy.toNat:Int)) (by simp [go_sem]) ?_
                      simp only [jk,jq,jv,jy]
                      refine wpList_call rfl (by simp [go_sem]) ((hmx.out _).mono ?_)
                      rintro e Y ⟨rfl,hY⟩
                      refine ⟨_,rfl,?_⟩
                      simp only [jk,jq,jv,jy]
                      have HQ7:=hideit (HQ6.out.carry hY)
                      clear hY HQ6 hmx
                      refine wpList_store_mid rfl 25 (.tmp 10) (.tmp 101) rfl (b + 4) 0 (row 16 (wv (F (2 + 1)))).toArray rfl rfl (by rw [row_size]; exact HQ7.out.vv.there) (by rw [row_size]; exact info46) (row_one fun _ _=>rfl) ?_
                      have HQ8:=hideit (HQ7.out.setVs hb0 (F (2 + 1)))
                      simp only [Act.put]
                      go_wp2
                      exact ⟨⟨2 + 1,by omega,by go_num,HQ8.out⟩,by simp [intOf]⟩
                    · have hmx:∀ X:World,Calls Tryd.prog 71 #[.agg (row 16 (wv (F 3))).toArray,.int .i64 3,.int .i64 7,.int .i64 11,.int .i64 15,.int .u64 (xx.toNat:Int),.int .u64 (yy.toNat:Int)] X fun e w'=>e = .returned (.agg (row 16 (wv (F (3 + 1)))).toArray) ∧ Below X.heap.size X w':=fun X=>by
                        rw [hFs.out 3,← hxx.out,← hyy.out]
                        exact rmix_any (F 3) 3 7 11 15 xx yy (by omega) (by omega) (by omega) (by omega) (by omega) (by omega) (by omega) (by omega) (by omega) (by omega) X
                      replace hmx:=hideit hmx
                      go_upto_region 23 with (fail)
                      refine wp_region_lit ?_
                      refine wpList_load_mid rfl 25 (.tmp 10) rfl (b + 4) 0 rfl (row 16 (wv (F 3))) _ HQ6.out.vv.range Tryd.underlying25 rfl (by rw [row_length]; exact info46) ?_
                      simp only [jk,jq,jv,jy]
                      refine wpList_run rfl (.int .i64 3) (by simp [go_sem] <;> rfl) ?_
                      simp only [jk,jq,jv,jy]
                      refine wpList_run rfl (.int .i64 3) (by simp [go_sem] <;> rfl) ?_
                      simp only [jk,jq,jv,jy]
                      refine wpList_run rfl (.int .i64 7) (by simp [go_sem] <;> rfl) ?_
                      simp only [jk,jq,jv,jy]
                      refine wpList_run rfl (.int .i64 3) (by simp [go_sem] <;> rfl) ?_
                      simp only [jk,jq,jv,jy]
                      refine wpList_run rfl (.int .i64 11) (by simp [go_sem] <;> rfl) ?_
                      simp only [jk,jq,jv,jy]
                      refine wpList_run rfl (.int .i64 3) (by simp [go_sem] <;> rfl) ?_
                      simp only [jk,jq,jv,jy]
                      refine wpList_run rfl (.int .i64 15) (by simp [go_sem] <;> rfl) ?_
                      simp only [jk,jq,jv,jy]
                      refine wpList_run rfl (.int .u64 (xx.toNat:Int)) (by simp [go_sem]) ?_
                      simp only [jk,jq,jv,jy]
                      refine wpList_run rfl (.int .u64 (yy.toNat:Int)) (by simp [go_sem]) ?_
                      simp only [jk,jq,jv,jy]
                      refine wpList_call rfl (by simp [go_sem]) ((hmx.out _).mono ?_)
                      rintro e Y ⟨rfl,hY⟩
                      refine ⟨_,rfl,?_⟩
                      simp only [jk,jq,jv,jy]
                      have HQ7:=hideit (HQ6.out.carry hY)
                      clear hY HQ6 hmx
                      refine wpList_store_mid rfl 25 (.tmp 10) (.tmp 101) rfl (b + 4) 0 (row 16 (wv (F (3 + 1)))).toArray rfl rfl (by rw [row_size]; exact HQ7.out.vv.there) (by rw [row_size]; exact info46) (row_one fun _ _=>rfl) ?_
                      have HQ8:=hideit (HQ7.out.setVs hb0 (F (3 + 1)))
                      simp only [Act.put]
                      go_wp2
                      exact ⟨⟨3 + 1,by omega,by go_num,HQ8.out⟩,by simp [intOf]⟩
                    · have hmx:∀ X:World,Calls Tryd.prog 71 #[.agg (row 16 (wv (F 4))).toArray,.int .i64 0,.int .i64 5,.int .i64 10,.int .i64 15,.int .u64 (xx.toNat:Int),.int .u64 (yy.toNat:Int)] X fun e w'=>e = .returned (.agg (row 16 (wv (F (4 + 1)))).toArray) ∧ Below X.heap.size X w':=fun X=>by
                        rw [hFs.out 4,← hxx.out,← hyy.out]
                        exact rmix_any (F 4) 0 5 10 15 xx yy (by omega) (by omega) (by omega) (by omega) (by omega) (by omega) (by omega) (by omega) (by omega) (by omega) X
                      replace hmx:=hideit hmx
                      go_upto_region 24 with (fail)
                      refine wp_region_lit ?_
                      refine wpList_load_mid rfl 25 (.tmp 10) rfl (b + 4) 0 rfl (row 16 (wv (F 4))) _ HQ6.out.vv.range Tryd.underlying25 rfl (by rw [row_length]; exact info46) ?_
                      simp only [jk,jq,jv,jy]
                      refine wpList_run rfl (.int .i64 4) (by simp [go_sem] <;> rfl) ?_
                      simp only [jk,jq,jv,jy]
                      refine wpList_run rfl (.int .i64 0) (by simp [go_sem] <;> rfl) ?_
                      simp only [jk,jq,jv,jy]
                      refine wpList_run rfl (.int .i64 4) (by simp [go_sem] <;> rfl) ?_
                      simp only [jk,jq,jv,jy]
                      refine wpList_run rfl (.int .i64 5) (by simp [go_sem] <;> rfl) ?_
                      simp only [jk,jq,jv,jy]
                      refine wpList_run rfl (.int .i64 1) (by simp [go_sem] <;> rfl) ?_
                      simp only [jk,jq,jv,jy]
                      refine wpList_run rfl (.int .i64 5) (by simp [go_sem] <;> rfl) ?_
                      simp only [jk,jq,jv,jy]
                      refine wpList_run rfl (.int .i64 4) (by simp [go_sem] <;> rfl) ?_
                      simp only [jk,jq,jv,jy]
                      refine wpList_run rfl (.int .i64 6) (by simp [go_sem] <;> rfl) ?_
                      simp only [jk,jq,jv,jy]
                      refine wpList_run rfl (.int .i64 2) (by simp [go_sem] <;> rfl) ?_
                      simp only [jk,jq,jv,jy]
                      refine wpList_run rfl (.int .i64 10) (by simp [go_sem] <;> rfl) ?_
                      simp only [jk,jq,jv,jy]
                      refine wpList_run rfl (.int .i64 4) (by simp [go_sem] <;> rfl) ?_
                      simp only [jk,jq,jv,jy]
                      refine wpList_run rfl (.int .i64 7) (by simp [go_sem] <;> rfl) ?_
                      simp only [jk,jq,jv,jy]
                      refine wpList_run rfl (.int .i64 3) (by simp [go_sem] <;> rfl) ?_
                      simp only [jk,jq,jv,jy]
                      refine wpList_run rfl (.int .i64 15) (by simp [go_sem] <;> rfl) ?_
                      simp only [jk,jq,jv,jy]
                      refine wpList_run rfl (.int .u64 (xx.toNat:Int)) (by simp [go_sem]) ?_
                      simp only [jk,jq,jv,jy]
                      refine wpList_run rfl (.int .u64 (yy.toNat:Int)) (by simp [go_sem]) ?_
                      simp only [jk,jq,jv,jy]
                      refine wpList_call rfl (by simp [go_sem]) ((hmx.out _).mono ?_)
                      rintro e Y ⟨rfl,hY⟩
                      refine ⟨_,rfl,?_⟩
                      simp only [jk,jq,jv,jy]
                      have HQ7:=hideit (HQ6.out.carry hY)
                      clear hY HQ6 hmx
                      refine wpList_store_mid rfl 25 (.tmp 10) (.tmp 119) rfl (b + 4) 0 (row 16 (wv (F (4 + 1)))).toArray rfl rfl (by rw [row_size]; exact HQ7.out.vv.there) (by rw [row_size]; exact info46) (row_one fun _ _=>rfl) ?_
                      have HQ8:=hideit (HQ7.out.setVs hb0 (F (4 + 1)))
                      simp only [Act.put]
                      go_wp2
                      exact ⟨⟨4 + 1,by omega,by go_num,HQ8.out⟩,by simp [intOf]⟩
                    · have hmx:∀ X:World,Calls Tryd.prog 71 #[.agg (row 16 (wv (F 5))).toArray,.int .i64 1,.int .i64 6,.int .i64 11,.int .i64 12,.int .u64 (xx.toNat:Int),.int .u64 (yy.toNat:Int)] X fun e w'=>e = .returned (.agg (row 16 (wv (F (5 + 1)))).toArray) ∧ Below X.heap.size X w':=fun X=>by
                        rw [hFs.out 5,← hxx.out,← hyy.out]
                        exact rmix_any (F 5) 1 6 11 12 xx yy (by omega) (by omega) (by omega) (by omega) (by omega) (by omega) (by omega) (by omega) (by omega) (by omega) X
                      replace hmx:=hideit hmx
                      go_upto_region 24 with (fail)
                      refine wp_region_lit ?_
                      refine wpList_load_mid rfl 25 (.tmp 10) rfl (b + 4) 0 rfl (row 16 (wv (F 5))) _ HQ6.out.vv.range Tryd.underlying25 rfl (by rw [row_length]; exact info46) ?_
                      simp only [jk,jq,jv,jy]
                      refine wpList_run rfl (.int .i64 5) (by simp [go_sem] <;> rfl) ?_
                      simp only [jk,jq,jv,jy]
                      refine wpList_run rfl (.int .i64 1) (by simp [go_sem] <;> rfl) ?_
                      simp only [jk,jq,jv,jy]
                      refine wpList_run rfl (.int .i64 5) (by simp [go_sem] <;> rfl) ?_
                      simp only [jk,jq,jv,jy]
                      refine wpList_run rfl (.int .i64 6) (by simp [go_sem] <;> rfl) ?_
                      simp only [jk,jq,jv,jy]
                      refine wpList_run rfl (.int .i64 2) (by simp [go_sem] <;> rfl) ?_
                      simp only [jk,jq,jv,jy]
                      refine wpList_run rfl (.int .i64 6) (by simp [go_sem] <;> rfl) ?_
                      simp only [jk,jq,jv,jy]
                      refine wpList_run rfl (.int .i64 5) (by simp [go_sem] <;> rfl) ?_
                      simp only [jk,jq,jv,jy]
                      refine wpList_run rfl (.int .i64 7) (by simp [go_sem] <;> rfl) ?_
                      simp only [jk,jq,jv,jy]
                      refine wpList_run rfl (.int .i64 3) (by simp [go_sem] <;> rfl) ?_
                      simp only [jk,jq,jv,jy]
                      refine wpList_run rfl (.int .i64 11) (by simp [go_sem] <;> rfl) ?_
                      simp only [jk,jq,jv,jy]
                      refine wpList_run rfl (.int .i64 5) (by simp [go_sem] <;> rfl) ?_
                      simp only [jk,jq,jv,jy]
                      refine wpList_run rfl (.int .i64 8) (by simp [go_sem] <;> rfl) ?_
                      simp only [jk,jq,jv,jy]
                      refine wpList_run rfl (.int .i64 0) (by simp [go_sem] <;> rfl) ?_
                      simp only [jk,jq,jv,jy]
                      refine wpList_run rfl (.int .i64 12) (by simp [go_sem] <;> rfl) ?_
                      simp only [jk,jq,jv,jy]
                      refine wpList_run rfl (.int .u64 (xx.toNat:Int)) (by simp [go_sem]) ?_
                      simp only [jk,jq,jv,jy]
                      refine wpList_run rfl (.int .u64 (yy.toNat:Int)) (by simp [go_sem]) ?_
                      simp only [jk,jq,jv,jy]
                      refine wpList_call rfl (by simp [go_sem]) ((hmx.out _).mono ?_)
                      rintro e Y ⟨rfl,hY⟩
                      refine ⟨_,rfl,?_⟩
                      simp only [jk,jq,jv,jy]
                      have HQ7:=hideit (HQ6.out.carry hY)
                      clear hY HQ6 hmx
                      refine wpList_store_mid rfl 25 (.tmp 10) (.tmp 119) rfl (b + 4) 0 (row 16 (wv (F (5 + 1)))).toArray rfl rfl (by rw [row_size]; exact HQ7.out.vv.there) (by rw [row_size]; exact info46) (row_one fun _ _=>rfl) ?_
                      have HQ8:=hideit (HQ7.out.setVs hb0 (F (5 + 1)))
                      simp only [Act.put]
                      go_wp2
                      exact ⟨⟨5 + 1,by omega,by go_num,HQ8.out⟩,by simp [intOf]⟩
                    · have hmx:∀ X:World,Calls Tryd.prog 71 #[.agg (row 16 (wv (F 6))).toArray,.int .i64 2,.int .i64 7,.int .i64 8,.int .i64 13,.int .u64 (xx.toNat:Int),.int .u64 (yy.toNat:Int)] X fun e w'=>e = .returned (.agg (row 16 (wv (F (6 + 1)))).toArray) ∧ Below X.heap.size X w':=fun X=>by
                        rw [hFs.out 6,← hxx.out,← hyy.out]
                        exact rmix_any (F 6) 2 7 8 13 xx yy (by omega) (by omega) (by omega) (by omega) (by omega) (by omega) (by omega) (by omega) (by omega) (by omega) X
                      replace hmx:=hideit hmx
                      go_upto_region 24 with (fail)
                      refine wp_region_lit ?_
                      refine wpList_load_mid rfl 25 (.tmp 10) rfl (b + 4) 0 rfl (row 16 (wv (F 6))) _ HQ6.out.vv.range Tryd.underlying25 rfl (by rw [row_length]; exact info46) ?_
                      simp only [jk,jq,jv,jy]
                      refine wpList_run rfl (.int .i64 6) (by simp [go_sem] <;> rfl) ?_
                      simp only [jk,jq,jv,jy]
                      refine wpList_run rfl (.int .i64 2) (by simp [go_sem] <;> rfl) ?_
                      simp only [jk,jq,jv,jy]
                      refine wpList_run rfl (.int .i64 6) (by simp [go_sem] <;> rfl) ?_
                      simp only [jk,jq,jv,jy]
                      refine wpList_run rfl (.int .i64 7) (by simp [go_sem] <;> rfl) ?_
                      simp only [jk,jq,jv,jy]
                      refine wpList_run rfl (.int .i64 3) (by simp [go_sem] <;> rfl) ?_
                      simp only [jk,jq,jv,jy]
                      refine wpList_run rfl (.int .i64 7) (by simp [go_sem] <;> rfl) ?_
                      simp only [jk,jq,jv,jy]
                      refine wpList_run rfl (.int .i64 6) (by simp [go_sem] <;> rfl) ?_
                      simp only [jk,jq,jv,jy]
                      refine wpList_run rfl (.int .i64 8) (by simp [go_sem] <;> rfl) ?_
                      simp only [jk,jq,jv,jy]
                      refine wpList_run rfl (.int .i64 0) (by simp [go_sem] <;> rfl) ?_
                      simp only [jk,jq,jv,jy]
                      refine wpList_run rfl (.int .i64 8) (by simp [go_sem] <;> rfl) ?_
                      simp only [jk,jq,jv,jy]
                      refine wpList_run rfl (.int .i64 6) (by simp [go_sem] <;> rfl) ?_
                      simp only [jk,jq,jv,jy]
                      refine wpList_run rfl (.int .i64 9) (by simp [go_sem] <;> rfl) ?_
                      simp only [jk,jq,jv,jy]
                      refine wpList_run rfl (.int .i64 1) (by simp [go_sem] <;> rfl) ?_
                      simp only [jk,jq,jv,jy]
                      refine wpList_run rfl (.int .i64 13) (by simp [go_sem] <;> rfl) ?_
                      simp only [jk,jq,jv,jy]
                      refine wpList_run rfl (.int .u64 (xx.toNat:Int)) (by simp [go_sem]) ?_
                      simp only [jk,jq,jv,jy]
                      refine wpList_run rfl (.int .u64 (yy.toNat:Int)) (by simp [go_sem]) ?_
                      simp only [jk,jq,jv,jy]
                      refine wpList_call rfl (by simp [go_sem]) ((hmx.out _).mono ?_)
                      rintro e Y ⟨rfl,hY⟩
                      refine ⟨_,rfl,?_⟩
                      simp only [jk,jq,jv,jy]
                      have HQ7:=hideit (HQ6.out.carry hY)
                      clear hY HQ6 hmx
                      refine wpList_store_mid rfl 25 (.tmp 10) (.tmp 119) rfl (b + 4) 0 (row 16 (wv (F (6 + 1)))).toArray rfl rfl (by rw [row_size]; exact HQ7.out.vv.there) (by rw [row_size]; exact info46) (row_one fun _ _=>rfl) ?_
                      have HQ8:=hideit (HQ7.out.setVs hb0 (F (6 + 1)))
                      simp only [Act.put]
                      go_wp2
                      exact ⟨⟨6 + 1,by omega,by go_num,HQ8.out⟩,by simp [intOf]⟩
                    · have hmx:∀ X:World,Calls Tryd.prog 71 #[.agg (row 16 (wv (F 7))).toArray,.int .i64 3,.int .i64 4,.int .i64 9,.int .i64 14,.int .u64 (xx.toNat:Int),.int .u64 (yy.toNat:Int)] X fun e w'=>e = .returned (.agg (row 16 (wv (F (7 + 1)))).toArray) ∧ Below X.heap.size X w':=fun X=>by
                        rw [hFs.out 7,← hxx.out,← hyy.out]
                        exact rmix_any (F 7) 3 4 9 14 xx yy (by omega) (by omega) (by omega) (by omega) (by omega) (by omega) (by omega) (by omega) (by omega) (by omega) X
                      replace hmx:=hideit hmx
                      go_upto_region 24 with (fail)
                      refine wp_region_lit ?_
                      refine wpList_load_mid rfl 25 (.tmp 10) rfl (b + 4) 0 rfl (row 16 (wv (F 7))) _ HQ6.out.vv.range Tryd.underlying25 rfl (by rw [row_length]; exact info46) ?_
                      simp only [jk,jq,jv,jy]
                      refine wpList_run rfl (.int .i64 7) (by simp [go_sem] <;> rfl) ?_
                      simp only [jk,jq,jv,jy]
                      refine wpList_run rfl (.int .i64 3) (by simp [go_sem] <;> rfl) ?_
                      simp only [jk,jq,jv,jy]
                      refine wpList_run rfl (.int .i64 7) (by simp [go_sem] <;> rfl) ?_
                      simp only [jk,jq,jv,jy]
                      refine wpList_run rfl (.int .i64 8) (by simp [go_sem] <;> rfl) ?_
                      simp only [jk,jq,jv,jy]
                      refine wpList_run rfl (.int .i64 0) (by simp [go_sem] <;> rfl) ?_
                      simp only [jk,jq,jv,jy]
                      refine wpList_run rfl (.int .i64 4) (by simp [go_sem] <;> rfl) ?_
                      simp only [jk,jq,jv,jy]
                      refine wpList_run rfl (.int .i64 7) (by simp [go_sem] <;> rfl) ?_
                      simp only [jk,jq,jv,jy]
                      refine wpList_run rfl (.int .i64 9) (by simp [go_sem] <;> rfl) ?_
                      simp only [jk,jq,jv,jy]
                      refine wpList_run rfl (.int .i64 1) (by simp [go_sem] <;> rfl) ?_
                      simp only [jk,jq,jv,jy]
                      refine wpList_run rfl (.int .i64 9) (by simp [go_sem] <;> rfl) ?_
                      simp only [jk,jq,jv,jy]
                      refine wpList_run rfl (.int .i64 7) (by simp [go_sem] <;> rfl) ?_
                      simp only [jk,jq,jv,jy]
                      refine wpList_run rfl (.int .i64 10) (by simp [go_sem] <;> rfl) ?_
                      simp only [jk,jq,jv,jy]
                      refine wpList_run rfl (.int .i64 2) (by simp [go_sem] <;> rfl) ?_
                      simp only [jk,jq,jv,jy]
                      refine wpList_run rfl (.int .i64 14) (by simp [go_sem] <;> rfl) ?_
                      simp only [jk,jq,jv,jy]
                      refine wpList_run rfl (.int .u64 (xx.toNat:Int)) (by simp [go_sem]) ?_
                      simp only [jk,jq,jv,jy]
                      refine wpList_run rfl (.int .u64 (yy.toNat:Int)) (by simp [go_sem]) ?_
                      simp only [jk,jq,jv,jy]
                      refine wpList_call rfl (by simp [go_sem]) ((hmx.out _).mono ?_)
                      rintro e Y ⟨rfl,hY⟩
                      refine ⟨_,rfl,?_⟩
                      simp only [jk,jq,jv,jy]
                      have HQ7:=hideit (HQ6.out.carry hY)
                      clear hY HQ6 hmx
                      refine wpList_store_mid rfl 25 (.tmp 10) (.tmp 119) rfl (b + 4) 0 (row 16 (wv (F (7 + 1)))).toArray rfl rfl (by rw [row_size]; exact HQ7.out.vv.there) (by rw [row_size]; exact info46) (row_one fun _ _=>rfl) ?_
                      have HQ8:=hideit (HQ7.out.setVs hb0 (F (7 + 1)))
                      simp only [Act.put]
                      go_wp2
                      exact ⟨⟨7 + 1,by omega,by go_num,HQ8.out⟩,by simp [intOf]⟩
                  · obtain rfl:k = 8:=by omega
                    have HQ9:=HQ
                    rw [hF8.out] at HQ9
                    clear HQ
                    go_wp2
                    exact ⟨⟨r + 1,by omega,by go_num,HQ9.out⟩,by simp [intOf]; omega⟩
              · have i12:¬ (r:Int) < 12:=by omega
                have hr12:r = 12:=by omega
                have HQC:QR w b (fun j=>if j < 0 then R j else h j) p MW (V 12) wr:=by
                  have hh:=HQ.out
                  rw [hr12] at hh
                  exact ⟨hh.ext,hh.hh.congr fun j _=>by simp [wv],hh.pp,hh.res,hh.mm,hh.vv⟩
                replace HQC:=hideit HQC
                clear HQ hr12
                go_wp2
                go_loopw [19] (fun i wr=>∃ n:Nat,n ≤ 8 ∧ i = .int .i64 n ∧ QR w b (fun j=>if j < n then R j else h j) p MW (V 12) wr) (fun i _=>8 - (intOf i).toNat)
                case atStart=>exact ⟨0,by omega,rfl,HQC.out⟩
                case round=>
                  clear HQC
                  obtain ⟨n,hn,rfl,hQ⟩:=hrel
                  have HQ:=hideit hQ
                  clear hQ
                  by_cases hlt:n < 8
                  · have i0:(0:Int) ≤ (n:Int):=by omega
                    have i1:(n:Int) < 8:=by omega
                    have i2:(n:Int) < 16:=by omega
                    have i3:(0:Int) ≤ 8 + (n:Int):=by omega
                    have i4:8 + (n:Int) < 16:=by omega
                    have t8:(8 + (n:Int)).toNat = n + 8:=by omega
                    have hne:=kept_ne wr.drew
                    have e1:∀ k:Kept (Ext wr.drew),k.w.cell? ⟨b,n,none⟩ = some (.int .u64 ((h n).toNat:Int)):=fun k=>by
                      have:=HQ.out.hh.kept n hlt k
                      simpa [wv] using this
                    have e2:∀ k:Kept (Ext wr.drew),k.w.cell? ⟨b + 4,n,none⟩ = some (.int .u64 ((V 12 n).toNat:Int)):=fun k=>HQ.out.vv.kept n (by omega) k
                    have e3:∀ k:Kept (Ext wr.drew),k.w.cell? ⟨b + 4,n + 8,none⟩ = some (.int .u64 ((V 12 (n + 8)).toNat:Int)):=fun k=>HQ.out.vv.kept (n + 8) (by omega) k
                    have e4:∀ k:Kept (Ext wr.drew),k.w.cell? ⟨b + 4,8 + n,none⟩ = some (.int .u64 ((V 12 (n + 8)).toNat:Int)):=fun k=>by
                      rw [Nat.add_comm 8 n]
                      exact e3 k
                    have hx1:=xW_fact (h n) (V 12 n)
                    have hx2:=xW_fact (xW (h n) (V 12 n)) (V 12 (n + 8))
                    rw [xW_assoc,← hRj.out n] at hx2
                    go_upto_region 28 with (fail)
                    refine wp_region_late 13 (by kernel_rfl) (by kernel_rfl) (by decide) ?_
                    simp only [List.take_succ_cons,List.take_zero,List.drop_succ_cons,List.drop_zero]
                    refine wpStrong_run 13 rfl ?_
                    simp only [List.take_succ_cons,List.take_zero,List.drop_succ_cons,List.drop_zero]
                    repeat (go_big_quiet_step (fail))
                    refine wpQuiet_nil ?_
                    refine wpStrong_nil ?_
                    intro X hX
                    have hwX:Ext wr X:=Ext.trans (Below.refl _ _).drew hX
                    have HQ':=hideit (HQ.out.carry hwX)
                    clear hwX hX HQ hne e1 e2 e3 e4 hx1 hx2
                    have eX:=HQ'.out.hh.1 n hlt
                    have gX:=HQ'.out.hh.2.1 n hlt
                    have HQ2:QR w b (fun j=>if j < n + 1 then R j else h j) p MW (V 12) (X.setCell ⟨b,n,none⟩ (.int .u64 ((R n).toNat:Int))):=by
                      have hh:=HQ'.out.setH hb0 n (R n)
                      refine ⟨hh.ext,hh.hh.congr fun j _=>?_,hh.pp,hh.res,hh.mm,hh.vv⟩
                      simp only [wv]
                      by_cases e:j = n
                      · subst e; rw [if_pos rfl,if_pos (by omega)]
                      · rw [if_neg e]
                        by_cases h:j < n
                        · rw [if_pos h,if_pos (by omega)]
                        · rw [if_neg h,if_neg (by omega)]
                    replace HQ2:=hideit HQ2
                    go_wp2
                    exact ⟨⟨n + 1,by omega,by go_num,HQ2.out⟩,by simp [intOf]; omega⟩
                  · obtain rfl:n = 8:=by omega
                    have HR:=hideit (HQ.out.hh.congr (g':=wv R) fun j hj=>by simp only [wv]; rw [if_pos hj])
                    go_wp2_with (first | (refine wpList_load_mid rfl 92 (.tmp 4) rfl _ 0 rfl (row 8 (wv R)) _ HR.out.range Tryd.underlying92 rfl (by rw [row_length]; exact info30) ?_) | (refine wpList_store_mid rfl 92 (.tmp 8) (.tmp 138) rfl _ 0 (row 8 (wv R)).toArray rfl rfl (by rw [row_size]; exact HQ.out.res.there) (by rw [row_size]; exact info30) (row_one fun _ _=>rfl) ?_))
                    exact bodyPost_ret (ret_row Tryd.results61 rfl (HQ.out.res.cells (g':=wv R)) Tryd.underlying92 rfl info30) rfl ⟨rfl,below_setCells _ (by omega) _ _ _ HQ.out.ext⟩
end Go.Proofs.YtfbmeclpcgdmhabDoor
