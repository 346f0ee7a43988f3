/-
  Sixteen words stirred. The document's stirring.
-/
import Derived.Test.YtfbmeclpcgdmhabDoorQk1
import Derived.Test.YtfbmeclpcgdmhabDoorQk9
namespace Go.Proofs.YtfbmeclpcgdmhabDoor
open Go.RowKit Go.BigFrame
def TabM (w:World):Prop:=(∀ j,j < 32 → w.cell? ⟨0,j,none⟩ = some (iv plF j)) ∧ 0 < w.heap.size
theorem TabM.ext {w X:World} (h:TabM w) (k:Ext w X):TabM X:=
  ⟨fun j hj=>(Below.cell k (p:=⟨0,j,none⟩) h.2).trans (h.1 j hj),Nat.lt_of_lt_of_le h.2 (Below.size k)⟩
structure SS (w:World) (b:Nat) (v:Nat → BitVec 64) (X:World):Prop where
  ext:Ext w X
  st:RowAt b 16 (wv v) X
  res:RowAt (b + 1) 16 (wv fun _=>0#64) X
theorem SS.carry {w X Y:World} {b:Nat} {v:Nat → BitVec 64} (h:SS w b v X) (k:Ext X Y):SS w b v Y:=⟨Ext.trans h.ext k,h.st.carry k,h.res.carry k⟩
theorem SS.set {w X:World} {b:Nat} {v:Nat → BitVec 64} (h:SS w b v X) (hb:w.heap.size ≤ b) (i:Nat) (a:BitVec 64):SS w b (fun j=>if j = i then a else v j) (X.setCell ⟨b,i,none⟩ (.int .u64 (a.toNat:Int))):=
  ⟨Below.setCell h.ext hb _,(h.st.set i (.int .u64 (a.toNat:Int))).congr fun j _=>by
    simp only [wv]
    split <;> rfl,h.res.other _ _ (by show b ≠ b + 1; omega)⟩
set_option maxRecDepth 20000 in
set_option maxHeartbeats 4000000 in
theorem Stir_any (v:Nat → BitVec 64) (w:World) (hC:TabM w):
    Calls Tryd.prog 8 #[.agg (row 16 (wv v)).toArray] w fun e w'=>e = .returned (.agg (row 16 (wv (stK v 8))).toArray) ∧ Ext w w':=by
  have hz:=zero46
  have hz57:=zero57
  obtain ⟨F,hF⟩:∃ F,F = stK v:=⟨_,rfl⟩
  have hF0:Hid (F 0 = v):=by rw [hF]; rfl
  have hFs:Hid (∀ k,F (k + 1) = rowSt (F k) (plF (4 * k)) (plF (4 * k + 1)) (plF (4 * k + 2)) (plF (4 * k + 3))):=fun k=>by rw [hF]; rfl
  rw [← hF]
  clear hF
  go_enter Tryd.func8,Tryd.ntmps8
  go_upto_region 1 with (fail)
  have HM:SS w w.heap.size (F 0) ((w.alloc (.cells (row 16 (wv v)).toArray 25)).alloc (.cells (row 16 (wv fun _=>0#64)).toArray 25)):=by
    rw [hF0.out]
    refine ⟨((Below.refl _ _).alloc (Nat.le_refl _) _).alloc (by simp) _,(RowAt.new w 16 (wv v) 25).alloc _,?_⟩
    have:=RowAt.new (w.alloc (.cells (row 16 (wv v)).toArray 25)) 16 (wv fun _=>0#64) 25
    simpa using this
  replace HM:=hideit HM
  generalize (w.alloc (.cells (row 16 (wv v)).toArray 25)).alloc (.cells (row 16 (wv fun _=>0#64)).toArray 25) = w1 at *
  have HC1:=hideit (hC.ext HM.out.ext)
  clear hC
  refine wp_region_lit ?_
  refine wpList_load_mid rfl 43 (.global 0) rfl 0 0 rfl (row 32 (iv plF)) _ (fun j u hu=>by
    obtain ⟨hj,rfl⟩:=row_some hu
    rw [Nat.zero_add]
    exact HC1.out.1 j hj) Tryd.underlying43 rfl (by rw [row_length]; exact info58) ?_
  simp only [jk,jq,jv,jy]
  obtain ⟨TB,hTB⟩:∃ TB,TB = (Value.agg (row 32 (iv plF)).toArray):=⟨_,rfl⟩
  have hidx:∀ k:Nat,k < 8 → ∀ X:World,(Instr.index 43 TB (.int .i64 (k:Int))).run Tryd.prog X = .ok (.agg (row 4 (iv fun j=>plF (4 * k + j))).toArray) X:=fun k hk X=>by rw [hTB]; exact idx58 k hk X
  replace hidx:=hideit hidx
  rw [← hTB]
  clear hTB HC1
  have hbb:w.heap.size ≤ w.heap.size:=Nat.le_refl _
  obtain ⟨b,hb⟩:∃ b,b = w.heap.size:=⟨_,rfl⟩
  have hb0:w.heap.size ≤ b:=by omega
  rw [← hb] at HM ⊢
  clear hbb hb
  go_wp2
  go_loopw [6] (fun i wr=>∃ k:Nat,k ≤ 8 ∧ i = .int .i64 k ∧ SS w b (F k) wr) (fun i _=>8 - (intOf i).toNat)
  case atStart=>exact ⟨0,by omega,rfl,HM.out⟩
  case round=>
    clear HM
    obtain ⟨k,hk,rfl,hS⟩:=hrel
    have HS:=hideit hS
    clear hS
    by_cases hlt:k < 8
    · have i0:(0:Int) ≤ (k:Int):=by omega
      have i1:(k:Int) < 8:=by omega
      have hix:=hidx.out k hlt
      go_upto_region 3 with (fail)
      refine wp_region_lit ?_
      refine wpList_run rfl (.agg (row 4 (iv fun j=>plF (4 * k + j))).toArray) (by simp [go_sem,hix]) ?_
      simp only [jk,jq,jv,jy]
      clear hix
      have HN:=hideit (RowAt.new wr 4 (iv fun _=>0) 42)
      have hE4:Ext wr (wr.alloc (.cells (row 4 (iv fun _=>0)).toArray 42)):=(Below.refl _ _).alloc (Nat.le_refl _) _
      refine wpList_to rfl (.pointer (some ⟨wr.heap.size,0,none⟩)) (wr.alloc (.cells (row 4 (iv fun _=>0)).toArray 42)) (by simp [go_sem,hz57]) ?_
      simp only [jk,jq,jv,jy]
      obtain ⟨pp,hpp⟩:∃ pp,pp = fun j=>plF (4 * k + j):=⟨_,rfl⟩
      rw [← hpp]
      refine wpList_store_mid rfl 42 (.tmp 4) (.tmp 8) rfl _ 0 (row 4 (iv pp)).toArray rfl rfl (by rw [row_size]; exact HN.out.there) (by rw [row_size]; exact info57) (row_one fun _ _=>rfl) ?_
      have hE5:Ext wr ((wr.alloc (.cells (row 4 (iv fun _=>0)).toArray 42)).setCells wr.heap.size 0 (row 4 (iv pp))):=below_setCells wr.heap.size (Nat.le_refl _) _ _ _ hE4
      have HP:=hideit (HN.out.cells (g':=iv pp))
      have HS5:=hideit (HS.out.carry hE5)
      have hb8:b + 1 < wr.heap.size:=HS.out.res.2.2
      generalize (wr.alloc (.cells (row 4 (iv fun _=>0)).toArray 42)).setCells wr.heap.size 0 (row 4 (iv pp)) = w5 at *
      generalize wr.heap.size = b8 at *
      clear HN hE4 hE5 HS
      have hp0:Hid (pp 0 = plF (4 * k) ∧ pp 1 = plF (4 * k + 1) ∧ pp 2 = plF (4 * k + 2) ∧ pp 3 = plF (4 * k + 3)):=by rw [hpp]; exact ⟨rfl,rfl,rfl,rfl⟩
      have hl0:pp 0 < 16:=by rw [hpp]; exact pl_lt _ (by omega)
      have hl1:pp 1 < 16:=by rw [hpp]; exact pl_lt _ (by omega)
      have hl2:pp 2 < 16:=by rw [hpp]; exact pl_lt _ (by omega)
      have hl3:pp 3 < 16:=by rw [hpp]; exact pl_lt _ (by omega)
      clear hpp
      simp only [Act.put]
      have hFk:=hFs.out k
      rw [← hp0.out.1,← hp0.out.2.1,← hp0.out.2.2.1,← hp0.out.2.2.2] at hFk
      replace hFk:=hideit hFk
      obtain ⟨A',hA'⟩:∃ A',A' = (st4 (F k (pp 0)) (F k (pp 1)) (F k (pp 2)) (F k (pp 3))).1:=⟨_,rfl⟩
      obtain ⟨B',hB'⟩:∃ A',A' = (st4 (F k (pp 0)) (F k (pp 1)) (F k (pp 2)) (F k (pp 3))).2.1:=⟨_,rfl⟩
      obtain ⟨C',hC'⟩:∃ A',A' = (st4 (F k (pp 0)) (F k (pp 1)) (F k (pp 2)) (F k (pp 3))).2.2.1:=⟨_,rfl⟩
      obtain ⟨D',hD'⟩:∃ A',A' = (st4 (F k (pp 0)) (F k (pp 1)) (F k (pp 2)) (F k (pp 3))).2.2.2:=⟨_,rfl⟩
      have hmx:=stir_any (F k (pp 0)) (F k (pp 1)) (F k (pp 2)) (F k (pp 3))
      rw [← hA',← hB',← hC',← hD'] at hmx
      replace hmx:=hideit hmx
      have hFk2:Hid (∀ j,F (k + 1) j = if j = pp 3 then D' else if j = pp 2 then C' else if j = pp 1 then B' else if j = pp 0 then A' else F k j):=fun j=>by rw [hFk.out,hA',hB',hC',hD']; rfl
      clear hFk hA' hB' hC' hD'
      go_upto_region 4 with (fail)
      have hne:=kept_ne w5.drew
      have q0:∀ q:Kept (Ext w5.drew),q.w.cell? ⟨b8,0,none⟩ = some (.int .i64 ((pp 0:Nat):Int)):=fun q=>HP.out.kept 0 (by omega) q
      have q1:∀ q:Kept (Ext w5.drew),q.w.cell? ⟨b8,1,none⟩ = some (.int .i64 ((pp 1:Nat):Int)):=fun q=>HP.out.kept 1 (by omega) q
      have q2:∀ q:Kept (Ext w5.drew),q.w.cell? ⟨b8,2,none⟩ = some (.int .i64 ((pp 2:Nat):Int)):=fun q=>HP.out.kept 2 (by omega) q
      have q3:∀ q:Kept (Ext w5.drew),q.w.cell? ⟨b8,3,none⟩ = some (.int .i64 ((pp 3:Nat):Int)):=fun q=>HP.out.kept 3 (by omega) q
      have s0:∀ q:Kept (Ext w5.drew),q.w.cell? ⟨b,pp 0,none⟩ = some (.int .u64 ((F k (pp 0)).toNat:Int)):=fun q=>HS5.out.st.kept (pp 0) hl0 q
      have s1:∀ q:Kept (Ext w5.drew),q.w.cell? ⟨b,pp 1,none⟩ = some (.int .u64 ((F k (pp 1)).toNat:Int)):=fun q=>HS5.out.st.kept (pp 1) hl1 q
      have s2:∀ q:Kept (Ext w5.drew),q.w.cell? ⟨b,pp 2,none⟩ = some (.int .u64 ((F k (pp 2)).toNat:Int)):=fun q=>HS5.out.st.kept (pp 2) hl2 q
      have s3:∀ q:Kept (Ext w5.drew),q.w.cell? ⟨b,pp 3,none⟩ = some (.int .u64 ((F k (pp 3)).toNat:Int)):=fun q=>HS5.out.st.kept (pp 3) hl3 q
      have m0:(0:Int) ≤ ((pp 0:Nat):Int):=by omega
      have m0':((pp 0:Nat):Int) < 16:=by omega
      have m1:(0:Int) ≤ ((pp 1:Nat):Int):=by omega
      have m1':((pp 1:Nat):Int) < 16:=by omega
      have m2:(0:Int) ≤ ((pp 2:Nat):Int):=by omega
      have m2':((pp 2:Nat):Int) < 16:=by omega
      have m3:(0:Int) ≤ ((pp 3:Nat):Int):=by omega
      have m3':((pp 3:Nat):Int) < 16:=by omega
      refine wp_region_flo (fun Y=>RowAt b8 4 (iv pp) Y) (fun Y hY=>HP.out.carry (Ext.trans (Below.refl _ _).drew hY)) [0,1,8,9,10,11,12,13,14,15,16,17,18,19,20,21,22,23,24,25,26] [2,3,4,5,6,7,27,28,29] [30,31,32,33,34,35,36,37] [_,_,_,_,_,_,_,_,_,_,_,_,_,_,_,_,_,_,_,_,_] (by kernel_rfl) (by kernel_rfl) (by decide) rfl (by decide +kernel) (by decide +kernel) (by decide +kernel) (by decide +kernel) (by decide +kernel) (by decide +kernel) (by decide +kernel) (by decide +kernel) (by decide +kernel) ?_
      simp only [List.getElem_toArray,List.getElem_cons_zero,List.getElem_cons_succ]
      refine wpStrong_run 18 rfl ?_
      simp only [List.take_succ_cons,List.take_zero,List.drop_succ_cons,List.drop_zero]
      repeat (go_big_quiet_step (fail))
      refine wpQuiet_nil ?_
      refine wpStrong_call rfl (fun Y=>by simp [go_sem]) (fun Y _=>(hmx.out Y).mono fun e w' h=>⟨h.1,by rw [h.2]; exact Below.refl _ _⟩) ?_
      simp only [jk,jq,jv,jy]
      refine wpStrong_run 2 rfl ?_
      simp only [List.take_succ_cons,List.take_zero,List.drop_succ_cons,List.drop_zero]
      repeat (go_big_quiet_step (fail))
      refine wpQuiet_nil ?_
      refine wpStrong_nil ?_
      refine wpF_one _ (.pointer (some ⟨b8,1,none⟩)) rfl rfl (fun Y _=>by simp [go_sem]) ?_
      simp only [jw,jz,kj,jk,jq,jv,jy]
      refine wpF_one _ (.int .i64 ((pp 1:Nat):Int)) rfl rfl (fun Y hY=>by
        have e:=hY.1 1 (by omega)
        simp only [iv] at e
        simp [go_sem,e]) ?_
      simp only [jw,jz,kj,jk,jq,jv,jy]
      refine wpF_one _ (.pointer (some ⟨b8,2,none⟩)) rfl rfl (fun Y _=>by simp [go_sem]) ?_
      simp only [jw,jz,kj,jk,jq,jv,jy]
      refine wpF_one _ (.int .i64 ((pp 2:Nat):Int)) rfl rfl (fun Y hY=>by
        have e:=hY.1 2 (by omega)
        simp only [iv] at e
        simp [go_sem,e]) ?_
      simp only [jw,jz,kj,jk,jq,jv,jy]
      refine wpF_one _ (.pointer (some ⟨b8,3,none⟩)) rfl rfl (fun Y _=>by simp [go_sem]) ?_
      simp only [jw,jz,kj,jk,jq,jv,jy]
      refine wpF_one _ (.int .i64 ((pp 3:Nat):Int)) rfl rfl (fun Y hY=>by
        have e:=hY.1 3 (by omega)
        simp only [iv] at e
        simp [go_sem,e]) ?_
      simp only [jw,jz,kj,jk,jq,jv,jy]
      refine wpF_one _ (.int .u64 (B'.toNat:Int)) rfl rfl (fun Y _=>by simp [go_sem]) ?_
      simp only [jw,jz,kj,jk,jq,jv,jy]
      refine wpF_one _ (.int .u64 (C'.toNat:Int)) rfl rfl (fun Y _=>by simp [go_sem]) ?_
      simp only [jw,jz,kj,jk,jq,jv,jy]
      refine wpF_one _ (.int .u64 (D'.toNat:Int)) rfl rfl (fun Y _=>by simp [go_sem]) ?_
      simp only [jw,jz,kj,jk,jq,jv,jy]
      refine wpF_nil ?_
      intro Y hY
      have HS7:=hideit (HS5.out.carry (Ext.trans (Below.refl _ _).drew hY))
      have HP7:=hideit (HP.out.carry (Ext.trans (Below.refl _ _).drew hY))
      clear hY hne q0 q1 q2 q3 s0 s1 s2 s3 HS5 HP hmx
      have e0:=HS7.out.st.1 (pp 0) hl0
      have g0:=HS7.out.st.2.1 (pp 0) hl0
      simp only [wv] at e0
      refine wpL_val _ (.pointer (some ⟨b,pp 0,none⟩)) rfl rfl (by simp [go_sem,m0,m0']) HP7.out ?_
      simp only [jw,jz,kj,jk,jq,jv,jy]
      have HT0:=hideit (HS7.out.set hb0 (pp 0) A')
      have HQ0:=hideit (HP7.out.other ⟨b,pp 0,none⟩ (.int .u64 (A'.toNat:Int)) (by show b ≠ b8; omega))
      refine wpL_skip _ (Y.setCell ⟨b,pp 0,none⟩ (.int .u64 (A'.toNat:Int))) rfl rfl (by simp [go_sem,e0,g0]) HQ0.out ?_
      simp only [List.getElem_toArray,List.getElem_cons_zero,List.getElem_cons_succ,Act.put]
      generalize Y.setCell ⟨b,pp 0,none⟩ (.int .u64 (A'.toNat:Int)) = Y0 at *
      clear e0 g0 HS7 HP7
      have e1:=HT0.out.st.1 (pp 1) hl1
      have g1:=HT0.out.st.2.1 (pp 1) hl1
      simp only [wv] at e1
      refine wpL_val _ (.pointer (some ⟨b,pp 1,none⟩)) rfl rfl (by simp [go_sem,m1,m1']) HQ0.out ?_
      simp only [jw,jz,kj,jk,jq,jv,jy]
      have HT1:=hideit (HT0.out.set hb0 (pp 1) B')
      have HQ1:=hideit (HQ0.out.other ⟨b,pp 1,none⟩ (.int .u64 (B'.toNat:Int)) (by show b ≠ b8; omega))
      refine wpL_skip _ (Y0.setCell ⟨b,pp 1,none⟩ (.int .u64 (B'.toNat:Int))) rfl rfl (by simp [go_sem,e1,g1]) HQ1.out ?_
      simp only [List.getElem_toArray,List.getElem_cons_zero,List.getElem_cons_succ,Act.put]
      generalize Y0.setCell ⟨b,pp 1,none⟩ (.int .u64 (B'.toNat:Int)) = Y1 at *
      clear e1 g1 HT0 HQ0
      have e2:=HT1.out.st.1 (pp 2) hl2
      have g2:=HT1.out.st.2.1 (pp 2) hl2
      simp only [wv] at e2
      refine wpL_val _ (.pointer (some ⟨b,pp 2,none⟩)) rfl rfl (by simp [go_sem,m2,m2']) HQ1.out ?_
      simp only [jw,jz,kj,jk,jq,jv,jy]
      have HT2:=hideit (HT1.out.set hb0 (pp 2) C')
      have HQ2:=hideit (HQ1.out.other ⟨b,pp 2,none⟩ (.int .u64 (C'.toNat:Int)) (by show b ≠ b8; omega))
      refine wpL_skip _ (Y1.setCell ⟨b,pp 2,none⟩ (.int .u64 (C'.toNat:Int))) rfl rfl (by simp [go_sem,e2,g2]) HQ2.out ?_
      simp only [List.getElem_toArray,List.getElem_cons_zero,List.getElem_cons_succ,Act.put]
      generalize Y1.setCell ⟨b,pp 2,none⟩ (.int .u64 (C'.toNat:Int)) = Y2 at *
      clear e2 g2 HT1 HQ1
      have e3:=HT2.out.st.1 (pp 3) hl3
      have g3:=HT2.out.st.2.1 (pp 3) hl3
      simp only [wv] at e3
      refine wpL_val _ (.pointer (some ⟨b,pp 3,none⟩)) rfl rfl (by simp [go_sem,m3,m3']) HQ2.out ?_
      simp only [jw,jz,kj,jk,jq,jv,jy]
      have HT3:=hideit (HT2.out.set hb0 (pp 3) D')
      have HQ3:=hideit (HQ2.out.other ⟨b,pp 3,none⟩ (.int .u64 (D'.toNat:Int)) (by show b ≠ b8; omega))
      refine wpL_skip _ (Y2.setCell ⟨b,pp 3,none⟩ (.int .u64 (D'.toNat:Int))) rfl rfl (by simp [go_sem,e3,g3]) HQ3.out ?_
      refine wpL_nil ?_
      simp only [Act.put]
      have HU:SS w b (F (k + 1)) (Y2.setCell ⟨b,pp 3,none⟩ (.int .u64 (D'.toNat:Int))):=by
        have h:=HT3.out
        refine ⟨h.ext,h.st.congr fun j _=>?_,h.res⟩
        simp only [wv]
        rw [hFk2.out j]
      replace HU:=hideit HU
      clear HT3 HQ3 HT2 HQ2
      go_wp2
      exact ⟨⟨k + 1,by omega,by go_num,HU.out⟩,by simp [intOf]; omega⟩
    · obtain rfl:k = 8:=by omega
      go_wp2_with (first | (refine wpList_load_mid rfl 25 (.tmp 1) rfl _ 0 rfl (row 16 (wv (F 8))) _ HS.out.st.range Tryd.underlying25 rfl (by rw [row_length]; exact info46) ?_) | (refine wpList_store_mid rfl 25 (.tmp 2) (.tmp 44) rfl _ 0 (row 16 (wv (F 8))).toArray rfl rfl (by rw [row_size]; exact HS.out.res.there) (by rw [row_size]; exact info46) (row_one fun _ _=>rfl) ?_))
      exact bodyPost_ret (ret_row Tryd.results8 rfl (HS.out.res.cells (g':=wv (F 8))) Tryd.underlying25 rfl info46) rfl ⟨rfl,below_setCells _ (by omega) _ _ _ HS.out.ext⟩
end Go.Proofs.YtfbmeclpcgdmhabDoor
namespace Go.Proofs.YtfbmeclpcgdmhabDoor
open Go.RowKit Go.BigFrame
set_option maxRecDepth 20000 in
set_option maxHeartbeats 4000000 in
theorem four_any (v:Nat → BitVec 64) (a b c d:Nat) (ha:a < 16) (hb:b < 16) (hc:c < 16) (hd:d < 16) (n1:a ≠ b) (n2:a ≠ c) (n3:a ≠ d) (n4:b ≠ c) (n5:b ≠ d) (n6:c ≠ d) (w:World):
    Calls Tryd.prog 72 #[.agg (row 16 (wv v)).toArray,.int .i64 (a:Int),.int .i64 (b:Int),.int .i64 (c:Int),.int .i64 (d:Int)] w fun e w'=>e = .returned (.agg (row 16 (wv (rowSt v a b c d))).toArray) ∧ Ext w w':=by
  have hz:=zero46
  obtain ⟨A0,hA0⟩:∃ p,p = v a:=⟨_,rfl⟩
  obtain ⟨B0,hB0⟩:∃ p,p = v b:=⟨_,rfl⟩
  obtain ⟨C0,hC0⟩:∃ p,p = v c:=⟨_,rfl⟩
  obtain ⟨D0,hD0⟩:∃ p,p = v d:=⟨_,rfl⟩
  obtain ⟨q1,hq1⟩:∃ p,p = blF A0 B0:=⟨_,rfl⟩
  obtain ⟨p2,hp2⟩:∃ p,p = xW D0 q1:=⟨_,rfl⟩
  obtain ⟨q2,hq2⟩:∃ p,p = rR 32 p2:=⟨_,rfl⟩
  obtain ⟨q3,hq3⟩:∃ p,p = blF C0 q2:=⟨_,rfl⟩
  obtain ⟨p4,hp4⟩:∃ p,p = xW B0 q3:=⟨_,rfl⟩
  obtain ⟨q4,hq4⟩:∃ p,p = rR 24 p4:=⟨_,rfl⟩
  obtain ⟨q5,hq5⟩:∃ p,p = blF q1 q4:=⟨_,rfl⟩
  obtain ⟨p6,hp6⟩:∃ p,p = xW q2 q5:=⟨_,rfl⟩
  obtain ⟨q6,hq6⟩:∃ p,p = rR 16 p6:=⟨_,rfl⟩
  obtain ⟨q7,hq7⟩:∃ p,p = blF q3 q6:=⟨_,rfl⟩
  obtain ⟨p8,hp8⟩:∃ p,p = xW q4 q7:=⟨_,rfl⟩
  obtain ⟨q8,hq8⟩:∃ p,p = rR 63 p8:=⟨_,rfl⟩
  obtain ⟨R,hR⟩:∃ R,R = rowSt v a b c d:=⟨_,rfl⟩
  have hmx:st4 (v a) (v b) (v c) (v d) = (q5,q8,q7,q6):=by
    rw [hq8,hp8,hq7,hq6,hp6,hq5,hq4,hp4,hq3,hq2,hp2,hq1,hA0,hB0,hC0,hD0]
    rfl
  have hRj:Hid (∀ j,R j = if j = d then q6 else if j = c then q7 else if j = b then q8 else if j = a then q5 else v j):=fun j=>by
    rw [hR]
    unfold rowSt
    rw [hmx]
  rw [← hR]
  clear hR hmx
  replace hq1:=hideit hq1
  replace hp2:=hideit hp2
  replace hq2:=hideit hq2
  replace hq3:=hideit hq3
  replace hp4:=hideit hp4
  replace hq4:=hideit hq4
  replace hq5:=hideit hq5
  replace hp6:=hideit hp6
  replace hq6:=hideit hq6
  replace hq7:=hideit hq7
  replace hp8:=hideit hp8
  replace hq8:=hideit hq8
  obtain ⟨V0,hV0⟩:∃ V0,V0 = v:=⟨_,rfl⟩
  have haV:Hid (V0 a = A0):=by rw [hV0,hA0]; rfl
  have hbV:Hid (V0 b = B0):=by rw [hV0,hB0]; rfl
  have hcV:Hid (V0 c = C0):=by rw [hV0,hC0]; rfl
  have hdV:Hid (V0 d = D0):=by rw [hV0,hD0]; rfl
  have hOV:Hid (∀ j,j ≠ a → j ≠ b → j ≠ c → j ≠ d → V0 j = v j):=fun j _ _ _ _=>by rw [hV0]
  clear hA0 hB0 hC0 hD0
  have ia:(0:Int) ≤ (a:Int):=by omega
  have ia':(a:Int) < 16:=by omega
  have ib:(0:Int) ≤ (b:Int):=by omega
  have ib':(b:Int) < 16:=by omega
  have ic:(0:Int) ≤ (c:Int):=by omega
  have ic':(c:Int) < 16:=by omega
  have id:(0:Int) ≤ (d:Int):=by omega
  have id':(d:Int) < 16:=by omega
  obtain ⟨bb,hbb⟩:∃ bb,bb = w.heap.size:=⟨_,rfl⟩
  have hb0:w.heap.size ≤ bb:=by omega
  go_enter Tryd.func72,Tryd.ntmps72
  go_upto_region 1 with (fail)
  have HV:RowAt bb 16 (wv V0) ((w.alloc (.cells (row 16 (wv v)).toArray 25)).alloc (.cells (row 16 (wv fun _=>0#64)).toArray 25)):=by
    rw [hbb,hV0]
    exact (RowAt.new w 16 (wv v) 25).alloc _
  have HZ:RowAt (bb + 1) 16 (wv fun _=>0#64) ((w.alloc (.cells (row 16 (wv v)).toArray 25)).alloc (.cells (row 16 (wv fun _=>0#64)).toArray 25)):=by
    rw [hbb]
    have:=RowAt.new (w.alloc (.cells (row 16 (wv v)).toArray 25)) 16 (wv fun _=>0#64) 25
    simpa using this
  have HE:Ext w ((w.alloc (.cells (row 16 (wv v)).toArray 25)).alloc (.cells (row 16 (wv fun _=>0#64)).toArray 25)):=((Below.refl _ _).alloc (Nat.le_refl _) _).alloc (by simp) _
  replace HV:=hideit HV
  replace HZ:=hideit HZ
  replace HE:=hideit HE
  generalize (w.alloc (.cells (row 16 (wv v)).toArray 25)).alloc (.cells (row 16 (wv fun _=>0#64)).toArray 25) = w1 at *
  rw [← hbb]
  clear hbb hV0
  have hne:=kept_ne w1.drew
  have e1:∀ k:Kept (Ext w1.drew),k.w.cell? ⟨bb,a,none⟩ = some (.int .u64 (A0.toNat:Int)):=fun k=>by
    have:=HV.out.kept a ha k
    rwa [wv,haV.out] at this
  have e2:∀ k:Kept (Ext w1.drew),k.w.cell? ⟨bb,b,none⟩ = some (.int .u64 (B0.toNat:Int)):=fun k=>by
    have:=HV.out.kept b hb k
    rwa [wv,hbV.out] at this
  have kc:=hideit (rplus_any A0 B0)
  rw [← hq1.out] at kc
  refine wp_region_late 8 (by kernel_rfl) (by kernel_rfl) (by decide) ?_
  simp only [List.take_succ_cons,List.take_zero,List.drop_succ_cons,List.drop_zero]
  refine wpStrong_run 7 rfl ?_
  simp only [List.take_succ_cons,List.take_zero,List.drop_succ_cons,List.drop_zero]
  repeat (go_big_quiet_step (fail))
  refine wpQuiet_nil ?_
  refine wpStrong_call rfl (fun Y=>by simp [go_sem]) (fun Y _=>(kc.out Y).mono fun e w' h=>⟨h.1,by rw [h.2]; exact Below.refl _ _⟩) ?_
  simp only [jk,jq,jv,jy]
  refine wpStrong_nil ?_
  intro X hX
  have hwX:Ext w1 X:=Ext.trans (Below.refl _ _).drew hX
  have HV':=hideit (HV.out.carry hwX)
  have HZ':=hideit (HZ.out.carry hwX)
  have HE':=hideit (Ext.trans HE.out hwX)
  clear hX hwX HV HZ HE hne e1 e2 kc
  have eX:=HV'.out.1 a ha
  have gX:=HV'.out.2.1 a ha
  have HV:Hid (RowAt bb 16 (wv fun j=>if j = a then q1 else V0 j) (X.setCell ⟨bb,a,none⟩ (.int .u64 (q1.toNat:Int)))):=(HV'.out.set a (.int .u64 (q1.toNat:Int))).congr fun j _=>by
    simp only [wv]
    split <;> rfl
  have HZ:=hideit (HZ'.out.other ⟨bb,a,none⟩ (.int .u64 (q1.toNat:Int)) (by show bb ≠ bb + 1; omega))
  have HE:=hideit (HE'.out.setCell (p:=⟨bb,a,none⟩) hb0 (.int .u64 (q1.toNat:Int)))
  go_upto_region 2 with (fail)
  generalize X.setCell ⟨bb,a,none⟩ (.int .u64 (q1.toNat:Int)) = w2 at *
  clear HV' HZ' HE' eX gX
  obtain ⟨V1,hV1⟩:∃ V',V' = fun j=>if j = a then q1 else V0 j:=⟨_,rfl⟩
  rw [← hV1] at HV
  have haV':Hid (V1 a = q1):=by rw [hV1]; exact if_pos rfl
  have hbV':Hid (V1 b = B0):=by rw [hV1]; exact (if_neg (by omega)).trans hbV.out
  have hcV':Hid (V1 c = C0):=by rw [hV1]; exact (if_neg (by omega)).trans hcV.out
  have hdV':Hid (V1 d = D0):=by rw [hV1]; exact (if_neg (by omega)).trans hdV.out
  have hOV':Hid (∀ j,j ≠ a → j ≠ b → j ≠ c → j ≠ d → V1 j = v j):=fun j n1 n2 n3 n4=>by rw [hV1]; exact (if_neg (by omega)).trans (hOV.out j n1 n2 n3 n4)
  clear haV hbV hcV hdV hOV hV1
  have haV:=haV'
  have hbV:=hbV'
  have hcV:=hcV'
  have hdV:=hdV'
  have hOV:=hOV'
  clear haV' hbV' hcV' hdV' hOV'
  have hne:=kept_ne w2.drew
  have e1:∀ k:Kept (Ext w2.drew),k.w.cell? ⟨bb,d,none⟩ = some (.int .u64 (D0.toNat:Int)):=fun k=>by
    have:=HV.out.kept d hd k
    rwa [wv,hdV.out] at this
  have e2:∀ k:Kept (Ext w2.drew),k.w.cell? ⟨bb,a,none⟩ = some (.int .u64 (q1.toNat:Int)):=fun k=>by
    have:=HV.out.kept a ha k
    rwa [wv,haV.out] at this
  have f1:=xW_fact D0 q1
  rw [← hp2.out] at f1
  have kc:=hideit (mturn_any p2 32 (by decide))
  rw [← hq2.out] at kc
  refine wp_region_late 9 (by kernel_rfl) (by kernel_rfl) (by decide) ?_
  simp only [List.take_succ_cons,List.take_zero,List.drop_succ_cons,List.drop_zero]
  refine wpStrong_run 8 rfl ?_
  simp only [List.take_succ_cons,List.take_zero,List.drop_succ_cons,List.drop_zero]
  repeat (go_big_quiet_step (fail))
  refine wpQuiet_nil ?_
  refine wpStrong_call rfl (fun Y=>by simp [go_sem]) (fun Y _=>kc.out Y) ?_
  simp only [jk,jq,jv,jy]
  refine wpStrong_nil ?_
  intro X hX
  have hwX:Ext w2 X:=Ext.trans (Below.refl _ _).drew hX
  have HV':=hideit (HV.out.carry hwX)
  have HZ':=hideit (HZ.out.carry hwX)
  have HE':=hideit (Ext.trans HE.out hwX)
  clear hX hwX HV HZ HE hne e1 e2 kc f1
  have eX:=HV'.out.1 d hd
  have gX:=HV'.out.2.1 d hd
  have HV:Hid (RowAt bb 16 (wv fun j=>if j = d then q2 else V1 j) (X.setCell ⟨bb,d,none⟩ (.int .u64 (q2.toNat:Int)))):=(HV'.out.set d (.int .u64 (q2.toNat:Int))).congr fun j _=>by
    simp only [wv]
    split <;> rfl
  have HZ:=hideit (HZ'.out.other ⟨bb,d,none⟩ (.int .u64 (q2.toNat:Int)) (by show bb ≠ bb + 1; omega))
  have HE:=hideit (HE'.out.setCell (p:=⟨bb,d,none⟩) hb0 (.int .u64 (q2.toNat:Int)))
  go_upto_region 3 with (fail)
  generalize X.setCell ⟨bb,d,none⟩ (.int .u64 (q2.toNat:Int)) = w3 at *
  clear HV' HZ' HE' eX gX
  obtain ⟨V2,hV1⟩:∃ V',V' = fun j=>if j = d then q2 else V1 j:=⟨_,rfl⟩
  rw [← hV1] at HV
  have haV':Hid (V2 a = q1):=by rw [hV1]; exact (if_neg (by omega)).trans haV.out
  have hbV':Hid (V2 b = B0):=by rw [hV1]; exact (if_neg (by omega)).trans hbV.out
  have hcV':Hid (V2 c = C0):=by rw [hV1]; exact (if_neg (by omega)).trans hcV.out
  have hdV':Hid (V2 d = q2):=by rw [hV1]; exact if_pos rfl
  have hOV':Hid (∀ j,j ≠ a → j ≠ b → j ≠ c → j ≠ d → V2 j = v j):=fun j n1 n2 n3 n4=>by rw [hV1]; exact (if_neg (by omega)).trans (hOV.out j n1 n2 n3 n4)
  clear haV hbV hcV hdV hOV hV1
  have haV:=haV'
  have hbV:=hbV'
  have hcV:=hcV'
  have hdV:=hdV'
  have hOV:=hOV'
  clear haV' hbV' hcV' hdV' hOV'
  have hne:=kept_ne w3.drew
  have e1:∀ k:Kept (Ext w3.drew),k.w.cell? ⟨bb,c,none⟩ = some (.int .u64 (C0.toNat:Int)):=fun k=>by
    have:=HV.out.kept c hc k
    rwa [wv,hcV.out] at this
  have e2:∀ k:Kept (Ext w3.drew),k.w.cell? ⟨bb,d,none⟩ = some (.int .u64 (q2.toNat:Int)):=fun k=>by
    have:=HV.out.kept d hd k
    rwa [wv,hdV.out] at this
  have kc:=hideit (rplus_any C0 q2)
  rw [← hq3.out] at kc
  refine wp_region_late 8 (by kernel_rfl) (by kernel_rfl) (by decide) ?_
  simp only [List.take_succ_cons,List.take_zero,List.drop_succ_cons,List.drop_zero]
  refine wpStrong_run 7 rfl ?_
  simp only [List.take_succ_cons,List.take_zero,List.drop_succ_cons,List.drop_zero]
  repeat (go_big_quiet_step (fail))
  refine wpQuiet_nil ?_
  refine wpStrong_call rfl (fun Y=>by simp [go_sem]) (fun Y _=>(kc.out Y).mono fun e w' h=>⟨h.1,by rw [h.2]; exact Below.refl _ _⟩) ?_
  simp only [jk,jq,jv,jy]
  refine wpStrong_nil ?_
  intro X hX
  have hwX:Ext w3 X:=Ext.trans (Below.refl _ _).drew hX
  have HV':=hideit (HV.out.carry hwX)
  have HZ':=hideit (HZ.out.carry hwX)
  have HE':=hideit (Ext.trans HE.out hwX)
  clear hX hwX HV HZ HE hne e1 e2 kc
  have eX:=HV'.out.1 c hc
  have gX:=HV'.out.2.1 c hc
  have HV:Hid (RowAt bb 16 (wv fun j=>if j = c then q3 else V2 j) (X.setCell ⟨bb,c,none⟩ (.int .u64 (q3.toNat:Int)))):=(HV'.out.set c (.int .u64 (q3.toNat:Int))).congr fun j _=>by
    simp only [wv]
    split <;> rfl
  have HZ:=hideit (HZ'.out.other ⟨bb,c,none⟩ (.int .u64 (q3.toNat:Int)) (by show bb ≠ bb + 1; omega))
  have HE:=hideit (HE'.out.setCell (p:=⟨bb,c,none⟩) hb0 (.int .u64 (q3.toNat:Int)))
  go_upto_region 4 with (fail)
  generalize X.setCell ⟨bb,c,none⟩ (.int .u64 (q3.toNat:Int)) = w4 at *
  clear HV' HZ' HE' eX gX
  obtain ⟨V3,hV1⟩:∃ V',V' = fun j=>if j = c then q3 else V2 j:=⟨_,rfl⟩
  rw [← hV1] at HV
  have haV':Hid (V3 a = q1):=by rw [hV1]; exact (if_neg (by omega)).trans haV.out
  have hbV':Hid (V3 b = B0):=by rw [hV1]; exact (if_neg (by omega)).trans hbV.out
  have hcV':Hid (V3 c = q3):=by rw [hV1]; exact if_pos rfl
  have hdV':Hid (V3 d = q2):=by rw [hV1]; exact (if_neg (by omega)).trans hdV.out
  have hOV':Hid (∀ j,j ≠ a → j ≠ b → j ≠ c → j ≠ d → V3 j = v j):=fun j n1 n2 n3 n4=>by rw [hV1]; exact (if_neg (by omega)).trans (hOV.out j n1 n2 n3 n4)
  clear haV hbV hcV hdV hOV hV1
  have haV:=haV'
  have hbV:=hbV'
  have hcV:=hcV'
  have hdV:=hdV'
  have hOV:=hOV'
  clear haV' hbV' hcV' hdV' hOV'
  have hne:=kept_ne w4.drew
  have e1:∀ k:Kept (Ext w4.drew),k.w.cell? ⟨bb,b,none⟩ = some (.int .u64 (B0.toNat:Int)):=fun k=>by
    have:=HV.out.kept b hb k
    rwa [wv,hbV.out] at this
  have e2:∀ k:Kept (Ext w4.drew),k.w.cell? ⟨bb,c,none⟩ = some (.int .u64 (q3.toNat:Int)):=fun k=>by
    have:=HV.out.kept c hc k
    rwa [wv,hcV.out] at this
  have f1:=xW_fact B0 q3
  rw [← hp4.out] at f1
  have kc:=hideit (mturn_any p4 24 (by decide))
  rw [← hq4.out] at kc
  refine wp_region_late 9 (by kernel_rfl) (by kernel_rfl) (by decide) ?_
  simp only [List.take_succ_cons,List.take_zero,List.drop_succ_cons,List.drop_zero]
  refine wpStrong_run 8 rfl ?_
  simp only [List.take_succ_cons,List.take_zero,List.drop_succ_cons,List.drop_zero]
  repeat (go_big_quiet_step (fail))
  refine wpQuiet_nil ?_
  refine wpStrong_call rfl (fun Y=>by simp [go_sem]) (fun Y _=>kc.out Y) ?_
  simp only [jk,jq,jv,jy]
  refine wpStrong_nil ?_
  intro X hX
  have hwX:Ext w4 X:=Ext.trans (Below.refl _ _).drew hX
  have HV':=hideit (HV.out.carry hwX)
  have HZ':=hideit (HZ.out.carry hwX)
  have HE':=hideit (Ext.trans HE.out hwX)
  clear hX hwX HV HZ HE hne e1 e2 kc f1
  have eX:=HV'.out.1 b hb
  have gX:=HV'.out.2.1 b hb
  have HV:Hid (RowAt bb 16 (wv fun j=>if j = b then q4 else V3 j) (X.setCell ⟨bb,b,none⟩ (.int .u64 (q4.toNat:Int)))):=(HV'.out.set b (.int .u64 (q4.toNat:Int))).congr fun j _=>by
    simp only [wv]
    split <;> rfl
  have HZ:=hideit (HZ'.out.other ⟨bb,b,none⟩ (.int .u64 (q4.toNat:Int)) (by show bb ≠ bb + 1; omega))
  have HE:=hideit (HE'.out.setCell (p:=⟨bb,b,none⟩) hb0 (.int .u64 (q4.toNat:Int)))
  go_upto_region 5 with (fail)
  generalize X.setCell ⟨bb,b,none⟩ (.int .u64 (q4.toNat:Int)) = w5 at *
  clear HV' HZ' HE' eX gX
  obtain ⟨V4,hV1⟩:∃ V',V' = fun j=>if j = b then q4 else V3 j:=⟨_,rfl⟩
  rw [← hV1] at HV
  have haV':Hid (V4 a = q1):=by rw [hV1]; exact (if_neg (by omega)).trans haV.out
  have hbV':Hid (V4 b = q4):=by rw [hV1]; exact if_pos rfl
  have hcV':Hid (V4 c = q3):=by rw [hV1]; exact (if_neg (by omega)).trans hcV.out
  have hdV':Hid (V4 d = q2):=by rw [hV1]; exact (if_neg (by omega)).trans hdV.out
  have hOV':Hid (∀ j,j ≠ a → j ≠ b → j ≠ c → j ≠ d → V4 j = v j):=fun j n1 n2 n3 n4=>by rw [hV1]; exact (if_neg (by omega)).trans (hOV.out j n1 n2 n3 n4)
  clear haV hbV hcV hdV hOV hV1
  have haV:=haV'
  have hbV:=hbV'
  have hcV:=hcV'
  have hdV:=hdV'
  have hOV:=hOV'
  clear haV' hbV' hcV' hdV' hOV'
  have hne:=kept_ne w5.drew
  have e1:∀ k:Kept (Ext w5.drew),k.w.cell? ⟨bb,a,none⟩ = some (.int .u64 (q1.toNat:Int)):=fun k=>by
    have:=HV.out.kept a ha k
    rwa [wv,haV.out] at this
  have e2:∀ k:Kept (Ext w5.drew),k.w.cell? ⟨bb,b,none⟩ = some (.int .u64 (q4.toNat:Int)):=fun k=>by
    have:=HV.out.kept b hb k
    rwa [wv,hbV.out] at this
  have kc:=hideit (rplus_any q1 q4)
  rw [← hq5.out] at kc
  refine wp_region_late 8 (by kernel_rfl) (by kernel_rfl) (by decide) ?_
  simp only [List.take_succ_cons,List.take_zero,List.drop_succ_cons,List.drop_zero]
  refine wpStrong_run 7 rfl ?_
  simp only [List.take_succ_cons,List.take_zero,List.drop_succ_cons,List.drop_zero]
  repeat (go_big_quiet_step (fail))
  refine wpQuiet_nil ?_
  refine wpStrong_call rfl (fun Y=>by simp [go_sem]) (fun Y _=>(kc.out Y).mono fun e w' h=>⟨h.1,by rw [h.2]; exact Below.refl _ _⟩) ?_
  simp only [jk,jq,jv,jy]
  refine wpStrong_nil ?_
  intro X hX
  have hwX:Ext w5 X:=Ext.trans (Below.refl _ _).drew hX
  have HV':=hideit (HV.out.carry hwX)
  have HZ':=hideit (HZ.out.carry hwX)
  have HE':=hideit (Ext.trans HE.out hwX)
  clear hX hwX HV HZ HE hne e1 e2 kc
  have eX:=HV'.out.1 a ha
  have gX:=HV'.out.2.1 a ha
  have HV:Hid (RowAt bb 16 (wv fun j=>if j = a then q5 else V4 j) (X.setCell ⟨bb,a,none⟩ (.int .u64 (q5.toNat:Int)))):=(HV'.out.set a (.int .u64 (q5.toNat:Int))).congr fun j _=>by
    simp only [wv]
    split <;> rfl
  have HZ:=hideit (HZ'.out.other ⟨bb,a,none⟩ (.int .u64 (q5.toNat:Int)) (by show bb ≠ bb + 1; omega))
  have HE:=hideit (HE'.out.setCell (p:=⟨bb,a,none⟩) hb0 (.int .u64 (q5.toNat:Int)))
  go_upto_region 6 with (fail)
  generalize X.setCell ⟨bb,a,none⟩ (.int .u64 (q5.toNat:Int)) = w6 at *
  clear HV' HZ' HE' eX gX
  obtain ⟨V5,hV1⟩:∃ V',V' = fun j=>if j = a then q5 else V4 j:=⟨_,rfl⟩
  rw [← hV1] at HV
  have haV':Hid (V5 a = q5):=by rw [hV1]; exact if_pos rfl
  have hbV':Hid (V5 b = q4):=by rw [hV1]; exact (if_neg (by omega)).trans hbV.out
  have hcV':Hid (V5 c = q3):=by rw [hV1]; exact (if_neg (by omega)).trans hcV.out
  have hdV':Hid (V5 d = q2):=by rw [hV1]; exact (if_neg (by omega)).trans hdV.out
  have hOV':Hid (∀ j,j ≠ a → j ≠ b → j ≠ c → j ≠ d → V5 j = v j):=fun j n1 n2 n3 n4=>by rw [hV1]; exact (if_neg (by omega)).trans (hOV.out j n1 n2 n3 n4)
  clear haV hbV hcV hdV hOV hV1
  have haV:=haV'
  have hbV:=hbV'
  have hcV:=hcV'
  have hdV:=hdV'
  have hOV:=hOV'
  clear haV' hbV' hcV' hdV' hOV'
  have hne:=kept_ne w6.drew
  have e1:∀ k:Kept (Ext w6.drew),k.w.cell? ⟨bb,d,none⟩ = some (.int .u64 (q2.toNat:Int)):=fun k=>by
    have:=HV.out.kept d hd k
    rwa [wv,hdV.out] at this
  have e2:∀ k:Kept (Ext w6.drew),k.w.cell? ⟨bb,a,none⟩ = some (.int .u64 (q5.toNat:Int)):=fun k=>by
    have:=HV.out.kept a ha k
    rwa [wv,haV.out] at this
  have f1:=xW_fact q2 q5
  rw [← hp6.out] at f1
  have kc:=hideit (mturn_any p6 16 (by decide))
  rw [← hq6.out] at kc
  refine wp_region_late 9 (by kernel_rfl) (by kernel_rfl) (by decide) ?_
  simp only [List.take_succ_cons,List.take_zero,List.drop_succ_cons,List.drop_zero]
  refine wpStrong_run 8 rfl ?_
  simp only [List.take_succ_cons,List.take_zero,List.drop_succ_cons,List.drop_zero]
  repeat (go_big_quiet_step (fail))
  refine wpQuiet_nil ?_
  refine wpStrong_call rfl (fun Y=>by simp [go_sem]) (fun Y _=>kc.out Y) ?_
  simp only [jk,jq,jv,jy]
  refine wpStrong_nil ?_
  intro X hX
  have hwX:Ext w6 X:=Ext.trans (Below.refl _ _).drew hX
  have HV':=hideit (HV.out.carry hwX)
  have HZ':=hideit (HZ.out.carry hwX)
  have HE':=hideit (Ext.trans HE.out hwX)
  clear hX hwX HV HZ HE hne e1 e2 kc f1
  have eX:=HV'.out.1 d hd
  have gX:=HV'.out.2.1 d hd
  have HV:Hid (RowAt bb 16 (wv fun j=>if j = d then q6 else V5 j) (X.setCell ⟨bb,d,none⟩ (.int .u64 (q6.toNat:Int)))):=(HV'.out.set d (.int .u64 (q6.toNat:Int))).congr fun j _=>by
    simp only [wv]
    split <;> rfl
  have HZ:=hideit (HZ'.out.other ⟨bb,d,none⟩ (.int .u64 (q6.toNat:Int)) (by show bb ≠ bb + 1; omega))
  have HE:=hideit (HE'.out.setCell (p:=⟨bb,d,none⟩) hb0 (.int .u64 (q6.toNat:Int)))
  go_upto_region 7 with (fail)
  generalize X.setCell ⟨bb,d,none⟩ (.int .u64 (q6.toNat:Int)) = w7 at *
  clear HV' HZ' HE' eX gX
  obtain ⟨V6,hV1⟩:∃ V',V' = fun j=>if j = d then q6 else V5 j:=⟨_,rfl⟩
  rw [← hV1] at HV
  have haV':Hid (V6 a = q5):=by rw [hV1]; exact (if_neg (by omega)).trans haV.out
  have hbV':Hid (V6 b = q4):=by rw [hV1]; exact (if_neg (by omega)).trans hbV.out
  have hcV':Hid (V6 c = q3):=by rw [hV1]; exact (if_neg (by omega)).trans hcV.out
  have hdV':Hid (V6 d = q6):=by rw [hV1]; exact if_pos rfl
  have hOV':Hid (∀ j,j ≠ a → j ≠ b → j ≠ c → j ≠ d → V6 j = v j):=fun j n1 n2 n3 n4=>by rw [hV1]; exact (if_neg (by omega)).trans (hOV.out j n1 n2 n3 n4)
  clear haV hbV hcV hdV hOV hV1
  have haV:=haV'
  have hbV:=hbV'
  have hcV:=hcV'
  have hdV:=hdV'
  have hOV:=hOV'
  clear haV' hbV' hcV' hdV' hOV'
  have hne:=kept_ne w7.drew
  have e1:∀ k:Kept (Ext w7.drew),k.w.cell? ⟨bb,c,none⟩ = some (.int .u64 (q3.toNat:Int)):=fun k=>by
    have:=HV.out.kept c hc k
    rwa [wv,hcV.out] at this
  have e2:∀ k:Kept (Ext w7.drew),k.w.cell? ⟨bb,d,none⟩ = some (.int .u64 (q6.toNat:Int)):=fun k=>by
    have:=HV.out.kept d hd k
    rwa [wv,hdV.out] at this
  have kc:=hideit (rplus_any q3 q6)
  rw [← hq7.out] at kc
  refine wp_region_late 8 (by kernel_rfl) (by kernel_rfl) (by decide) ?_
  simp only [List.take_succ_cons,List.take_zero,List.drop_succ_cons,List.drop_zero]
  refine wpStrong_run 7 rfl ?_
  simp only [List.take_succ_cons,List.take_zero,List.drop_succ_cons,List.drop_zero]
  repeat (go_big_quiet_step (fail))
  refine wpQuiet_nil ?_
  refine wpStrong_call rfl (fun Y=>by simp [go_sem]) (fun Y _=>(kc.out Y).mono fun e w' h=>⟨h.1,by rw [h.2]; exact Below.refl _ _⟩) ?_
  simp only [jk,jq,jv,jy]
  refine wpStrong_nil ?_
  intro X hX
  have hwX:Ext w7 X:=Ext.trans (Below.refl _ _).drew hX
  have HV':=hideit (HV.out.carry hwX)
  have HZ':=hideit (HZ.out.carry hwX)
  have HE':=hideit (Ext.trans HE.out hwX)
  clear hX hwX HV HZ HE hne e1 e2 kc
  have eX:=HV'.out.1 c hc
  have gX:=HV'.out.2.1 c hc
  have HV:Hid (RowAt bb 16 (wv fun j=>if j = c then q7 else V6 j) (X.setCell ⟨bb,c,none⟩ (.int .u64 (q7.toNat:Int)))):=(HV'.out.set c (.int .u64 (q7.toNat:Int))).congr fun j _=>by
    simp only [wv]
    split <;> rfl
  have HZ:=hideit (HZ'.out.other ⟨bb,c,none⟩ (.int .u64 (q7.toNat:Int)) (by show bb ≠ bb + 1; omega))
  have HE:=hideit (HE'.out.setCell (p:=⟨bb,c,none⟩) hb0 (.int .u64 (q7.toNat:Int)))
  go_upto_region 8 with (fail)
  generalize X.setCell ⟨bb,c,none⟩ (.int .u64 (q7.toNat:Int)) = w8 at *
  clear HV' HZ' HE' eX gX
  obtain ⟨V7,hV1⟩:∃ V',V' = fun j=>if j = c then q7 else V6 j:=⟨_,rfl⟩
  rw [← hV1] at HV
  have haV':Hid (V7 a = q5):=by rw [hV1]; exact (if_neg (by omega)).trans haV.out
  have hbV':Hid (V7 b = q4):=by rw [hV1]; exact (if_neg (by omega)).trans hbV.out
  have hcV':Hid (V7 c = q7):=by rw [hV1]; exact if_pos rfl
  have hdV':Hid (V7 d = q6):=by rw [hV1]; exact (if_neg (by omega)).trans hdV.out
  have hOV':Hid (∀ j,j ≠ a → j ≠ b → j ≠ c → j ≠ d → V7 j = v j):=fun j n1 n2 n3 n4=>by rw [hV1]; exact (if_neg (by omega)).trans (hOV.out j n1 n2 n3 n4)
  clear haV hbV hcV hdV hOV hV1
  have haV:=haV'
  have hbV:=hbV'
  have hcV:=hcV'
  have hdV:=hdV'
  have hOV:=hOV'
  clear haV' hbV' hcV' hdV' hOV'
  have hne:=kept_ne w8.drew
  have e1:∀ k:Kept (Ext w8.drew),k.w.cell? ⟨bb,b,none⟩ = some (.int .u64 (q4.toNat:Int)):=fun k=>by
    have:=HV.out.kept b hb k
    rwa [wv,hbV.out] at this
  have e2:∀ k:Kept (Ext w8.drew),k.w.cell? ⟨bb,c,none⟩ = some (.int .u64 (q7.toNat:Int)):=fun k=>by
    have:=HV.out.kept c hc k
    rwa [wv,hcV.out] at this
  have f1:=xW_fact q4 q7
  rw [← hp8.out] at f1
  have kc:=hideit (mturn_any p8 63 (by decide))
  rw [← hq8.out] at kc
  refine wp_region_late 9 (by kernel_rfl) (by kernel_rfl) (by decide) ?_
  simp only [List.take_succ_cons,List.take_zero,List.drop_succ_cons,List.drop_zero]
  refine wpStrong_run 8 rfl ?_
  simp only [List.take_succ_cons,List.take_zero,List.drop_succ_cons,List.drop_zero]
  repeat (go_big_quiet_step (fail))
  refine wpQuiet_nil ?_
  refine wpStrong_call rfl (fun Y=>by simp [go_sem]) (fun Y _=>kc.out Y) ?_
  simp only [jk,jq,jv,jy]
  refine wpStrong_nil ?_
  intro X hX
  have hwX:Ext w8 X:=Ext.trans (Below.refl _ _).drew hX
  have HV':=hideit (HV.out.carry hwX)
  have HZ':=hideit (HZ.out.carry hwX)
  have HE':=hideit (Ext.trans HE.out hwX)
  clear hX hwX HV HZ HE hne e1 e2 kc f1
  have eX:=HV'.out.1 b hb
  have gX:=HV'.out.2.1 b hb
  have HV:Hid (RowAt bb 16 (wv fun j=>if j = b then q8 else V7 j) (X.setCell ⟨bb,b,none⟩ (.int .u64 (q8.toNat:Int)))):=(HV'.out.set b (.int .u64 (q8.toNat:Int))).congr fun j _=>by
    simp only [wv]
    split <;> rfl
  have HZ:=hideit (HZ'.out.other ⟨bb,b,none⟩ (.int .u64 (q8.toNat:Int)) (by show bb ≠ bb + 1; omega))
  have HE:=hideit (HE'.out.setCell (p:=⟨bb,b,none⟩) hb0 (.int .u64 (q8.toNat:Int)))
  go_upto_region 9 with (fail)
  generalize X.setCell ⟨bb,b,none⟩ (.int .u64 (q8.toNat:Int)) = w9 at *
  clear HV' HZ' HE' eX gX
  obtain ⟨V8,hV1⟩:∃ V',V' = fun j=>if j = b then q8 else V7 j:=⟨_,rfl⟩
  rw [← hV1] at HV
  have haV':Hid (V8 a = q5):=by rw [hV1]; exact (if_neg (by omega)).trans haV.out
  have hbV':Hid (V8 b = q8):=by rw [hV1]; exact if_pos rfl
  have hcV':Hid (V8 c = q7):=by rw [hV1]; exact (if_neg (by omega)).trans hcV.out
  have hdV':Hid (V8 d = q6):=by rw [hV1]; exact (if_neg (by omega)).trans hdV.out
  have hOV':Hid (∀ j,j ≠ a → j ≠ b → j ≠ c → j ≠ d → V8 j = v j):=fun j n1 n2 n3 n4=>by rw [hV1]; exact (if_neg (by omega)).trans (hOV.out j n1 n2 n3 n4)
  clear haV hbV hcV hdV hOV hV1
  have haV:=haV'
  have hbV:=hbV'
  have hcV:=hcV'
  have hdV:=hdV'
  have hOV:=hOV'
  clear haV' hbV' hcV' hdV' hOV'
  have HR:Hid (RowAt bb 16 (wv R) w9):=hideit (HV.out.congr fun j _=>by
    simp only [wv]
    rw [hRj.out j]
    by_cases e1:j = d
    · rw [if_pos e1,e1,hdV.out]
    · rw [if_neg e1]
      by_cases e2:j = c
      · rw [if_pos e2,e2,hcV.out]
      · rw [if_neg e2]
        by_cases e3:j = b
        · rw [if_pos e3,e3,hbV.out]
        · rw [if_neg e3]
          by_cases e4:j = a
          · rw [if_pos e4,e4,haV.out]
          · rw [if_neg e4,hOV.out j e4 e3 e2 e1])
  clear HV
  go_wp2_with (first | (refine wpList_load_mid rfl 25 (.tmp 5) rfl _ 0 rfl (row 16 (wv R)) _ HR.out.range Tryd.underlying25 rfl (by rw [row_length]; exact info46) ?_) | (refine wpList_store_mid rfl 25 (.tmp 10) (.tmp 87) rfl _ 0 (row 16 (wv R)).toArray rfl rfl (by rw [row_size]; exact HZ.out.there) (by rw [row_size]; exact info46) (row_one fun _ _=>rfl) ?_))
  exact bodyPost_ret (ret_row Tryd.results72 rfl (HZ.out.cells (g':=wv R)) Tryd.underlying25 rfl info46) rfl ⟨rfl,below_setCells _ (by omega) _ _ _ HE.out⟩
end Go.Proofs.YtfbmeclpcgdmhabDoor
