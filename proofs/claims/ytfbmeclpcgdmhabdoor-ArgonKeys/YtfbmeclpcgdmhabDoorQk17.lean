/-
  The digest of all that came. A digest begun.
-/
import Derived.Test.YtfbmeclpcgdmhabDoorQk1
import Derived.Test.YtfbmeclpcgdmhabDoorQk13
import Derived.Test.YtfbmeclpcgdmhabDoorQk15
import Derived.Test.YtfbmeclpcgdmhabDoorQk16
namespace Go.Proofs.YtfbmeclpcgdmhabDoor
open Go.RowKit Go.BigFrame
def qOf (n:Nat):Nat:=(n - 1) / 128
def blakeF (h0:Nat → BitVec 64) (m:Nat → BitVec 8) (n:Nat):Nat → BitVec 8:=digF (pieceF (chainB h0 m (qOf n)) (pendB m (qOf n) (n - 128 * qOf n)) (BitVec.ofNat 64 n) true)
theorem dig_fact (a:BitVec 64) (k:Nat):(a.toNat:Int) / 2 ^ k % 256 = (((a >>> k).setWidth 8).toNat:Int):=by
  rw [BitVec.toNat_setWidth,BitVec.toNat_ushiftRight,Nat.shiftRight_eq_div_pow]
  simp
theorem done_fact (q wt:Nat):IntKind.u64.wrap (((BitVec.ofNat 64 (128 * q)).toNat:Int) + (wt:Int)) = ((BitVec.ofNat 64 (128 * q + wt)).toNat:Int):=by
  rw [IntKind.wrap_u64,BitVec.toNat_ofNat,BitVec.toNat_ofNat]
  omega
def spA:Nat → Sp:=fun _=>⟨fun b=>.pointer (some ⟨b,0,none⟩),fun b X=>RowAt b 8 (wv fun _=>0#64) X⟩
set_option maxRecDepth 20000 in
set_option maxHeartbeats 2000000 in
theorem sum_any (c sz n:Nat) (h0:Nat → BitVec 64) (m:Nat → BitVec 8) (w:World) (h:HashOf c sz h0 m n w) (hC:TabC w) (hsz:sz ≤ 64):
    Calls Tryd.prog 59 #[.pointer (some ⟨c,0,none⟩)] w fun e w'=>∃ v',e = .returned v' ∧ OwnB w.heap.size 5 v' sz (yv (blakeF h0 m n)) w' ∧ Ext w w':=by
  obtain ⟨q,wt,hq1,hq2,hq3,hS⟩:=h
  have hqo:qOf n = q:=by unfold qOf; omega
  have hz2:=zero30
  obtain ⟨s1,hs1⟩:∃ s1,s1 = pieceF (chainB h0 m q) (pendB m q wt) (BitVec.ofNat 64 n) true:=⟨_,rfl⟩
  have hR:blakeF h0 m n = digF s1:=by
    unfold blakeF
    rw [hqo,show n - 128 * q = wt by omega,hs1]
  rw [hR]
  clear hR
  have hpc:=piece_any (chainB h0 m q) (pendB m q wt) (BitVec.ofNat 64 n) true
  rw [← hs1] at hpc
  have hdn:=done_fact q wt
  rw [← hq1] at hdn
  unfold HashS at hS
  obtain ⟨s0,hs0⟩:∃ s0,s0 = chainB h0 m q:=⟨_,rfl⟩
  obtain ⟨p0,hp0⟩:∃ p0,p0 = pendB m q wt:=⟨_,rfl⟩
  obtain ⟨d1,hd1⟩:∃ d1,d1 = BitVec.ofNat 64 n:=⟨_,rfl⟩
  obtain ⟨d0,hd0⟩:∃ d0,d0 = BitVec.ofNat 64 (128 * q):=⟨_,rfl⟩
  rw [← hs0,← hp0,← hd1] at hpc
  rw [← hs0,← hp0,← hd0] at hS
  rw [← hd0,← hd1] at hdn
  have HH:=hideit hS
  replace hpc:=hideit hpc
  replace hC:=hideit hC
  have w0:(0:Int) ≤ (wt:Int):=by omega
  have w1:(wt:Int) ≤ 128:=by omega
  clear hS hs0 hp0 hd0 hd1 hs1 hq1 hqo hq3
  go_enter Tryd.func59,Tryd.ntmps59
  go_upto_region 3 with (fail)
  have hne:=kept_ne w.drew
  have e9:∀ k:Kept (Ext w.drew),k.w.cell? ⟨c,9,none⟩ = some (.int .u64 (d0.toNat:Int)):=fun k=>HashAt.done (RowAt.carry (RowAt.drew HH.out) k.ok)
  have e8:∀ k:Kept (Ext w.drew),k.w.cell? ⟨c,138,none⟩ = some (.int .i64 (wt:Int)):=fun k=>HashAt.wait (RowAt.carry (RowAt.drew HH.out) k.ok)
  refine wp_region_two spA (fun _ _ _ _ hh hk=>RowAt.carry hh hk) [0,1,2,3,4,5,6,7,8,9,10,11,12,13,14,15,16,17,18] [19] [20] [_,_,_,_,_,_,_,_,_,_,_,_,_,_,_,_,_,_,_] [_] (by kernel_rfl) (by kernel_rfl) rfl rfl (by decide +kernel) (by decide +kernel) (by decide +kernel) (by decide +kernel) (by decide +kernel) (by decide +kernel) (by decide +kernel) (by decide +kernel) ?_
  simp only [List.getElem_toArray,List.getElem_cons_zero,List.getElem_cons_succ]
  refine wpStrong_run 18 rfl ?_
  simp only [List.take_succ_cons,List.take_zero,List.drop_succ_cons,List.drop_zero]
  go_big_quiet_step (fail)
  go_big_quiet_step (fail)
  go_big_quiet_step (fail)
  go_big_quiet_want
  refine loadQ 92 (.tmp 10) c 1 8 (wv s0) rfl rfl (fun w' hw'=>HashAt.state (RowAt.carry (RowAt.drew HH.out) hw')) Tryd.underlying92 rfl info30 ?_
  simp only [jk,jq,jv,jy]
  go_big_quiet_on
  go_big_quiet_step (fail)
  go_big_quiet_step (fail)
  go_big_quiet_step (fail)
  go_big_quiet_want
  refine loadQ 94 (.tmp 14) c 10 128 (yv p0) rfl rfl (fun w' hw'=>HashAt.piece (RowAt.carry (RowAt.drew HH.out) hw')) Tryd.underlying94 rfl info31 ?_
  simp only [jk,jq,jv,jy]
  go_big_quiet_on
  repeat (go_big_quiet_step (fail))
  refine wpQuiet_nil ?_
  refine wpStrong_call rfl (fun X=>by simp [go_sem]) (fun X hX=>hpc.out X (hC.out.ext (Ext.trans (Below.refl _ _).drew hX))) ?_
  simp only [jk,jq,jv,jy]
  refine wpStrong_nil ?_
  refine ⟨_,rfl,GenY.make rfl (fun X hX=>⟨.cells (row 8 (wv fun _=>0#64)).toArray 92,by simp [go_sem,hz2,spA],RowAt.new X 8 _ 92⟩),fun b3 hb3 _=>?_⟩
  simp only [List.getElem_toArray,List.getElem_cons_zero,List.getElem_cons_succ,Act.put,List.setIfInBounds_toArray,List.set_cons_zero,List.set_cons_succ,spA]
  intro X hX hH
  have hwX:Ext w X:=Ext.trans (Below.refl _ _).drew hX
  have HN:=hideit (hH (b3,19) (by simp)).1
  have HHX:Hid (HashAt c sz s0 d0 p0 wt X):=RowAt.carry HH.out hwX
  have HE:=hideit hwX
  have hcb:c < b3:=Nat.lt_of_lt_of_le HH.out.2.2 hb3
  have hb3':w.heap.size ≤ b3:=hb3
  clear hX hH hwX HH hne e9 e8 hpc hb3
  refine wpList_store_mid rfl 92 (.tmp 3) (.tmp 26) rfl b3 0 (row 8 (wv s1)).toArray rfl rfl (by rw [row_size]; exact RowAt.there HN.out) (by rw [row_size]; exact info30) (row_one fun _ _=>rfl) ?_
  have HS1:Hid (RowAt b3 8 (wv s1) (X.setCells b3 0 (row 8 (wv s1)))):=RowAt.cells HN.out
  have HH1:Hid (HashAt c sz s0 d0 p0 wt (X.setCells b3 0 (row 8 (wv s1)))):=RowAt.cellsOther HHX.out (by omega) _ _
  have HE1:=hideit (below_setCells b3 hb3' (row 8 (wv s1)) 0 _ HE.out)
  generalize X.setCells b3 0 (row 8 (wv s1)) = x1 at *
  clear HN HHX HE
  simp only [Act.put]
  have e0:=HH1.out.size
  go_upto_region 4 with (fail)
  refine wp_region_lit ?_
  refine wpList_run rfl (.pointer (some ⟨c,0,none⟩)) (by simp [go_sem]) ?_
  simp only [jk,jq,jv,jy]
  refine wpList_run rfl (.pointer (some ⟨c,0,none⟩)) (by simp [go_sem]) ?_
  simp only [jk,jq,jv,jy]
  refine wpList_run rfl (.pointer (some ⟨c,0,none⟩)) (by simp [go_sem]) ?_
  simp only [jk,jq,jv,jy]
  refine wpList_run rfl (.int .i64 (sz:Int)) (by simp [go_sem,e0]) ?_
  simp only [jk,jq,jv,jy]
  refine wpList_made x1 Tryd.underlying32 (by kernel_rfl) rfl (.tmp 30) (.tmp 30) rfl sz rfl rfl (by omega) ?_
  intro x2 hO2 hE2
  have HS2:=hideit (HS1.out.carry hE2)
  have HE2:=hideit (Ext.trans HE1.out hE2)
  have hbx:b3 < x1.heap.size:=HS1.out.2.2
  have hwx1:w.heap.size ≤ x1.heap.size:=Below.size HE1.out
  obtain ⟨b4,hb4⟩:∃ b4,b4 = x1.heap.size:=⟨_,rfl⟩
  rw [← hb4] at hO2 hbx hwx1 ⊢
  have HO2:=hideit hO2
  clear hO2 hE2 HS1 HE1 HH1 e0 hb4
  simp only [jk,jq,jv,jy]
  refine wpList_run rfl (.slice (some ⟨b4,0,none⟩) sz sz) (by simp [go_sem]) ?_
  simp only [jk,jq,jv,jy]
  go_wp2
  go_loopw [34] (fun iv wr=>∃ i:Nat,i ≤ sz ∧ iv = .int .i64 (i:Int) ∧ OwnB w.heap.size 5 (.slice (some ⟨b4,0,none⟩) sz sz) sz (yv fun j=>if j < i then digF s1 j else 0#8) wr ∧ RowAt b3 8 (wv s1) wr ∧ Ext w wr) (fun iv _=>sz - (intOf iv).toNat)
  case atStart=>exact ⟨0,by omega,rfl,(HO2.out.down hwx1).congr fun j _=>by simp [yv],HS2.out,HE2.out⟩
  case round=>
    clear HO2 HS2 HE2
    obtain ⟨i,hi,rfl,hO,hS,hE⟩:=hrel
    have HO:=hideit hO
    have HS:=hideit hS
    have HE:=hideit hE
    clear hO hS hE
    by_cases hlt:i < sz
    · have i0:(0:Int) ≤ (i:Int):=by omega
      have i1:(i:Int) < (sz:Int):=by omega
      obtain ⟨g,cp9,hv,hg1,hg2,hg3,hRow⟩:=HO.out.lies (by omega)
      injection hv with q1 q2 q3
      injection q1 with q1
      injection q1 with q1
      subst q1
      have ec:=hRow.1 i hlt
      have gc:=hRow.2.1 i hlt
      have es:=HS.out.1 (i / 8) (by omega)
      simp only [wv] at es
      clear hRow hg1 hg2 hg3 q2 q3
      have i2:(0:Int) ≤ (i:Int) / 8:=by omega
      have i3:(i:Int) / 8 < 8:=by omega
      have b1:=(s1 (i / 8)).isLt
      go_wp2
      rw [dig_fact]
      refine ⟨⟨i + 1,by omega,by go_num,(HO.out.set (b:=b4) rfl i hlt (yv (digF s1) i)).congr fun j _=>?_,HS.out.other _ _ (by show b4 ≠ b3; omega),HE.out.setCell (by show w.heap.size ≤ b4; omega) _⟩,by simp [intOf]; omega⟩
      simp only [yv]
      by_cases e:j = i
      · subst e; rw [if_pos rfl,if_pos (by omega)]
      · rw [if_neg e]
        by_cases h:j < i
        · rw [if_pos h,if_pos (by omega)]
        · rw [if_neg h,if_neg (by omega)]
    · obtain rfl:i = sz:=by omega
      have i1:¬ (i:Int) < (i:Int):=by omega
      have HR:=hideit (HO.out.congr (g':=yv (digF s1)) fun j hj=>by simp only [yv]; rw [if_pos hj])
      go_wp2
      go_ret
      exact ⟨_,rfl,HR.out,HE.out⟩
end Go.Proofs.YtfbmeclpcgdmhabDoor
namespace Go.Proofs.YtfbmeclpcgdmhabDoor
open Go.RowKit Go.BigFrame
def k0 (nn l:Nat):BitVec 64:=xW (xW 16842752#64 (BitVec.ofNat 64 (l * 256))) (BitVec.ofNat 64 nn)
def h0F (nn l j:Nat):BitVec 64:=if j = 0 then xW (fT 0) (k0 nn l) else fT j
def keyF (l:Nat) (key:Nat → BitVec 8) (j:Nat):BitVec 8:=if j < l then key j else 0#8
def keyN (l:Nat):Nat:=if l = 0 then 0 else 128
theorem bld55 (nn:Nat) (X:World):(Instr.build 103 #[(0,.int .i64 (nn:Int)),(1,.agg (row 8 (wv fT)).toArray)]).run Tryd.prog X = .ok (.agg (row 139 (hv nn fT 0#64 (fun _=>0#8) 0)).toArray) X:=by kernel_rfl
theorem cutA (c:Nat) (X:World):Sem.run Tryd.prog (Instr.sliceAt 94 (.pointer (some ⟨c,10,none⟩)) none none none) X = .ok (.slice (some ⟨c,10,none⟩) 128 128) X:=by kernel_rfl
set_option maxRecDepth 20000 in
set_option maxHeartbeats 2000000 in
theorem new_any (nn l:Nat) (hn1:1 ≤ nn) (hn2:nn ≤ 64) (hl:l ≤ 64) (v:Value) (key:Nat → BitVec 8) (w:World) (h:BV v l key w):
    Calls Tryd.prog 57 #[.int .i64 (nn:Int),v] w fun e w'=>∃ c,w.heap.size ≤ c ∧ e = .returned (.tuple #[.pointer (some ⟨c,0,none⟩),.int .i64 0]) ∧ HashOf c nn (h0F nn l) (keyF l key) (keyN l) w' ∧ Ext w w':=by
  obtain ⟨oa,cp,rfl⟩:=h.form
  have hB:=hideit h
  clear h
  have hbd:∀ X,(Instr.build 103 #[(0,.int .i64 (nn:Int)),(1,.agg (row 8 (wv fT)).toArray)]).run Tryd.prog X = .ok (.agg (row 139 (hv nn fT 0#64 (fun _=>0#8) 0)).toArray) X:=bld55 nn
  have hfi:=first_any
  have hF0:Hid (∀ j,h0F nn l j = if j = 0 then xW (fT 0) (k0 nn l) else fT j):=fun j=>rfl
  obtain ⟨f,hf⟩:∃ f,f = fT:=⟨_,rfl⟩
  rw [← hf] at hbd hfi hF0
  clear hf
  replace hbd:=hideit hbd
  replace hfi:=hideit hfi
  have i1:¬ (nn:Int) < 1:=by omega
  have i2:¬ (64:Int) < (nn:Int):=by omega
  have i3:¬ (64:Int) < (l:Int):=by omega
  have i4:(0:Int) ≤ (l:Int):=by omega
  have i5:(0:Int) ≤ (nn:Int):=by omega
  go_enter Tryd.func57,Tryd.ntmps57
  go_upto_region 3 with (fail)
  refine wp_region_lit ?_
  refine wpList_run rfl (.int .i64 (nn:Int)) (by simp [go_sem]) ?_
  simp only [jk,jq,jv,jy]
  refine wpList_call rfl (by simp [go_sem]) ((hfi.out w).mono ?_)
  rintro e w1 ⟨rfl,hw1⟩
  refine ⟨_,rfl,?_⟩
  simp only [jk,jq,jv,jy]
  refine wpList_build rfl 103 [(0,.tmp 18),(1,.tmp 19)] rfl _ (hbd.out _) ?_
  simp only [jk,jq,jv,jy]
  have hE2:Ext w (w1.alloc (.cells (row 139 (hv nn f 0#64 (fun _=>0#8) 0)).toArray 103)):=Ext.trans hw1 ((Below.refl _ _).alloc (Nat.le_refl _) _)
  have HH:HashAt w1.heap.size nn f 0#64 (fun _=>0#8) 0 (w1.alloc (.cells (row 139 (hv nn f 0#64 (fun _=>0#8) 0)).toArray 103)):=RowAt.new w1 139 _ 103
  have hsz1:w.heap.size ≤ w1.heap.size:=Below.size hw1
  refine wpList_to rfl (.pointer (some ⟨w1.heap.size,0,none⟩)) (w1.alloc (.cells (row 139 (hv nn f 0#64 (fun _=>0#8) 0)).toArray 103)) (by simp [go_sem]) ?_
  simp only [jk,jq,jv,jy]
  replace HH:=hideit HH
  have HE:=hideit hE2
  generalize w1.alloc (.cells (row 139 (hv nn f 0#64 (fun _=>0#8) 0)).toArray 103) = w2 at *
  generalize w1.heap.size = c at *
  clear hE2 hw1 hfi hbd
  refine wpList_run rfl (.pointer (some ⟨c,0,none⟩)) (by simp [go_sem]) ?_
  simp only [jk,jq,jv,jy]
  go_upto_region 4 with (fail)
  have hne:=kept_ne w2.drew
  have e1:∀ k:Kept (Ext w2.drew),k.w.cell? ⟨c,1,none⟩ = some (.int .u64 ((f 0).toNat:Int)):=fun k=>(RowAt.carry (RowAt.drew HH.out) k.ok).1 1 (by omega)
  have hx1:bits .xor .u64 16842752 ((l:Int) * 256) = ((xW 16842752#64 (BitVec.ofNat 64 (l * 256))).toNat:Int):=by
    have h1:=xW_fact 16842752#64 (BitVec.ofNat 64 (l * 256))
    rw [show ((BitVec.ofNat 64 (l * 256)).toNat:Int) = (l:Int) * 256 by rw [BitVec.toNat_ofNat,Nat.mod_eq_of_lt (show l * 256 < 2 ^ 64 by omega),Int.natCast_mul]; rfl] at h1
    exact h1
  have hx2:bits .xor .u64 ((xW 16842752#64 (BitVec.ofNat 64 (l * 256))).toNat:Int) (nn:Int) = ((k0 nn l).toNat:Int):=by
    have h1:=xW_fact (xW 16842752#64 (BitVec.ofNat 64 (l * 256))) (BitVec.ofNat 64 nn)
    rw [show ((BitVec.ofNat 64 nn).toNat:Int) = (nn:Int) by rw [BitVec.toNat_ofNat,Nat.mod_eq_of_lt (show nn < 2 ^ 64 by omega)]] at h1
    exact h1
  have hx3:=xW_fact (f 0) (k0 nn l)
  refine wp_region_late 16 (by kernel_rfl) (by kernel_rfl) (by decide) ?_
  simp only [List.take_succ_cons,List.take_zero,List.drop_succ_cons,List.drop_zero]
  refine wpStrong_run 6 rfl ?_
  simp only [List.take_succ_cons,List.take_zero,List.drop_succ_cons,List.drop_zero]
  repeat (go_big_quiet_step (fail))
  refine wpQuiet_nil ?_
  refine ⟨.int .i64 (l:Int),.inl ⟨rfl,fun X hX=>by simp [go_sem,strongUpon]⟩,?_⟩
  simp only [jk,jq,jv,jy]
  refine wpStrong_run 9 rfl ?_
  simp only [List.take_succ_cons,List.take_zero,List.drop_succ_cons,List.drop_zero]
  repeat (go_big_quiet_step (fail))
  refine wpQuiet_nil ?_
  refine wpStrong_nil ?_
  intro X hX
  have hwX:Ext w2 X:=Ext.trans (Below.refl _ _).drew hX
  have HH2:Hid (HashAt c nn f 0#64 (fun _=>0#8) 0 X):=RowAt.carry HH.out hwX
  have HE2:=hideit (Ext.trans HE.out hwX)
  clear hX hwX HH HE hne e1 hx1 hx2 hx3
  have eX:X.cell? ⟨c,1,none⟩ = some (.int .u64 ((f 0).toNat:Int)):=HH2.out.1 1 (by omega)
  have gX:=HH2.out.2.1 1 (by omega)
  have HH3:HashAt c nn (h0F nn l) 0#64 (fun _=>0#8) 0 (X.setCell ⟨c,1,none⟩ (.int .u64 ((xW (f 0) (k0 nn l)).toNat:Int))):=(RowAt.set HH2.out 1 (.int .u64 ((xW (f 0) (k0 nn l)).toNat:Int))).congr fun j hj=>by
    by_cases e:j = 1
    · subst e; rw [if_pos rfl]; simp only [hv,wv,hF0.out]; rfl
    · rw [if_neg e]
      unfold hv
      by_cases e0:j = 0
      · rw [if_pos e0,if_pos e0]
      · rw [if_neg e0,if_neg e0]
        split
        · simp only [wv,hF0.out]
          rw [if_neg (by omega)]
        · rfl
  replace HH3:=hideit HH3
  have HE3:=hideit (HE2.out.setCell (p:=⟨c,1,none⟩) hsz1 (.int .u64 ((xW (f 0) (k0 nn l)).toNat:Int)))
  by_cases hl0:l = 0
  · replace hl0:=hideit hl0
    have j1:¬ (0:Int) < (l:Int):=by have:=hl0.out; omega
    have HF:HashOf c nn (h0F nn l) (keyF l key) (keyN l) (X.setCell ⟨c,1,none⟩ (.int .u64 ((xW (f 0) (k0 nn l)).toNat:Int))):=⟨0,0,by unfold keyN; rw [if_pos hl0.out],by omega,fun _=>rfl,HH3.out.congrP fun j _=>by unfold pendB; rw [if_neg (by omega)]⟩
    replace HF:=hideit HF
    go_wp2
    exact bodyPost_ret (v:=.tuple #[.pointer (some ⟨c,0,none⟩),.int .i64 0]) (by simp [results,Tryd.results57]) rfl ⟨c,hsz1,rfl,HF.out,HE3.out⟩
  · have j1:(0:Int) < (l:Int):=by omega
    obtain ⟨ka,rfl⟩:∃ a,oa = some a:=by
      rcases hB.out with ⟨h,h0⟩ | ⟨a,cap',h,_⟩
      · exact absurd h0 hl0
      · injection h with e1 e2 e3
        exact ⟨a,e1⟩
    have hLie:LieAt ka l (yv key) w:=by
      rcases hB.out with ⟨h,h0⟩ | ⟨a,cap',h,_,h3⟩
      · exact absurd h0 hl0
      · injection h with e1 e2 e3
        injection e1 with e1
        rw [e1]
        exact h3
    have hLX:=hideit (hLie.carry HE3.out)
    clear hLie
    go_upto_region 6 with (fail)
    generalize X.setCell ⟨c,1,none⟩ (.int .u64 ((xW (f 0) (k0 nn l)).toNat:Int)) = x3 at *
    clear HH2 HE2 eX gX
    have hcut:=cutA c
    refine wp_region_lit ?_
    refine wpList_run rfl (.pointer (some ⟨c,0,none⟩)) (by simp [go_sem]) ?_
    simp only [jk,jq,jv,jy]
    refine wpList_run rfl (.pointer (some ⟨c,0,none⟩)) (by simp [go_sem]) ?_
    simp only [jk,jq,jv,jy]
    refine wpList_run rfl (.pointer (some ⟨c,10,none⟩)) (by simp [go_sem]) ?_
    simp only [jk,jq,jv,jy]
    refine wpList_run rfl (.slice (some ⟨c,10,none⟩) 128 128) (by simp [go_sem,hcut]) ?_
    simp only [jk,jq,jv,jy]
    refine wpList_run rfl (.slice (some ka) l cp) (by simp [go_sem]) ?_
    simp only [jk,jq,jv,jy]
    refine wpList_copy_row rfl (.tmp 45) (.tmp 46) 32 32 rfl 5 Tryd.underlying32 info5 c 139 _ HH3.out 10 128 128 ka l cp rfl rfl l (yv key) (Nat.min_eq_left (by omega:l ≤ 128)).symm (fun j hj=>hLX.out.1 j hj) (by omega) (fun _ _=>rfl) ?_
    have HH4:=hideit (HashAt.setPiece HH3.out 0 l (by omega) key (keyF l key) (fun j _=>by
      unfold keyF
      by_cases h:j < l
      · rw [if_pos h,if_pos (by omega),Nat.sub_zero]
      · rw [if_neg h,if_neg (by omega)]))
    have HE4:=hideit (below_setCells c hsz1 (row l (yv key)) 10 _ HE3.out)
    have hwrite:x3.setCells c (10 + 0) (row l (yv key)) = x3.setCells c 10 (row l (yv key)):=rfl
    rw [hwrite] at HH4
    generalize x3.setCells c 10 (row l (yv key)) = x4 at *
    clear HH3 HE3 hLX hcut hwrite
    simp only [jk,jq,jv,jy]
    have e138:=HH4.out.wait
    have g138:=HH4.out.2.1 138 (by omega)
    have HH5:=hideit (HH4.out.setWait 128)
    have HE5:=hideit (HE4.out.setCell (p:=⟨c,138,none⟩) hsz1 (.int .i64 128))
    go_wp2
    refine bodyPost_ret (v:=.tuple #[.pointer (some ⟨c,0,none⟩),.int .i64 0]) (by simp [results,Tryd.results57]) rfl ⟨c,hsz1,rfl,⟨0,128,by unfold keyN; rw [if_neg hl0],by omega,fun h=>by omega,?_⟩,HE5.out⟩
    exact HH5.out.congrP fun j hj=>by
      unfold pendB
      rw [if_pos hj,Nat.mul_zero,Nat.zero_add]
end Go.Proofs.YtfbmeclpcgdmhabDoor
