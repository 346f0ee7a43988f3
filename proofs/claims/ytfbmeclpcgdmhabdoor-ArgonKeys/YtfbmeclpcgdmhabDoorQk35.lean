/-
  What must come of every program. The document's order and its first words.
-/
import Derived.Test.YtfbmeclpcgdmhabDoorQk1
import Derived.Test.YtfbmeclpcgdmhabDoorQk34
import Derived.Test.YtfbmeclpcgdmhabDoorQk16
import Derived.Test.YtfbmeclpcgdmhabDoorQk9
namespace Go.Proofs.YtfbmeclpcgdmhabDoor
open Go.RowKit Go.BigFrame
set_option linter.unusedVariables false
set_option maxRecDepth 20000 in
set_option maxHeartbeats 4000000 in
theorem of_any (n:Nat) (c:BitVec 8) (w:World) (hn:1 ≤ n ∧ n ≤ 1000):Calls Tryd.prog 37 #[.int .i64 (n:Int),.int .u8 (c.toNat:Int)] w fun e w'=>∃ g,e = .returned (.slice (some ⟨g,0,none⟩) n n) ∧ RowAt g n (yv fun _=>c) w' ∧ Ext w w':=by
  have hn1:1 ≤ n ∧ n ≤ 1000:=hn
  go_enter Tryd.func37,Tryd.ntmps37
  go_upto_region 1 with (fail)
  refine wp_region_lit ?_
  refine xm [some (.int .i64 (n:Int))] (by kernel_rfl) (by simp [xr,go_sem]) ?_
  simp only [xw,p0,p1,p2,p3]
  refine wpList_made w Tryd.underlying32 (by kernel_rfl) rfl (.tmp 7) (.tmp 7) rfl n rfl rfl (by omega) ?_
  intro w1 hO hX
  simp only [jk,jq,jv,jy]
  obtain ⟨g,gc,hg,hgw,_,_,hR⟩:=hO.lies (by omega)
  injection hg with hg1 _ hg3
  injection hg1 with hg1
  injection hg1 with hg1
  rw [hg1]
  have hgw:=hideit hgw
  have hR:=hideit hR
  have hX:=hideit hX
  clear hO hg3 hg1
  refine xm [some (.slice (some ⟨g,0,none⟩) n n)] (by kernel_rfl) (by simp [xr,go_sem]) ?_
  simp only [xw,p0,p1,p2,p3]
  go_upto_region 3 with (fail)
  go_loopw [6] (fun i X=>∃ k:Nat,k ≤ n ∧ i = .int .i64 (k:Int) ∧ RowAt g n (yv fun j=>if j < k then c else 0#8) X ∧ Ext w X) (fun i _=>2000 - (intOf i).toNat)
  case atStart=>exact ⟨0,Nat.zero_le _,rfl,hR.out.congr (fun j _=>by unfold yv; dsimp only; rw [if_neg (Nat.not_lt_zero _)]),hX.out⟩
  case round=>
    clear hR hX
    obtain ⟨k,hk,rfl,hR,hX⟩:=hrel
    replace hR:=hideit hR
    replace hX:=hideit hX
    by_cases hlt:k < n
    · have k1:(k:Int) < (n:Int):=by omega
      have ek:IntKind.i64.wrap ((k:Int) + 1) = ((k + 1:Nat):Int):=by rw [IntKind.wrap_i64]; omega
      go_upto_region 3 with (fail)
      refine wp_region_lit ?_
      refine xm [some (.int .i64 (k:Int)),some (.int .i64 (n:Int)),some (.bool true)] (by kernel_rfl) (by simp [xr,go_sem,k1]) ?_
      simp only [xw,p0,p1,p2,p3]
      go_upto_region 5 with (fail)
      refine wp_region_lit ?_
      refine xm [some (.slice (some ⟨g,0,none⟩) n n),some (.int .i64 (k:Int)),some (.int .u8 (c.toNat:Int)),some (.pointer (some ⟨g,k,none⟩))] (by kernel_rfl) (by simp [xr,go_sem,k1,add00]) ?_
      simp only [xw,p0,p1,p2,p3]
      have M0:wr.cell? ⟨g,k,none⟩ = some (.int .u8 ((if k < k then c else 0#8).toNat:Int)):=hR.out.1 k hlt
      have M1:=hR.out.2.1 k hlt
      have N0:Hid (RowAt g n (yv fun j=>if j < k + 1 then c else 0#8) (wr.setCell ⟨g,k,none⟩ (.int .u8 (c.toNat:Int)))):=(hR.out.set k (.int .u8 (c.toNat:Int))).congr fun j hj=>by
        unfold yv
        dsimp only
        by_cases e:j = k
        · rw [if_pos e,if_pos (by omega)]
        · rw [if_neg e]
          by_cases e2:j < k
          · rw [if_pos e2,if_pos (by omega)]
          · rw [if_neg e2,if_neg (by omega)]
      have NE:=hideit (hX.out.setCell (p:=⟨g,k,none⟩) hgw.out (.int .u8 (c.toNat:Int)))
      refine xst rfl (wr.setCell ⟨g,k,none⟩ (.int .u8 (c.toNat:Int))) (by simp [go_sem,M0,M1]) ?_
      simp only [Act.put]
      generalize wr.setCell ⟨g,k,none⟩ (.int .u8 (c.toNat:Int)) = x9 at N0 NE ⊢
      clear M0 M1 hR hX
      go_upto_region 4 with (fail)
      refine wp_region_lit ?_
      refine xm [some (.int .i64 (k:Int)),some (.int .i64 ((k + 1:Nat):Int)),some (.int .i64 ((k + 1:Nat):Int))] (by kernel_rfl) (by simp [xr,go_sem,ek]) ?_
      simp only [xw,p0,p1,p2,p3]
      go_wp2
      exact ⟨⟨k + 1,by omega,rfl,N0.out,NE.out⟩,by simp [intOf]; omega⟩
    · obtain rfl:k = n:=by omega
      go_upto_region 3 with (fail)
      refine wp_region_lit ?_
      refine xm [some (.int .i64 (k:Int)),some (.int .i64 (k:Int)),some (.bool false)] (by kernel_rfl) (by simp [xr,go_sem]) ?_
      simp only [xw,p0,p1,p2,p3]
      go_upto_region 6 with (fail)
      refine wp_region_lit ?_
      refine xm [some (.slice (some ⟨g,0,none⟩) k k),some (.slice (some ⟨g,0,none⟩) k k)] (by kernel_rfl) (by simp [xr,go_sem]) ?_
      simp only [xw,p0,p1,p2,p3]
      go_wp2
      go_ret
      exact ⟨g,rfl,hR.out.congr (fun j hj=>by unfold yv; dsimp only; rw [if_pos hj]),hX.out⟩
def lvL (i:Nat):Nat:=if i = 0 then 32 else if i = 1 then 16 else if i = 2 then 8 else 12
def lvF (i:Nat) (_:Nat):BitVec 8:=BitVec.ofNat 8 (i + 1)
def lvG (g0 g1 g2 g3 i:Nat):Option Addr:=if i = 0 then some ⟨g0,0,none⟩ else if i = 1 then some ⟨g1,0,none⟩ else if i = 2 then some ⟨g2,0,none⟩ else some ⟨g3,0,none⟩
set_option maxRecDepth 100000 in
theorem lv_text:∀ j,j < 108 → allF (sdL lvL) (sdB 32 3 32 4 lvL lvF) 14 j = bf txN j:=by decide +kernel
theorem lv_sum:sumL (sdL lvL) 14 = 108:=by decide
theorem lv_seed (j:Nat) (hj:j < 64):sdF 32 3 32 4 lvL lvF j = bf sdN j:=by
  unfold sdF
  rw [lv_sum]
  exact kn_seed _ lv_text j hj
theorem key_lv (g0 g1 g2 g3:Nat) (w:World) (h0:RowAt g0 32 (yv fun _=>1#8) w) (h1:RowAt g1 16 (yv fun _=>2#8) w) (h2:RowAt g2 8 (yv fun _=>3#8) w) (h3:RowAt g3 12 (yv fun _=>4#8) w) (hC:TabC w) (hTM:TabM w):
    Calls Tryd.prog 11 #[.int .i64 32,.agg (row 3 (pav 3 32 4)).toArray,.agg (row 4 (scv (.slice (some ⟨g0,0,none⟩) 32 32) (.slice (some ⟨g1,0,none⟩) 16 16) (.slice (some ⟨g2,0,none⟩) 8 8) (.slice (some ⟨g3,0,none⟩) 12 12))).toArray] w fun e w'=>∃ g c,e = .returned (.tuple #[.slice (some ⟨g,0,none⟩) 32 c,.int .i64 0]) ∧ (∃ K:Nat → BitVec 8,RowAt g 32 (yv K) w' ∧ K 0 = 13#8 ∧ K 1 = 100#8 ∧ K 2 = 13#8 ∧ K 30 = 230#8 ∧ K 31 = 89#8) ∧ Ext w w':=by
  have hk:=kn_key (sdF 32 3 32 4 lvL lvF) lv_seed
  refine (key_ok 32 3 32 4 (lvG g0 g1 g2 g3) lvL lvL lvF w ⟨⟨by decide,by decide⟩,⟨⟨by decide,by decide⟩,⟨by decide,by decide⟩,by decide,by decide⟩,by unfold okC lvL; decide⟩ (fun i hi=>?_) hC hTM).mono ?_
  · rcases (by omega:i = 0 ∨ i = 1 ∨ i = 2 ∨ i = 3) with rfl | rfl | rfl | rfl
    · exact .inr ⟨_,_,rfl,Nat.le_refl _,h0.lie 32 (Nat.le_refl _)⟩
    · exact .inr ⟨_,_,rfl,Nat.le_refl _,h1.lie 16 (Nat.le_refl _)⟩
    · exact .inr ⟨_,_,rfl,Nat.le_refl _,h2.lie 8 (Nat.le_refl _)⟩
    · exact .inr ⟨_,_,rfl,Nat.le_refl _,h3.lie 12 (Nat.le_refl _)⟩
  · rintro e w' ⟨v,rfl,hO,hX⟩
    obtain ⟨g,c,rfl,_,_,_,hR⟩:=hO.lies (by decide)
    exact ⟨g,c,rfl,⟨_,hR,hk⟩,hX⟩
theorem bld31 (a b c:Int) (X:World):(Instr.build 31 #[(0,.int .i64 a),(1,.int .i64 b),(2,.int .i64 c)]).run Tryd.prog X = .ok (.agg (row 3 (pav a b c)).toArray) X:=by kernel_rfl
theorem bld31z (X:World):(Instr.build 31 #[]).run Tryd.prog X = .ok (.agg (row 3 (pav 0 0 0)).toArray) X:=by kernel_rfl
theorem bld34 (a b c d:Option Addr) (l0 l1 l2 l3 k0 k1 k2 k3:Nat) (X:World):(Instr.build 34 #[(0,.slice a l0 k0),(1,.slice b l1 k1),(2,.slice c l2 k2),(3,.slice d l3 k3)]).run Tryd.prog X = .ok (.agg (row 4 (scv (.slice a l0 k0) (.slice b l1 k1) (.slice c l2 k2) (.slice d l3 k3))).toArray) X:=by kernel_rfl
set_option maxRecDepth 20000 in
set_option maxHeartbeats 4000000 in
theorem alives (w:World) (hC:TabC w) (hTM:TabM w):Calls Tryd.prog 13 #[] w fun e w'=>e = .returned (.bool true) ∧ Ext w w':=by
  replace hC:=hideit hC
  replace hTM:=hideit hTM
  have hE:=hideit (Ext.refl w)
  go_enter Tryd.func13,Tryd.ntmps13
  go_upto_region 1 with (fail)
  refine wp_region_lit ?_
  refine wpList_run rfl (.agg (row 3 (pav 3 32 4)).toArray) (xbuild 31 [(0,.const (.int .i64 3)),(1,.const (.int .i64 32)),(2,.const (.int .i64 4))] rfl _ (bld31 3 32 4 _)) ?_
  simp only [jk,jq,jv,jy]
  refine wpList_call rfl (by simp [go_sem]) ((of_any 32 1#8 w (by decide)).mono ?_)
  rintro e x1 ⟨g0,rfl,R0,hX2⟩
  refine ⟨_,rfl,?_⟩
  simp only [jk,jq,jv,jy]
  replace hC:=hideit (hC.out.ext hX2)
  replace hTM:=hideit (hTM.out.ext hX2)
  replace hE:=hideit (Ext.trans hE.out hX2)
  have R0:=hideit R0
  clear hX2
  refine wpList_call rfl (by simp [go_sem]) ((of_any 16 2#8 x1 (by decide)).mono ?_)
  rintro e x3 ⟨g1,rfl,R1,hX4⟩
  refine ⟨_,rfl,?_⟩
  simp only [jk,jq,jv,jy]
  replace R0:=hideit (R0.out.carry hX4)
  replace hC:=hideit (hC.out.ext hX4)
  replace hTM:=hideit (hTM.out.ext hX4)
  replace hE:=hideit (Ext.trans hE.out hX4)
  have R1:=hideit R1
  clear hX4
  refine wpList_call rfl (by simp [go_sem]) ((of_any 8 3#8 x3 (by decide)).mono ?_)
  rintro e x5 ⟨g2,rfl,R2,hX6⟩
  refine ⟨_,rfl,?_⟩
  simp only [jk,jq,jv,jy]
  replace R0:=hideit (R0.out.carry hX6)
  replace R1:=hideit (R1.out.carry hX6)
  replace hC:=hideit (hC.out.ext hX6)
  replace hTM:=hideit (hTM.out.ext hX6)
  replace hE:=hideit (Ext.trans hE.out hX6)
  have R2:=hideit R2
  clear hX6
  refine wpList_call rfl (by simp [go_sem]) ((of_any 12 4#8 x5 (by decide)).mono ?_)
  rintro e x7 ⟨g3,rfl,R3,hX8⟩
  refine ⟨_,rfl,?_⟩
  simp only [jk,jq,jv,jy]
  replace R0:=hideit (R0.out.carry hX8)
  replace R1:=hideit (R1.out.carry hX8)
  replace R2:=hideit (R2.out.carry hX8)
  replace hC:=hideit (hC.out.ext hX8)
  replace hTM:=hideit (hTM.out.ext hX8)
  replace hE:=hideit (Ext.trans hE.out hX8)
  have R3:=hideit R3
  clear hX8
  refine wpList_run rfl (.agg (row 4 (scv (.slice (some ⟨g0,0,none⟩) 32 32) (.slice (some ⟨g1,0,none⟩) 16 16) (.slice (some ⟨g2,0,none⟩) 8 8) (.slice (some ⟨g3,0,none⟩) 12 12))).toArray) (xbuild 34 [(0,.tmp 5),(1,.tmp 6),(2,.tmp 7),(3,.tmp 8)] rfl _ (bld34 _ _ _ _ _ _ _ _ _ _ _ _ _)) ?_
  simp only [jk,jq,jv,jy]
  refine wpList_call rfl (by simp [go_sem]) ((key_lv g0 g1 g2 g3 x7 R0.out R1.out R2.out R3.out hC.out hTM.out).mono ?_)
  rintro e y9 ⟨kg,kc,rfl,⟨K,hK,q0,q1,q2,q3,q4⟩,hX9⟩
  refine ⟨_,rfl,?_⟩
  simp only [jk,jq,jv,jy]
  replace R0:=hideit (R0.out.carry hX9)
  replace R1:=hideit (R1.out.carry hX9)
  replace R2:=hideit (R2.out.carry hX9)
  replace R3:=hideit (R3.out.carry hX9)
  replace hC:=hideit (hC.out.ext hX9)
  replace hTM:=hideit (hTM.out.ext hX9)
  replace hE:=hideit (Ext.trans hE.out hX9)
  have c0:y9.cell? ⟨kg,0,none⟩ = some (.int .u8 13):=by rw [hK.1 0 (by decide)]; unfold yv; rw [q0]; rfl
  have c1:y9.cell? ⟨kg,1,none⟩ = some (.int .u8 100):=by rw [hK.1 1 (by decide)]; unfold yv; rw [q1]; rfl
  have c2:y9.cell? ⟨kg,2,none⟩ = some (.int .u8 13):=by rw [hK.1 2 (by decide)]; unfold yv; rw [q2]; rfl
  have c3:y9.cell? ⟨kg,30,none⟩ = some (.int .u8 230):=by rw [hK.1 30 (by decide)]; unfold yv; rw [q3]; rfl
  have c4:y9.cell? ⟨kg,31,none⟩ = some (.int .u8 89):=by rw [hK.1 31 (by decide)]; unfold yv; rw [q4]; rfl
  clear hK q0 q1 q2 q3 q4 hX9
  refine xm [some (.tuple #[.slice (some ⟨kg,0,none⟩) 32 kc,.int .i64 0]),some (.slice (some ⟨kg,0,none⟩) 32 kc),some (.int .i64 0),some (.slice (some ⟨kg,0,none⟩) 32 kc),some (.int .i64 0)] (by kernel_rfl) (by simp [xr,go_sem]) ?_
  simp only [xw,p0,p1,p2,p3]
  go_upto_region 2 with (fail)
  refine wp_region_lit ?_
  refine xm [some (.int .i64 0),some (.bool true),some (.bool true),some (.slice (some ⟨kg,0,none⟩) 32 kc),some (.int .i64 32),some (.bool true),some (.bool true),some (.bool true),some (.slice (some ⟨kg,0,none⟩) 32 kc),some (.pointer (some ⟨kg,0,none⟩)),some (.int .u8 13),some (.bool true),some (.bool true),some (.bool true),some (.slice (some ⟨kg,0,none⟩) 32 kc),some (.pointer (some ⟨kg,1,none⟩)),some (.int .u8 100),some (.bool true),some (.bool true),some (.bool true),some (.slice (some ⟨kg,0,none⟩) 32 kc),some (.pointer (some ⟨kg,2,none⟩)),some (.int .u8 13),some (.bool true),some (.bool true),some (.bool true),some (.slice (some ⟨kg,0,none⟩) 32 kc),some (.pointer (some ⟨kg,30,none⟩)),some (.int .u8 230),some (.bool true),some (.bool true),some (.bool true),some (.slice (some ⟨kg,0,none⟩) 32 kc),some (.pointer (some ⟨kg,31,none⟩)),some (.int .u8 89),some (.bool true),some (.bool true),some (.bool true)] (by kernel_rfl) (by simp [xr,go_sem,c0,add00,c1,c2,c3,c4]) ?_
  simp only [xw,p0,p1,p2,p3]
  refine wpList_runW rfl (.agg (row 3 (pav 0 0 0)).toArray) (xbuild 31 [] rfl _ (bld31z _)) ?_
  simp only [jk,jq,jv,jy]
  refine wpList_callW rfl (by simp [go_sem]) ((acheck 0 0 0 y9 80 ⟨fun h=>absurd h.1.1 (by decide),fun _=>rfl⟩).mono ?_)
  rintro e y9 ⟨rfl,hX10⟩
  refine ⟨_,rfl,?_⟩
  simp only [jk,jq,jv,jy]
  replace hE:=hideit (Ext.trans hE.out hX10)
  clear hX10
  refine xm [some (.bool true),some (.bool true),some (.bool true)] (by kernel_rfl) (by simp [xr,go_sem]) ?_
  simp only [xw,p0,p1,p2,p3]
  go_wp2
  go_ret
  exact ⟨rfl,hE.out⟩
end Go.Proofs.YtfbmeclpcgdmhabDoor
namespace Go.Proofs.YtfbmeclpcgdmhabDoor
set_option maxRecDepth 20000
open Go.RowKit Go.BigFrame
def strR:ByteArray:=⟨#[48,49,50,51,52,53,54,55,56,57,97,98,99,100,101,102,101,97,52,56,57,102,100,54,49,99,48,50,98,55,53,51,98,56,99,48,53,50,102,100,97,101,51,54,55,49,57,52,55,57,51,49,100,99,98,101,50,54,53,97,52,48,102,56,57,48,53,55,50,52,97,102,101,49,98,99,54,56,51,100,50,99,54,97,48,98,56,51,52,100,55,53,102,101,49,57,99,53,49,102,101,100,52,97,48,55,54,51,57,50,56,98,100,98,55,101,99,49,51,57,53,48,102,52,56,54,50,97,54,102,101,57,98,51,48,56,99,50,100,55,49,52,97,53,97,50,56,52,55,54,49,53,102,98,57,101,51,99,100,48]⟩
def crF (k:Nat):Nat:=(strR.data.getD k 0).toNat
theorem cr_all:∀ k,k < 160 → (97 ≤ crF k ∧ crF k - 97 + 10 = dgF k ∧ crF k ≤ 102) ∨ (¬ 97 ≤ crF k ∧ 48 ≤ crF k ∧ crF k - 48 = dgF k):=by decide +kernel
theorem idxR (k:Nat) (hk:k < 160) (X:World):(Instr.index 9 (.string strR) (.int .i64 (k:Int))).run Tryd.prog X = .ok (.int .u8 ((crF k:Nat):Int)) X:=by
  have h:k < strR.size:=hk
  have h1:(strR[k]'h).toNat = crF k:=by
    unfold crF Array.getD
    have h2:k < strR.data.size:=h
    rw [dif_pos h2]
    rfl
  simp [Instr.index,run_underlying Tryd.underlying9,asIntOf,h,go_sem,h1]
set_option maxRecDepth 20000 in
set_option maxHeartbeats 1000000 in
theorem rorder_any (r k:Nat) (hr:r < 10) (hk:k < 16) (w:World):Calls Tryd.prog 70 #[.int .i64 (r:Int),.int .i64 (k:Int)] w fun e w'=>e = .returned (.int .i64 ((dgF (16 * r + k):Nat):Int)) ∧ w' = w:=by
  obtain ⟨A,hA⟩:∃ A,A = 16 * r + k:=⟨_,rfl⟩
  rw [← hA]
  have hi:=idxR A (by omega)
  have h:=cr_all A (by omega)
  generalize crF A = c at *
  generalize dgF A = d at *
  have wr1:IntKind.i64.wrap (16 * (r:Int)) = 16 * (r:Int):=by rw [IntKind.wrap_i64]; omega
  have wr2:IntKind.i64.wrap (16 * (r:Int) + (k:Int)) = (A:Int):=by rw [IntKind.wrap_i64]; omega
  go_enter Tryd.func70,Tryd.ntmps70
  go_upto_region 1 with (fail)
  refine wp_region_lit ?_
  refine wpList_run rfl (.int .i64 (r:Int)) (by simp [go_sem]) ?_
  simp only [jk,jq,jv,jy]
  refine wpList_run rfl (.int .i64 (16 * (r:Int))) (by simp [go_sem,wr1]) ?_
  simp only [jk,jq,jv,jy]
  refine wpList_run rfl (.int .i64 (k:Int)) (by simp [go_sem]) ?_
  simp only [jk,jq,jv,jy]
  refine wpList_run rfl (.int .i64 (A:Int)) (by simp [go_sem,wr2]) ?_
  simp only [jk,jq,jv,jy]
  refine wpList_run rfl (.int .u8 (c:Int)) (by refine (Sem.run_bind _ _ _ _).trans ?_; exact (congrArg (fun x=>Result.andThen x _) (hi w)).trans rfl) ?_
  simp only [jk,jq,jv,jy]
  clear hi wr1 wr2 hA
  rcases h with ⟨h1,h2,h3⟩ | ⟨h1,h2,h3⟩
  · have i1:(97:Int) ≤ (c:Int):=by omega
    have i2:(c:Int) ≤ 102:=by omega
    go_wp2
    go_ret
    exact ⟨ret_int (by omega),rfl⟩
  · have i1:¬ (97:Int) ≤ (c:Int):=by omega
    have i2:(48:Int) ≤ (c:Int):=by omega
    have i3:(c:Int) < 97:=by omega
    go_wp2
    go_ret
    exact ⟨ret_int (by omega),rfl⟩
set_option maxRecDepth 20000 in
theorem rfirst_any (w:World):Calls Tryd.prog 60 #[] w fun e w'=>e = .returned (.agg (row 8 (wv fT)).toArray) ∧ Below w.heap.size w w':=by
  have hz:=zero30
  have HR0:=hideit (RowAt.new w 8 (wv fun _=>0#64) 92)
  have HE0:Ext w (w.alloc (.cells (row 8 (wv fun _=>0#64)).toArray 92)):=(Below.refl _ _).alloc (Nat.le_refl _) _
  replace HE0:=hideit HE0
  have hb:=bld14
  obtain ⟨F,hF⟩:∃ F,F = fT:=⟨_,rfl⟩
  rw [← hF] at hb ⊢
  clear hF
  go_enter Tryd.func60,Tryd.ntmps60
  go_upto_region 1 with (fail)
  generalize w.alloc (.cells (row 8 (wv fun _=>0#64)).toArray 92) = w1 at *
  refine wp_region_lit ?_
  refine wpList_build rfl 92 [(0,.const (.int .u64 7640891576956012808)),(1,.const (.int .u64 13503953896175478587)),(2,.const (.int .u64 4354685564936845355)),(3,.const (.int .u64 11912009170470909681)),(4,.const (.int .u64 5840696475078001361)),(5,.const (.int .u64 11170449401992604703)),(6,.const (.int .u64 2270897969802886507)),(7,.const (.int .u64 6620516959819538809))] rfl _ (hb _) ?_
  simp only [jk,jq,jv,jy]
  refine wpList_store_mid rfl 92 (.tmp 0) (.tmp 1) rfl _ 0 (row 8 (wv F)).toArray rfl rfl (by rw [row_size]; exact HR0.out.there) (by rw [row_size]; exact info30) (row_one fun _ _=>rfl) ?_
  go_wp2
  exact bodyPost_ret (ret_row Tryd.results60 rfl (HR0.out.cells (g':=wv F)) Tryd.underlying92 rfl info30) rfl ⟨rfl,below_setCells _ (Nat.le_refl _) _ _ _ HE0.out⟩
end Go.Proofs.YtfbmeclpcgdmhabDoor
