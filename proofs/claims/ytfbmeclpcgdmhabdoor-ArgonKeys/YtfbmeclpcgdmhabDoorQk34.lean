/-
  The beginning of a memory. The key.
-/
import Derived.Test.YtfbmeclpcgdmhabDoorQk1
import Derived.Test.YtfbmeclpcgdmhabDoorQk33
namespace Go.Proofs.YtfbmeclpcgdmhabDoor
open Go.RowKit Go.BigFrame
set_option linter.unusedVariables false
theorem bld82 (T M L s:Nat) (X:World):(Instr.build 82 #[(0,.agg (row 3 (pav (T:Int) (M:Int) (L:Int))).toArray),(1,.int .i64 (s:Int))]).run Tryd.prog X = .ok (.agg (row 5 (mkV T M L s (.slice none 0 0))).toArray) X:=by kernel_rfl
def thr {α:Type} (a b c:α) (j:Nat):α:=if j = 0 then a else if j = 1 then b else c
theorem thr_all (sd:Nat → BitVec 8) (i l:Nat) (j:Nat):allF (thr 64 4 4) (thr sd (fourB i) (fourB l)) 3 j = catF (catF sd 64 (fourB i)) 68 (fourB l) j:=by
  have e:catF (fun _=>0#8) 0 sd = sd:=by
    funext j
    unfold catF
    rw [if_neg (Nat.not_lt_zero _),Nat.sub_zero]
  show catF (catF (catF (fun _=>0#8) 0 sd) 64 (fourB i)) 68 (fourB l) j = _
  rw [e]
theorem Mk.form {B p T M L s l:Nat} {u v:Value} {bk:Nat → Nat} {Mw:Nat → BitVec 64} {X:World} (h:Mk B p T M L s l u v bk Mw X):∃ o c,v = .slice o l c:=by
  rcases h.own.2 with ⟨e,q⟩ | ⟨g,cc,cur,e,_⟩
  · exact ⟨none,0,by rw [e,q]⟩
  · exact ⟨_,_,e⟩
def RwB (b n:Nat) (g:Nat → Value) (X:World):Prop:=RowAt b n g X ∧ True
theorem RwB.mk {b n:Nat} {g:Nat → Value} {X:World} (h:RowAt b n g X):RwB b n g X:=⟨h,trivial⟩
theorem RwB.ext {b n:Nat} {g:Nat → Value} {X Y:World} (h:RwB b n g X) (k:Ext X Y):RwB b n g Y:=⟨h.1.carry k,trivial⟩
set_option maxRecDepth 20000 in
set_option maxHeartbeats 4000000 in
theorem beg_any (T M L s:Nat) (sd:Nat → BitVec 8) (v:Value) (w:World) (hp:okP (T:Int) (M:Int) (L:Int)) (hsM:s = M / (4 * L)) (hs0:2 ≤ s ∧ s ≤ 64) (hL1:1 ≤ L ∧ L ≤ 4) (hv:BV v 64 sd w) (hC:TabC w):Calls Tryd.prog 29 #[.agg (row 3 (pav (T:Int) (M:Int) (L:Int))).toArray,v] w fun e w'=>∃ p bk lb lc,e = .returned (.pointer (some ⟨p,0,none⟩)) ∧ Mm w.heap.size p T M L s lb lc bk (bgA s sd L) w' ∧ Ext w w':=by
  replace hv:=hideit hv
  replace hC:=hideit hC
  replace hp:=hideit hp
  obtain ⟨vo,vc,rfl⟩:=hv.out.slc
  have hs:Hid (2 ≤ s ∧ s ≤ 64):=hs0
  have hE:=hideit (Ext.refl w)
  go_enter Tryd.func29,Tryd.ntmps29
  go_upto_region 0 with (fail)
  refine wp_region_lit ?_
  have A0:=hideit (RowAt.new w 3 (pav (T:Int) (M:Int) (L:Int)) 31)
  have XB:Ext w (w.alloc (.cells (row 3 (pav (T:Int) (M:Int) (L:Int))).toArray 31)):=(Below.refl _ _).alloc (Nat.le_refl _) _
  have AE:=hideit (Below.alloc hE.out (Below.size hE.out) (.cells (row 3 (pav (T:Int) (M:Int) (L:Int))).toArray 31))
  have AB:=hideit (Below.size hE.out)
  clear XB
  refine wpList_to rfl (.pointer (some ⟨w.heap.size,0,none⟩)) (w.alloc (.cells (row 3 (pav (T:Int) (M:Int) (L:Int))).toArray 31)) (by simp [go_sem]) ?_
  simp only [jk,jq,jv,jy]
  generalize w.alloc (.cells (row 3 (pav (T:Int) (M:Int) (L:Int))).toArray 31) = x2 at A0 AE ⊢
  obtain ⟨z1,ez1⟩:∃ b,b = w.heap.size:=⟨_,rfl⟩
  have ABz1:Hid (w.heap.size ≤ z1):=by rw [ez1]; exact AB.out
  clear AB
  rw [← ez1] at A0  ⊢
  clear ez1
  have Hz1:=A0
  clear A0
  replace hE:=AE
  clear AE
  refine xm [some (.pointer none)] (by kernel_rfl) (by simp [xr,go_sem]) ?_
  simp only [xw,p0,p1,p2,p3]
  go_upto_region 1 with (fail)
  replace Hz1:=hideit Hz1.out.drew
  replace hE:=hideit (Ext.draw hE.out)
  refine wp_region_lad (fun X=>Ext x2.drew X) [(false,0),(false,1),(true,2),(false,3),(true,4),(false,5)] (by kernel_rfl) (by kernel_rfl) (by decide +kernel) (by decide +kernel) (by decide +kernel) (by decide +kernel) (Ext.refl _) ?_
  refine wpX_f _ (.agg (row 3 (pav (T:Int) (M:Int) (L:Int))).toArray) rfl rfl (fun X hX=>xload 31 (.tmp 2) rfl z1 0 3 _ rfl (Hz1.out.carry hX).range Tryd.underlying31 rfl infoPa) ?_
  simp only [List.getElem_toArray,List.getElem_cons_zero,Act.put,List.setIfInBounds_toArray,List.set_cons_zero,List.set_cons_succ]
  refine wpX_f _ (.agg (row 3 (pav (T:Int) (M:Int) (L:Int))).toArray) rfl rfl (fun X hX=>xload 31 (.tmp 2) rfl z1 0 3 _ rfl (Hz1.out.carry hX).range Tryd.underlying31 rfl infoPa) ?_
  simp only [jw,jz,kj,jk,jq,jv,jy]
  refine wpX_call _ rfl rfl (by simp [go_sem]) ((slp_any (T:Int) M L x2.drew hp.out).mono ?_)
  rintro e y3 ⟨rfl,hX4⟩
  refine ⟨_,rfl,fun X=>Ext y3 X,fun X hX=>Ext.trans hX4 hX,Ext.refl _,?_⟩
  simp only [jw,jz,kj,jk,jq,jv,jy]
  replace Hz1:=hideit (Hz1.out.carry hX4)
  replace hE:=hideit (Ext.trans hE.out hX4)
  rw [← hsM]
  clear hX4
  refine wpX_f _ (.agg (row 5 (mkV T M L s (.slice none 0 0))).toArray) rfl rfl (fun X hX=>xbuild 82 [(0,.tmp 11),(1,.tmp 13)] rfl _ (bld82 T M L s X)) ?_
  simp only [jw,jz,kj,jk,jq,jv,jy]
  have N0:=hideit (RowAt.new y3 5 (mkV T M L s (.slice none 0 0)) 82)
  have XN:Ext y3 (y3.alloc (.cells (row 5 (mkV T M L s (.slice none 0 0))).toArray 82)):=(Below.refl _ _).alloc (Nat.le_refl _) _
  refine wpX_to _ (.pointer (some ⟨y3.heap.size,0,none⟩)) (y3.alloc (.cells (row 5 (mkV T M L s (.slice none 0 0))).toArray 82)) rfl rfl (by simp [go_sem]) (fun X=>Ext (y3.alloc (.cells (row 5 (mkV T M L s (.slice none 0 0))).toArray 82)) X) (fun X hX=>Ext.trans XN hX) (Ext.refl _) ?_
  simp only [jw,jz,kj,jk,jq,jv,jy]
  replace Hz1:=hideit (Hz1.out.carry XN)
  have hpB:=hideit (Below.size hE.out)
  replace hE:=hideit (Ext.trans hE.out XN)
  clear XN
  generalize y3.alloc (.cells (row 5 (mkV T M L s (.slice none 0 0))).toArray 82) = x8 at N0 Hz1 hE ⊢
  obtain ⟨p,ep⟩:∃ p,p = y3.heap.size:=⟨_,rfl⟩
  replace hpB:Hid (w.heap.size ≤ p):=by rw [ep]; exact hpB.out
  rw [← ep] at N0 ⊢
  clear ep
  refine wpX_f _ (.pointer (some ⟨p,0,none⟩)) rfl rfl (fun X _=>by simp [go_sem]) ?_
  simp only [jw,jz,kj,jk,jq,jv,jy]
  refine wpX_nil ?_
  go_upto_region 2 with (fail)
  refine wp_region_lit ?_
  have m5:x8.cell? ⟨z1,2,none⟩ = some (.int .i64 (L:Int)):=Hz1.out.1 2 (by decide)
  refine xm [some (.pointer (some ⟨z1,2,none⟩)),some (.int .i64 (L:Int)),some (.int .i64 0)] (by kernel_rfl) (by simp [xr,go_sem,m5]) ?_
  simp only [xw,p0,p1,p2,p3]
  clear m5
  have hM0:Hid (Mk w.heap.size p T M L s 0 (.slice none 0 0) (.slice none 0 0) (fun _=>0) (bgA s sd 0) x8):=⟨N0.out,own_nil _ _ _ _,fun i hi=>absurd hi (Nat.not_lt_zero _),fun i hi=>absurd hi (Nat.not_lt_zero _),⟨(fun e=>by cases e),hpB.out⟩⟩
  clear N0
  go_upto_region 3 with (fail)
  go_loopw [18] (fun i X=>∃ l:Nat,∃ v bk,l ≤ L ∧ i = .int .i64 (l:Int) ∧ Mk w.heap.size p T M L s l v v bk (bgA s sd l) X ∧ Ext w X) (fun i _=>100 - (intOf i).toNat)
  case atStart=>exact ⟨0,_,_,Nat.zero_le _,rfl,hM0.out,hE.out⟩
  case round=>
    clear hM0 Hz1 hE
    obtain ⟨U,hU⟩:∃ U,U = wr:=⟨_,rfl⟩
    rw [← hU] at hrel ⊢
    clear hU
    obtain ⟨l,v,bk,hl,rfl,hM,hE⟩:=hrel
    have HP:=hideit hM.rc
    replace hM:=hideit hM
    replace hE:=hideit hE
    by_cases hlt:l < L
    · have k1:(l:Int) < (L:Int):=by omega
      have ek:IntKind.i64.wrap ((l:Int) + 1) = ((l + 1:Nat):Int):=by rw [IntKind.wrap_i64]; omega
      obtain ⟨q,hq⟩:∃ q,q = 4 * s:=⟨_,rfl⟩
      have hq1:IntKind.i64.wrap (4 * (s:Int)) = (q:Int):=by have:=hs.out; rw [IntKind.wrap_i64]; omega
      have hq2:Hid (q ≤ 256):=by have:=hs.out; show _ ≤ _; omega
      replace hq:=hideit hq
      go_upto_region 3 with (fail)
      refine wp_region_lit ?_
      refine xm [some (.bool true)] (by kernel_rfl) (by simp [xr,go_sem,k1]) ?_
      simp only [xw,p0,p1,p2,p3]
      go_upto_region 4 with (fail)
      refine wp_region_lit ?_
      refine xm [some (.int .i64 (l:Int)),some (.int .i64 (l:Int))] (by kernel_rfl) (by simp [xr,go_sem]) ?_
      simp only [xw,p0,p1,p2,p3]
      go_upto_region 5 with (fail)
      refine wp_region_lit ?_
      have m6:U.cell? ⟨p,3,none⟩ = some (.int .i64 (s:Int)):=HP.out.1 3 (by decide)
      refine xm [some (.pointer (some ⟨p,0,none⟩)),some (.pointer (some ⟨p,0,none⟩)),some (.pointer (some ⟨p,3,none⟩)),some (.int .i64 (s:Int)),some (.int .i64 (q:Int))] (by kernel_rfl) (by simp [xr,go_sem,m6,hq1]) ?_
      simp only [xw,p0,p1,p2,p3]
      clear m6
      have N0:=hideit (made_pg U q)
      have XN:Ext U (U.alloc (.cells (madeCells (Value.agg (row 128 (wv fun _=>0#64)).toArray).cells (q * 128)) 24)):=(Below.refl _ _).alloc (Nat.le_refl _) _
      refine wpList_to rfl (.slice (some ⟨U.heap.size,0,none⟩) q q) (U.alloc (.cells (madeCells (Value.agg (row 128 (wv fun _=>0#64)).toArray).cells (q * 128)) 24)) (exec_made 61 24 (.tmp 25) (.tmp 25) rfl (Value.agg (row 128 (wv fun _=>0#64)).toArray) 128 1024 q Tryd.underlying61 info24z rfl rfl (by have:=hq2.out; omega) (by have:=hq2.out; omega)) ?_
      simp only [jk,jq,jv,jy]
      generalize U.alloc (.cells (madeCells (Value.agg (row 128 (wv fun _=>0#64)).toArray).cells (q * 128)) 24) = x1 at N0 XN ⊢
      obtain ⟨b,eb⟩:∃ b,b = U.heap.size:=⟨_,rfl⟩
      have hbU:Hid (U.heap.size ≤ b):=by rw [eb]; exact Nat.le_refl _
      rw [← eb] at N0 ⊢
      clear eb
      rw [hq.out] at N0 ⊢
      have hR0:Hid (RowAt b (128 * (4 * s)) (wv fun j=>inM s sd l 0 (128 * (4 * s * l) + j)) x1):=N0.out.congr fun j hj=>by
        unfold wv inM
        dsimp only
        rw [bgA_zero s sd hs.out.1 l _ (by omega)]
      have hX1:=hideit XN
      clear N0 XN
      refine xm [some (.slice (some ⟨b,0,none⟩) (4 * s) (4 * s))] (by kernel_rfl) (by simp [xr,go_sem]) ?_
      simp only [xw,p0,p1,p2,p3]
      clear hq1 k1 HP
      go_upto_region 7 with (fail)
      go_loopw [27] (fun i X=>∃ j:Nat,j ≤ 2 ∧ i = .int .i64 (j:Int) ∧ RowAt b (128 * (4 * s)) (wv fun z=>inM s sd l j (128 * (4 * s * l) + z)) X ∧ Ext U X) (fun i _=>100 - (intOf i).toNat)
      case atStart=>exact ⟨0,Nat.zero_le _,rfl,hR0.out,hX1.out⟩
      case round=>
        clear hR0 hX1
        obtain ⟨j,hj,rfl,hR,hX⟩:=hrel
        replace hR:=hideit hR
        replace hX:=hideit hX
        by_cases hjt:j < 2
        · have k1:(j:Int) < 2:=by omega
          have ej:IntKind.i64.wrap ((j:Int) + 1) = ((j + 1:Nat):Int):=by rw [IntKind.wrap_i64]; omega
          have hEw:=hideit (Ext.trans hE.out hX.out)
          have hvX:=hideit (hv.out.ext hEw.out)
          have hCX:=hideit (hC.out.ext hEw.out)
          have hRw:=hideit (RwB.mk hR.out)
          go_upto_region 7 with (fail)
          refine wp_region_lit ?_
          refine xm [some (.bool true)] (by kernel_rfl) (by simp [xr,go_sem,k1]) ?_
          simp only [xw,p0,p1,p2,p3]
          go_upto_region 8 with (fail)
          refine wp_region_lit ?_
          refine xm [some (.int .i64 (j:Int)),some (.int .i64 (j:Int))] (by kernel_rfl) (by simp [xr,go_sem]) ?_
          simp only [xw,p0,p1,p2,p3]
          go_upto_region 9 with (fail)
          refine wp_region_lit ?_
          refine xm [some (.slice vo 64 vc),some (.int .i64 (j:Int))] (by kernel_rfl) (by simp [xr,go_sem]) ?_
          simp only [xw,p0,p1,p2,p3]
          refine wpList_call rfl (by simp [go_sem]) ((num_any j (by have:=hs.out; omega) wr).mono ?_)
          rintro e x7 ⟨g1,rfl,_,hb1,hX8⟩
          refine ⟨_,rfl,?_⟩
          simp only [jk,jq,jv,jy]
          replace hvX:=hideit (hvX.out.ext hX8)
          replace hCX:=hideit (hCX.out.ext hX8)
          replace hRw:=hideit (hRw.out.ext hX8)
          replace hX:=hideit (Ext.trans hX.out hX8)
          have hb1:=hideit hb1
          clear hX8
          refine xm [some (.int .i64 (l:Int))] (by kernel_rfl) (by simp [xr,go_sem]) ?_
          simp only [xw,p0,p1,p2,p3]
          refine wpList_call rfl (by simp [go_sem]) ((num_any l (by have:=hs.out; omega) x7).mono ?_)
          rintro e x9 ⟨g2,rfl,_,hb2,hX10⟩
          refine ⟨_,rfl,?_⟩
          simp only [jk,jq,jv,jy]
          replace hvX:=hideit (hvX.out.ext hX10)
          replace hCX:=hideit (hCX.out.ext hX10)
          replace hRw:=hideit (hRw.out.ext hX10)
          replace hb1:=hideit (hb1.out.ext hX10)
          replace hX:=hideit (Ext.trans hX.out hX10)
          have hb2:=hideit hb2
          clear hX10
          have XN:Ext x9 (x9.alloc (.cells #[.slice vo 64 vc,.slice (some ⟨g1,0,none⟩) 4 4,.slice (some ⟨g2,0,none⟩) 4 4] 32)):=(Below.refl _ _).alloc (Nat.le_refl _) _
          have hr3:RowAt x9.heap.size 3 (thr (.slice vo 64 vc) (.slice (some ⟨g1,0,none⟩) 4 4) (.slice (some ⟨g2,0,none⟩) 4 4)) (x9.alloc (.cells #[.slice vo 64 vc,.slice (some ⟨g1,0,none⟩) 4 4,.slice (some ⟨g2,0,none⟩) 4 4] 32)):=RowAt.new x9 3 (thr (.slice vo 64 vc) (.slice (some ⟨g1,0,none⟩) 4 4) (.slice (some ⟨g2,0,none⟩) 4 4)) 32
          have hPt:Hid (Parts (.slice (some ⟨x9.heap.size,0,none⟩) 3 3) 3 (thr (.slice vo 64 vc) (.slice (some ⟨g1,0,none⟩) 4 4) (.slice (some ⟨g2,0,none⟩) 4 4)) (thr 64 4 4) (thr sd (fourB j) (fourB l)) (x9.alloc (.cells #[.slice vo 64 vc,.slice (some ⟨g1,0,none⟩) 4 4,.slice (some ⟨g2,0,none⟩) 4 4] 32))):=⟨.inr ⟨_,_,rfl,Nat.le_refl _,hr3.lie 3 (Nat.le_refl _)⟩,fun i hi=>by
            rcases (by omega:i = 0 ∨ i = 1 ∨ i = 2) with rfl | rfl | rfl
            · exact hvX.out.ext XN
            · exact hb1.out.ext XN
            · exact hb2.out.ext XN⟩
          refine wpList_to rfl (.slice (some ⟨x9.heap.size,0,none⟩) 3 3) (x9.alloc (.cells #[.slice vo 64 vc,.slice (some ⟨g1,0,none⟩) 4 4,.slice (some ⟨g2,0,none⟩) 4 4] 32)) (by simp [go_sem]) ?_
          simp only [jk,jq,jv,jy]
          replace hvX:=hideit (hvX.out.ext XN)
          replace hCX:=hideit (hCX.out.ext XN)
          replace hRw:=hideit (hRw.out.ext XN)
          replace hb1:=hideit (hb1.out.ext XN)
          replace hX:=hideit (Ext.trans hX.out XN)
          clear XN hr3
          generalize x9.alloc (.cells #[.slice vo 64 vc,.slice (some ⟨g1,0,none⟩) 4 4,.slice (some ⟨g2,0,none⟩) 4 4] 32) = x5 at hPt hX hvX hCX hRw hb1 ⊢
          obtain ⟨g3,eg3⟩:∃ g,g = x9.heap.size:=⟨_,rfl⟩
          rw [← eg3] at hPt ⊢
          clear eg3
          refine wpList_call rfl (by simp [go_sem]) ((long_any 1024 3 72 (by decide) (by decide) (.slice (some ⟨g3,0,none⟩) 3 3) (thr (.slice vo 64 vc) (.slice (some ⟨g1,0,none⟩) 4 4) (.slice (some ⟨g2,0,none⟩) 4 4)) (thr 64 4 4) (thr sd (fourB j) (fourB l)) (catF (catF sd 64 (fourB j)) 68 (fourB l)) x5 hPt.out hCX.out (by decide) rfl (fun z _=>thr_all sd j l z)).mono ?_)
          rintro e x6 ⟨lv,rfl,hO6,hX6⟩
          refine ⟨_,rfl,?_⟩
          simp only [jk,jq,jv,jy]
          replace hvX:=hideit (hvX.out.ext hX6)
          replace hCX:=hideit (hCX.out.ext hX6)
          replace hRw:=hideit (hRw.out.ext hX6)
          replace hb1:=hideit (hb1.out.ext hX6)
          replace hX:=hideit (Ext.trans hX.out hX6)
          obtain ⟨lg,lgc,rfl,_,hlc,_,hR6⟩:=hO6.lies (by decide)
          have hbL:Hid (BV (.slice (some ⟨lg,0,none⟩) 1024 lgc) 1024 (longF 1024 (catF (catF sd 64 (fourB j)) 68 (fourB l)) 72) x6):=.inr ⟨_,_,rfl,hlc,hR6.lie 1024 (Nat.le_refl _)⟩
          clear hO6 hR6 hX6 hPt
          refine xm [some (.tuple #[.slice (some ⟨lg,0,none⟩) 1024 lgc,.int .i64 0]),some (.slice (some ⟨lg,0,none⟩) 1024 lgc),some (.int .i64 0),some (.slice (some ⟨lg,0,none⟩) 1024 lgc),some (.int .i64 0)] (by kernel_rfl) (by simp [xr,go_sem]) ?_
          simp only [xw,p0,p1,p2,p3]
          have j4:(j:Int) < 4 * (s:Int):=by have:=hs.out; omega
          go_upto_region 10 with (fail)
          refine wp_region_lit ?_
          refine xm [some (.slice (some ⟨b,0,none⟩) (4 * s) (4 * s)),some (.int .i64 (j:Int)),some (.slice (some ⟨lg,0,none⟩) 1024 lgc)] (by kernel_rfl) (by simp [xr,go_sem]) ?_
          simp only [xw,p0,p1,p2,p3]
          refine wpList_call rfl (by simp [go_sem]) ((page_any (.slice (some ⟨lg,0,none⟩) 1024 lgc) _ x6 hbL.out).mono ?_)
          rintro e x7 ⟨rfl,hX7⟩
          refine ⟨_,rfl,?_⟩
          simp only [jk,jq,jv,jy]
          replace hRw:=hideit (hRw.out.ext hX7)
          replace hX:=hideit (Ext.trans hX.out hX7)
          rw [show pgW (longF 1024 (catF (catF sd 64 (fourB j)) 68 (fourB l)) 72) = bgP sd j l from rfl]
          clear hX7 hbL
          refine xm [some (.tuple #[.agg (row 128 (wv (bgP sd j l))).toArray,.int .i64 0]),some (.agg (row 128 (wv (bgP sd j l))).toArray),some (.int .i64 0),some (.pointer (some ⟨b,j * 128,none⟩))] (by kernel_rfl) (by simp [xr,go_sem,j4,add00]) ?_
          simp only [xw,p0,p1,p2,p3]
          have N0:Hid (RowAt b (128 * (4 * s)) (wv fun z=>inM s sd l (j + 1) (128 * (4 * s * l) + z)) (x7.setCells b (j * 128) (row 128 (wv (bgP sd j l))))):=in_part hRw.out.1 (by have:=hs.out; omega)
          have NE:=hideit (below_setCells b hbU.out (row 128 (wv (bgP sd j l))) (j * 128) _ hX.out)
          refine xst rfl (x7.setCells b (j * 128) (row 128 (wv (bgP sd j l)))) (xstoreM 24 (.tmp 47) (.tmp 45) rfl b (128 * (4 * s)) (j * 128) 128 _ (wv (bgP sd j l)) rfl rfl hRw.out.1 (by have:=hs.out; omega) infoPg (fun _ _=>rfl)) ?_
          simp only [Act.put]
          generalize x7.setCells b (j * 128) (row 128 (wv (bgP sd j l))) = x9 at N0 NE ⊢
          clear hRw hX hR
          go_upto_region 11 with (fail)
          refine wp_region_lit ?_
          refine xm [some (.int .i64 ((j + 1:Nat):Int)),some (.int .i64 ((j + 1:Nat):Int))] (by kernel_rfl) (by simp [xr,go_sem,ej]) ?_
          simp only [xw,p0,p1,p2,p3]
          go_wp2
          exact ⟨⟨j + 1,by omega,rfl,N0.out,NE.out⟩,by simp [intOf]; omega⟩
        · obtain rfl:j = 2:=by omega
          have hM2:=hideit (hM.out.ext hX.out)
          have hE2:=hideit (Ext.trans hE.out hX.out)
          have HP:=hideit hM2.out.rc
          go_upto_region 7 with (fail)
          refine wp_region_lit ?_
          refine xm [some (.bool false)] (by kernel_rfl) (by simp [xr,go_sem]) ?_
          simp only [xw,p0,p1,p2,p3]
          go_upto_region 12 with (fail)
          refine wp_region_lit ?_
          have m7:wr.cell? ⟨p,4,none⟩ = some (v):=HP.out.1 4 (by decide)
          refine xm [some (.pointer (some ⟨p,0,none⟩)),some (.pointer (some ⟨p,0,none⟩)),some (.pointer (some ⟨p,0,none⟩)),some (.pointer (some ⟨p,4,none⟩)),some (v),some (.slice (some ⟨b,0,none⟩) (4 * s) (4 * s))] (by kernel_rfl) (by simp [xr,go_sem,m7]) ?_
          simp only [xw,p0,p1,p2,p3]
          clear m7
          obtain ⟨v4,x4,r4,hM4,hB4⟩:=hM2.out.app (M2:=bgA s sd (l + 1)) (Below.size hE2.out) b (by rw [← inM_end]; exact hR.out) (Nat.le_trans (Below.size hE.out) hbU.out) (fun q=>by have:=hbU.out; have:=hM.out.rc.2.2; omega) (fun q=>by have:=(hM.out.own.lt b q).2; have:=hbU.out; omega) (fun i hi q=>by have:=(hM.out.pg i hi).2.2; have:=hbU.out; omega) (fun i hi z hz=>bgA_lane s sd hs.out.1 l i z hi hz) (by omega) 80
          have Hc4:=hideit (below_ext hE2.out (Nat.le_refl _) hB4)
          obtain ⟨vo4,vc4,rfl⟩:=hM4.form
          have hm4:=hideit hM4
          clear hM4
          refine wpList_to rfl (.slice (some ⟨wr.heap.size,0,none⟩) 1 1) (wr.alloc (.cells #[.slice (some ⟨b,0,none⟩) (4 * s) (4 * s)] 61)) (by simp [go_sem]) ?_
          simp only [jk,jq,jv,jy]
          refine wpList_to rfl (.slice vo4 (l + 1) vc4) x4 (exec_app (.tmp 53) (.tmp 55) rfl rfl rfl r4) ?_
          simp only [jk,jq,jv,jy]
          clear r4 HP
          refine xm [some (.pointer (some ⟨p,0,none⟩)),some (.pointer (some ⟨p,4,none⟩))] (by kernel_rfl) (by simp [xr,go_sem]) ?_
          simp only [xw,p0,p1,p2,p3]
          have M0:x4.cell? ⟨p,4,none⟩ = some v:=hm4.out.rc.1 4 (by decide)
          have M1:x4.frozen? ⟨p,4,none⟩ = false:=hm4.out.rc.2.1 4 (by decide)
          have N0:=hideit hm4.out.st
          have N2:=hideit (Hc4.out.setCell (p:=⟨p,4,none⟩) hm4.out.op.2 (.slice vo4 (l + 1) vc4))
          refine xst rfl (x4.setCell ⟨p,4,none⟩ (.slice vo4 (l + 1) vc4)) (by simp [go_sem,M0,M1]) ?_
          simp only [Act.put]
          generalize x4.setCell ⟨p,4,none⟩ (.slice vo4 (l + 1) vc4) = x9 at N0 N2 ⊢
          go_upto_region 13 with (fail)
          refine wp_region_lit ?_
          refine xm [some (.int .i64 ((l + 1:Nat):Int)),some (.int .i64 ((l + 1:Nat):Int))] (by kernel_rfl) (by simp [xr,go_sem,ek]) ?_
          simp only [xw,p0,p1,p2,p3]
          go_wp2
          exact ⟨⟨l + 1,_,_,by omega,rfl,N0.out,N2.out⟩,by simp [intOf]; omega⟩
    · obtain rfl:l = L:=by omega
      obtain ⟨lb,lc,hMm⟩:=hM.out.mm (by omega)
      go_upto_region 3 with (fail)
      refine wp_region_lit ?_
      refine xm [some (.bool false)] (by kernel_rfl) (by simp [xr,go_sem]) ?_
      simp only [xw,p0,p1,p2,p3]
      go_upto_region 14 with (fail)
      refine wp_region_lit ?_
      refine xm [some (.pointer (some ⟨p,0,none⟩)),some (.pointer (some ⟨p,0,none⟩))] (by kernel_rfl) (by simp [xr,go_sem]) ?_
      simp only [xw,p0,p1,p2,p3]
      go_wp2
      go_ret
      exact ⟨p,bk,lb,lc,rfl,hMm,hE.out⟩
end Go.Proofs.YtfbmeclpcgdmhabDoor
namespace Go.Proofs.YtfbmeclpcgdmhabDoor
open Go.RowKit Go.BigFrame
set_option linter.unusedVariables false
theorem RowAt.below {c n B:Nat} {g:Nat → Value} {X Y:World} (h:RowAt c n g X) (k:Below B X Y) (hc:c < B):RowAt c n g Y:=
  ⟨fun j hj=>(World.cell?_of_block (a:=⟨c,j,none⟩) (k.block c hc)).trans (h.1 j hj),fun j hj=>(World.frozen?_of_block (a:=⟨c,j,none⟩) (k.block c hc)).trans (h.2.1 j hj),Nat.lt_of_lt_of_le h.2.2 k.size⟩
theorem bld58 (a b d:Nat) (X:World):(Instr.build 58 #[(0,.int .i64 (a:Int)),(1,.int .i64 (b:Int)),(2,.int .i64 (d:Int))]).run Tryd.prog X = .ok (.agg (row 3 (tuV a b d)).toArray) X:=by kernel_rfl
set_option maxRecDepth 20000 in
set_option maxHeartbeats 4000000 in
theorem key_no (n ti me la:Int) (o:Nat → Option Addr) (l k:Nat → Nat) (w:World) (h:¬ okK n ti me la l):Calls Tryd.prog 11 #[.int .i64 n,.agg (row 3 (pav ti me la)).toArray,.agg (row 4 (scv (.slice (o 0) (l 0) (k 0)) (.slice (o 1) (l 1) (k 1)) (.slice (o 2) (l 2) (k 2)) (.slice (o 3) (l 3) (k 3)))).toArray] w fun e w'=>e = .returned (.tuple #[.slice none 0 0,.int .i64 80]) ∧ Ext w w':=by
  obtain ⟨c,d,w1,hw,hd,hc,H0,H1,hE⟩:=boxes2 w 3 (pav ti me la) 31 4 (scv (.slice (o 0) (l 0) (k 0)) (.slice (o 1) (l 1) (k 1)) (.slice (o 2) (l 2) (k 2)) (.slice (o 3) (l 3) (k 3))) 34
  go_enter Tryd.func11,Tryd.ntmps11
  go_upto_region 1 with (fail)
  rw [← hd.out,← hw.out,← hc.out]
  clear hw hc hd
  refine wp_region_lit ?_
  refine xm [some (.int .i64 (n))] (by kernel_rfl) (by simp [xr,go_sem]) ?_
  simp only [xw,p0,p1,p2,p3]
  refine wpList_run rfl (.agg (row 3 (pav ti me la)).toArray) (xload 31 (.tmp 4) rfl c 0 3 _ rfl H0.out.range Tryd.underlying31 rfl infoPa) ?_
  simp only [jk,jq,jv,jy]
  refine wpList_run rfl (.agg (row 4 (scv (.slice (o 0) (l 0) (k 0)) (.slice (o 1) (l 1) (k 1)) (.slice (o 2) (l 2) (k 2)) (.slice (o 3) (l 3) (k 3)))).toArray) (xload 34 (.tmp 5) rfl d 0 4 _ rfl H1.out.range Tryd.underlying34 rfl infoSc) ?_
  simp only [jk,jq,jv,jy]
  refine wpList_call rfl (by simp [go_sem]) ((seed_no n ti me la o l k w1 h).mono ?_)
  rintro e y1 ⟨rfl,hX2⟩
  refine ⟨_,rfl,?_⟩
  simp only [jk,jq,jv,jy]
  replace H0:=hideit (H0.out.carry hX2)
  replace H1:=hideit (H1.out.carry hX2)
  replace hE:=hideit (Ext.trans hE.out hX2)
  clear hX2
  refine xm [some (.tuple #[.slice none 0 0,.int .i64 80]),some (.slice none 0 0),some (.int .i64 80),some (.slice none 0 0),some (.int .i64 80)] (by kernel_rfl) (by simp [xr,go_sem]) ?_
  simp only [xw,p0,p1,p2,p3]
  go_upto_region 2 with (fail)
  refine wp_region_lit ?_
  refine xm [some (.int .i64 80),some (.bool true)] (by kernel_rfl) (by simp [xr,go_sem]) ?_
  simp only [xw,p0,p1,p2,p3]
  go_upto_region 3 with (fail)
  refine wp_region_lit ?_
  refine xm [some (.int .i64 80),some (.slice none 0 0),some (.int .i64 80)] (by kernel_rfl) (by simp [xr,go_sem]) ?_
  simp only [xw,p0,p1,p2,p3]
  go_wp2
  refine bodyPost_ret (res2 rfl _ _ _) rfl ?_
  exact ⟨rfl,hE.out⟩
theorem one_all (l:Nat) (f:Nat → BitVec 8) (j:Nat):allF (fun _=>l) (fun _=>f) 1 j = f j:=by
  show catF (fun _=>0#8) 0 f j = f j
  unfold catF
  rw [if_neg (Nat.not_lt_zero _),Nat.sub_zero]
set_option maxRecDepth 20000 in
set_option maxHeartbeats 4000000 in
theorem key_ok (n T M L:Nat) (o:Nat → Option Addr) (l k:Nat → Nat) (f:Nat → Nat → BitVec 8) (w:World) (hk:okK (n:Int) (T:Int) (M:Int) (L:Int) l) (hb:∀ i,i < 4 → BV (.slice (o i) (l i) (k i)) (l i) (f i) w) (hC:TabC w) (hTM:TabM w):Calls Tryd.prog 11 #[.int .i64 (n:Int),.agg (row 3 (pav (T:Int) (M:Int) (L:Int))).toArray,.agg (row 4 (scv (.slice (o 0) (l 0) (k 0)) (.slice (o 1) (l 1) (k 1)) (.slice (o 2) (l 2) (k 2)) (.slice (o 3) (l 3) (k 3)))).toArray] w fun e w'=>∃ v,e = .returned (.tuple #[v,.int .i64 0]) ∧ OwnB w.heap.size 5 v n (yv (keyA n (M / (4 * L)) L T (sdF n T M L l f))) w' ∧ Ext w w':=by
  obtain ⟨⟨hn1,hn2⟩,hp,hs⟩:=id hk
  have hsm:Hid (1 ≤ L ∧ L ≤ 4 ∧ T ≤ 8 ∧ 8 * L ≤ M ∧ M ≤ 256):=⟨by have:=hp.2.1.1; omega,by have:=hp.2.1.2; omega,by have:=hp.1.2; omega,by have:=hp.2.2.1; omega,by have:=hp.2.2.2; omega⟩
  obtain ⟨s,hsM⟩:∃ s,s = M / (4 * L):=⟨_,rfl⟩
  have hs0:Hid (2 ≤ s ∧ s ≤ 64):=by
    have:=hsm.out
    rw [hsM]
    refine ⟨(Nat.le_div_iff_mul_le (by omega)).2 (by omega),?_⟩
    exact Nat.le_trans (Nat.div_le_div_right this.2.2.2.2) (Nat.div_le_of_le_mul (by omega))
  rw [← hsM]
  replace hsM:=hideit hsM
  replace hk:=hideit hk
  replace hp:=hideit hp
  replace hb:=hideit hb
  replace hC:=hideit hC
  replace hTM:=hideit hTM
  have hn0:Hid (1 ≤ n ∧ n ≤ 128):=⟨by omega,by omega⟩
  clear hn1 hn2 hs
  obtain ⟨sd,hsd⟩:∃ F,F = sdF n T M L l f:=⟨_,rfl⟩
  rw [← hsd]
  replace hsd:=hideit hsd
  obtain ⟨c,d,w1,hw,hd,hc,H0,H1,hE⟩:=boxes2 w 3 (pav (T:Int) (M:Int) (L:Int)) 31 4 (scv (.slice (o 0) (l 0) (k 0)) (.slice (o 1) (l 1) (k 1)) (.slice (o 2) (l 2) (k 2)) (.slice (o 3) (l 3) (k 3))) 34
  go_enter Tryd.func11,Tryd.ntmps11
  go_upto_region 1 with (fail)
  rw [← hd.out,← hw.out,← hc.out]
  clear hw hc hd
  refine wp_region_lit ?_
  refine xm [some (.int .i64 (n:Int))] (by kernel_rfl) (by simp [xr,go_sem]) ?_
  simp only [xw,p0,p1,p2,p3]
  refine wpList_run rfl (.agg (row 3 (pav (T:Int) (M:Int) (L:Int))).toArray) (xload 31 (.tmp 4) rfl c 0 3 _ rfl H0.out.range Tryd.underlying31 rfl infoPa) ?_
  simp only [jk,jq,jv,jy]
  refine wpList_run rfl (.agg (row 4 (scv (.slice (o 0) (l 0) (k 0)) (.slice (o 1) (l 1) (k 1)) (.slice (o 2) (l 2) (k 2)) (.slice (o 3) (l 3) (k 3)))).toArray) (xload 34 (.tmp 5) rfl d 0 4 _ rfl H1.out.range Tryd.underlying34 rfl infoSc) ?_
  simp only [jk,jq,jv,jy]
  refine wpList_call rfl (by simp [go_sem]) ((seed_ok n T M L o l k f w1 hk.out (fun i hi=>(hb.out i hi).ext hE.out) (hC.out.ext hE.out)).mono ?_)
  rintro e y1 ⟨vs,rfl,hO,hX1⟩
  refine ⟨_,rfl,?_⟩
  simp only [jk,jq,jv,jy]
  replace H0:=hideit (H0.out.carry hX1)
  replace H1:=hideit (H1.out.carry hX1)
  replace hE:=hideit (Ext.trans hE.out hX1)
  rw [← hsd.out] at hO
  obtain ⟨sg,sc,rfl,_,hsc,_,hRs⟩:=hO.lies (by decide)
  have hbS:Hid (BV (.slice (some ⟨sg,0,none⟩) 64 sc) 64 sd y1):=.inr ⟨_,_,rfl,hsc,hRs.lie 64 (Nat.le_refl _)⟩
  clear hO hRs hX1 H1
  refine xm [some (.tuple #[.slice (some ⟨sg,0,none⟩) 64 sc,.int .i64 0]),some (.slice (some ⟨sg,0,none⟩) 64 sc),some (.int .i64 0),some (.slice (some ⟨sg,0,none⟩) 64 sc),some (.int .i64 0)] (by kernel_rfl) (by simp [xr,go_sem]) ?_
  simp only [xw,p0,p1,p2,p3]
  go_upto_region 2 with (fail)
  refine wp_region_lit ?_
  refine xm [some (.int .i64 0),some (.bool false)] (by kernel_rfl) (by simp [xr,go_sem]) ?_
  simp only [xw,p0,p1,p2,p3]
  have hcB:Hid (c < y1.heap.size):=H0.out.2.2
  have hwB:Hid (w.heap.size ≤ y1.heap.size):=Below.size hE.out
  go_upto_region 4 with (fail)
  refine wp_region_lit ?_
  refine wpList_run rfl (.agg (row 3 (pav (T:Int) (M:Int) (L:Int))).toArray) (xload 31 (.tmp 4) rfl c 0 3 _ rfl H0.out.range Tryd.underlying31 rfl infoPa) ?_
  simp only [jk,jq,jv,jy]
  refine xm [some (.slice (some ⟨sg,0,none⟩) 64 sc)] (by kernel_rfl) (by simp [xr,go_sem]) ?_
  simp only [xw,p0,p1,p2,p3]
  refine wpList_call rfl (by simp [go_sem]) ((beg_any T M L s sd (.slice (some ⟨sg,0,none⟩) 64 sc) y1 hp.out hsM.out hs0.out ⟨hsm.out.1,hsm.out.2.1⟩ hbS.out (hC.out.ext hE.out)).mono ?_)
  rintro e y2 ⟨p,bk,lb,lc,rfl,hMm,hX2⟩
  refine ⟨_,rfl,?_⟩
  simp only [jk,jq,jv,jy]
  replace H0:=hideit (H0.out.carry hX2)
  replace hE:=hideit (Ext.trans hE.out hX2)
  have hM0:=hideit hMm
  have hY2:=hideit (Below.size hX2)
  obtain ⟨B,hBB⟩:∃ B,B = y1.heap.size:=⟨_,rfl⟩
  rw [← hBB] at hM0 hcB hwB hY2
  have hB0:Hid (0 < B):=by have:=hC.out.2; have:=hwB.out; show _ < _; omega
  clear hMm hX2 hbS hBB
  refine xm [some (.pointer (some ⟨p,0,none⟩))] (by kernel_rfl) (by simp [xr,go_sem]) ?_
  simp only [xw,p0,p1,p2,p3]
  go_upto_region 5 with (fail)
  refine wp_region_lit ?_
  have m1:y2.cell? ⟨c,0,none⟩ = some (.int .i64 (T:Int)):=H0.out.1 0 (by decide)
  refine xm [some (.pointer (some ⟨c,0,none⟩)),some (.int .i64 (T:Int)),some (.int .i64 0)] (by kernel_rfl) (by simp [xr,go_sem,m1]) ?_
  simp only [xw,p0,p1,p2,p3]
  clear m1
  replace H0:=hideit H0.out
  have hT2:=hideit (hTM.out.ext hE.out)
  go_upto_region 6 with (fail)
  go_loopw [29] (fun i X=>∃ a:Nat,a ≤ T ∧ i = .int .i64 (a:Int) ∧ Mm B p T M L s lb lc bk (paA s L T (bgA s sd L) a) X ∧ Below B y2 X) (fun i _=>100 - (intOf i).toNat)
  case atStart=>exact ⟨0,Nat.zero_le _,rfl,hM0.out,Below.refl _ _⟩
  case round=>
    clear hM0
    obtain ⟨a,ha,rfl,hM,hX⟩:=hrel
    replace hM:=hideit hM
    replace hX:=hideit hX
    by_cases hlt:a < T
    · have k1:(a:Int) < (T:Int):=by omega
      have ea:IntKind.i64.wrap ((a:Int) + 1) = ((a + 1:Nat):Int):=by have:=hsm.out; rw [IntKind.wrap_i64]; omega
      replace ea:=hideit ea
      go_upto_region 6 with (fail)
      refine wp_region_lit ?_
      refine xm [some (.bool true)] (by kernel_rfl) (by simp [xr,go_sem,k1]) ?_
      simp only [xw,p0,p1,p2,p3]
      go_upto_region 7 with (fail)
      refine wp_region_lit ?_
      refine xm [some (.int .i64 (a:Int)),some (.int .i64 (a:Int))] (by kernel_rfl) (by simp [xr,go_sem]) ?_
      simp only [xw,p0,p1,p2,p3]
      clear k1
      go_upto_region 9 with (fail)
      go_loopw [32] (fun i X=>∃ e:Nat,e ≤ 4 ∧ i = .int .i64 (e:Int) ∧ Mm B p T M L s lb lc bk (slA s L T (paA s L T (bgA s sd L) a) a e) X ∧ Below B y2 X) (fun i _=>100 - (intOf i).toNat)
      case atStart=>exact ⟨0,Nat.zero_le _,rfl,hM.out,hX.out⟩
      case round=>
        clear hM hX
        obtain ⟨e,he,rfl,hM,hX⟩:=hrel
        have Hc:=hideit (H0.out.below hX hcB.out)
        replace hM:=hideit hM
        replace hX:=hideit hX
        by_cases hle:e < 4
        · have k1:(e:Int) < 4:=by omega
          have ee:IntKind.i64.wrap ((e:Int) + 1) = ((e + 1:Nat):Int):=by rw [IntKind.wrap_i64]; omega
          replace ee:=hideit ee
          go_upto_region 9 with (fail)
          refine wp_region_lit ?_
          refine xm [some (.bool true)] (by kernel_rfl) (by simp [xr,go_sem,k1]) ?_
          simp only [xw,p0,p1,p2,p3]
          go_upto_region 10 with (fail)
          refine wp_region_lit ?_
          refine xm [some (.int .i64 (e:Int)),some (.int .i64 (e:Int))] (by kernel_rfl) (by simp [xr,go_sem]) ?_
          simp only [xw,p0,p1,p2,p3]
          go_upto_region 11 with (fail)
          refine wp_region_lit ?_
          have m2:wr.cell? ⟨c,2,none⟩ = some (.int .i64 (L:Int)):=Hc.out.1 2 (by decide)
          refine xm [some (.pointer (some ⟨c,2,none⟩)),some (.int .i64 (L:Int)),some (.int .i64 0)] (by kernel_rfl) (by simp [xr,go_sem,m2]) ?_
          simp only [xw,p0,p1,p2,p3]
          clear m2
          clear k1 Hc
          go_upto_region 12 with (fail)
          go_loopw [37] (fun i X=>∃ g:Nat,g ≤ L ∧ i = .int .i64 (g:Int) ∧ Mm B p T M L s lb lc bk (laA s L T (slA s L T (paA s L T (bgA s sd L) a) a e) a e g) X ∧ Below B y2 X) (fun i _=>100 - (intOf i).toNat)
          case atStart=>exact ⟨0,Nat.zero_le _,rfl,hM.out,hX.out⟩
          case round=>
            clear hM hX
            obtain ⟨g,hg,rfl,hM,hX⟩:=hrel
            replace hM:=hideit hM
            replace hX:=hideit hX
            by_cases hlg:g < L
            · have k1:(g:Int) < (L:Int):=by omega
              have eg:IntKind.i64.wrap ((g:Int) + 1) = ((g + 1:Nat):Int):=by have:=hsm.out; rw [IntKind.wrap_i64]; omega
              have hf:=hideit (fill_any B p T M L s lb lc bk _ a e g wr hM.out (hT2.out.below hX.out hB0.out) hp.out hsM.out hs0.out hle hlg hsm.out.2.1 hB0.out (Nat.le_trans hY2.out (Below.size hX.out)) trivial)
              go_upto_region 12 with (fail)
              refine wp_region_lit ?_
              refine xm [some (.bool true)] (by kernel_rfl) (by simp [xr,go_sem,k1]) ?_
              simp only [xw,p0,p1,p2,p3]
              go_upto_region 13 with (fail)
              refine wp_region_lit ?_
              refine xm [some (.int .i64 (g:Int)),some (.int .i64 (g:Int))] (by kernel_rfl) (by simp [xr,go_sem]) ?_
              simp only [xw,p0,p1,p2,p3]
              go_upto_region 14 with (fail)
              refine wp_region_lit ?_
              refine xm [some (.pointer (some ⟨p,0,none⟩)),some (.int .i64 (a:Int)),some (.int .i64 (e:Int)),some (.int .i64 (g:Int))] (by kernel_rfl) (by simp [xr,go_sem]) ?_
              simp only [xw,p0,p1,p2,p3]
              refine wpList_run rfl (.agg (row 3 (tuV a e g)).toArray) (xbuild 58 [(0,.tmp 41),(1,.tmp 42),(2,.tmp 43)] rfl _ (bld58 a e g _)) ?_
              simp only [jk,jq,jv,jy]
              refine wpList_call rfl (by simp [go_sem]) ((hf.out).mono ?_)
              rintro e y9 ⟨rfl,hM9,hB9⟩
              refine ⟨_,rfl,?_⟩
              simp only [jk,jq,jv,jy]
              have hM9:=hideit hM9
              have hX9:=hideit (Below.trans hX.out hB9)
              clear hB9 hf
              go_upto_region 15 with (fail)
              refine wp_region_lit ?_
              refine xm [some (.int .i64 ((g + 1:Nat):Int)),some (.int .i64 ((g + 1:Nat):Int))] (by kernel_rfl) (by simp [xr,go_sem,eg]) ?_
              simp only [xw,p0,p1,p2,p3]
              go_wp2
              exact ⟨⟨g + 1,by omega,rfl,hM9.out,hX9.out⟩,by have:=hsm.out; simp [intOf]; omega⟩
            · obtain rfl:g = L:=by omega
              go_upto_region 12 with (fail)
              refine wp_region_lit ?_
              refine xm [some (.bool false)] (by kernel_rfl) (by simp [xr,go_sem]) ?_
              simp only [xw,p0,p1,p2,p3]
              go_upto_region 16 with (fail)
              refine wp_region_lit ?_
              refine xm [some (.int .i64 ((e + 1:Nat):Int)),some (.int .i64 ((e + 1:Nat):Int))] (by kernel_rfl) (by simp [xr,go_sem,ee.out]) ?_
              simp only [xw,p0,p1,p2,p3]
              go_wp2
              exact ⟨⟨e + 1,by omega,rfl,hM.out,hX.out⟩,by simp [intOf]; omega⟩
        · obtain rfl:e = 4:=by omega
          go_upto_region 9 with (fail)
          refine wp_region_lit ?_
          refine xm [some (.bool false)] (by kernel_rfl) (by simp [xr,go_sem]) ?_
          simp only [xw,p0,p1,p2,p3]
          go_upto_region 17 with (fail)
          refine wp_region_lit ?_
          refine xm [some (.int .i64 ((a + 1:Nat):Int)),some (.int .i64 ((a + 1:Nat):Int))] (by kernel_rfl) (by simp [xr,go_sem,ea.out]) ?_
          simp only [xw,p0,p1,p2,p3]
          go_wp2
          exact ⟨⟨a + 1,by omega,rfl,hM.out,hX.out⟩,by have:=hsm.out; simp [intOf]; omega⟩
    · obtain rfl:a = T:=by omega
      have hEX:=hideit (below_ext hE.out hwB.out hX.out)
      have hCX:=hideit (hC.out.ext hEX.out)
      go_upto_region 6 with (fail)
      refine wp_region_lit ?_
      refine xm [some (.bool false)] (by kernel_rfl) (by simp [xr,go_sem]) ?_
      simp only [xw,p0,p1,p2,p3]
      go_upto_region 18 with (fail)
      refine wp_region_lit ?_
      refine xm [some (.int .i64 (n:Int)),some (.pointer (some ⟨p,0,none⟩))] (by kernel_rfl) (by simp [xr,go_sem]) ?_
      simp only [xw,p0,p1,p2,p3]
      refine wpList_call rfl (by simp [go_sem]) ((end_any B p a M L s lb lc bk (paA s L a (bgA s sd L) a) wr hM.out hs0.out hsm.out.2.1).mono ?_)
      rintro e y2 ⟨rfl,hX3⟩
      refine ⟨_,rfl,?_⟩
      simp only [jk,jq,jv,jy]
      replace hCX:=hideit (hCX.out.ext hX3)
      replace hEX:=hideit (Ext.trans hEX.out hX3)
      clear hX3
      refine wpList_call rfl (by simp [go_sem]) ((bytes_any (enA s (paA s L a (bgA s sd L) a) L) y2).mono ?_)
      rintro e x3 ⟨vb,rfl,hO3,hX3⟩
      refine ⟨_,rfl,?_⟩
      simp only [jk,jq,jv,jy]
      replace hCX:=hideit (hCX.out.ext hX3)
      replace hEX:=hideit (Ext.trans hEX.out hX3)
      obtain ⟨bg,bc,rfl,_,hbc,_,hRb⟩:=hO3.lies (by decide)
      have hbB:Hid (BV (.slice (some ⟨bg,0,none⟩) 1024 bc) 1024 (digF (enA s (paA s L a (bgA s sd L) a) L)) x3):=.inr ⟨_,_,rfl,hbc,hRb.lie 1024 (Nat.le_refl _)⟩
      clear hO3 hRb hX3
      have XN:Ext x3 (x3.alloc (.cells #[.slice (some ⟨bg,0,none⟩) 1024 bc] 32)):=(Below.refl _ _).alloc (Nat.le_refl _) _
      have hr3:=row_new1 x3 (.slice (some ⟨bg,0,none⟩) 1024 bc) 32
      have hPt:Hid (Parts (.slice (some ⟨x3.heap.size,0,none⟩) 1 1) 1 (fun _=>.slice (some ⟨bg,0,none⟩) 1024 bc) (fun _=>1024) (fun _=>digF (enA s (paA s L a (bgA s sd L) a) L)) (x3.alloc (.cells #[.slice (some ⟨bg,0,none⟩) 1024 bc] 32))):=⟨.inr ⟨_,_,rfl,Nat.le_refl _,hr3.lie 1 (Nat.le_refl _)⟩,fun i hi=>hbB.out.ext XN⟩
      refine wpList_to rfl (.slice (some ⟨x3.heap.size,0,none⟩) 1 1) (x3.alloc (.cells #[.slice (some ⟨bg,0,none⟩) 1024 bc] 32)) (by simp [go_sem]) ?_
      simp only [jk,jq,jv,jy]
      replace hEX:=hideit (Ext.trans hEX.out XN)
      replace hCX:=hideit (hCX.out.ext XN)
      clear XN hr3 hbB
      generalize x3.alloc (.cells #[.slice (some ⟨bg,0,none⟩) 1024 bc] 32) = x5 at hPt hEX hCX ⊢
      obtain ⟨g3,eg3⟩:∃ g,g = x3.heap.size:=⟨_,rfl⟩
      rw [← eg3] at hPt ⊢
      clear eg3
      have hEo:=hEX
      refine wpList_call rfl (by simp [go_sem]) ((long_any n 1 1024 hn0.out.1 (by have:=hn0.out; omega) (.slice (some ⟨g3,0,none⟩) 1 1) _ (fun _=>1024) _ (digF (enA s (paA s L a (bgA s sd L) a) L)) x5 hPt.out hCX.out (by decide) rfl (fun z _=>one_all _ _ z)).mono ?_)
      rintro e x6 ⟨lv,rfl,hO6,hX6⟩
      refine ⟨_,rfl,?_⟩
      simp only [jk,jq,jv,jy]
      replace hCX:=hideit (hCX.out.ext hX6)
      replace hEX:=hideit (Ext.trans hEX.out hX6)
      have hO7:=hideit (hO6.down (Below.size hEo.out))
      clear hO6 hX6 hPt
      refine xm [some (lv),some (.int .i64 0),some (lv),some (.int .i64 0)] (by kernel_rfl) (by simp [xr,go_sem]) ?_
      simp only [xw,p0,p1,p2,p3]
      go_wp2
      refine bodyPost_ret (res2 rfl _ _ _) rfl ?_
      exact ⟨lv,rfl,hO7.out,hEX.out⟩
end Go.Proofs.YtfbmeclpcgdmhabDoor
