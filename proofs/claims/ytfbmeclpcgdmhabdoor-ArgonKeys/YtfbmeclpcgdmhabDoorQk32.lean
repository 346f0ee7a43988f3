/-
  A turn. The lanes' last pages.
-/
import Derived.Test.YtfbmeclpcgdmhabDoorQk1
import Derived.Test.YtfbmeclpcgdmhabDoorQk31
namespace Go.Proofs.YtfbmeclpcgdmhabDoor
open Go.RowKit Go.BigFrame
set_option linter.unusedVariables false
theorem Mm.carry {B p T M L s lb lc:Nat} {bk:Nat → Nat} {Mw:Nat → BitVec 64} {X Y:World} (h:Mm B p T M L s lb lc bk Mw X) (k:Ext X Y):Mm B p T M L s lb lc bk Mw Y:=h.ext k
theorem TabM.below {B:Nat} {X Y:World} (h:TabM X) (k:Below B X Y) (hB:0 < B):TabM Y:=⟨fun j hj=>by
  have h0:Y.heap[0]? = X.heap[0]?:=k.block 0 hB
  exact (World.cell?_of_block (a:=⟨0,j,none⟩) h0).trans (h.1 j hj),Nat.lt_of_lt_of_le h.2 k.size⟩
theorem xstoreM {P:Program} {o:Oper} {a:Act} {w:World} (t:TypeId) (x y:Operand) (ho:o.op = .store t x y) (b N off n:Nat) (g g':Nat → Value) (hx:a.eval x = .pointer (some ⟨b,off,none⟩)) (hy:a.eval y = .agg (row n g').toArray) (h:RowAt b N g w) (hN:off + n ≤ N)
    (hi:(P.info? t).map (·.size) = some n) (h1:∀ j,j < n → (g' j).oneCell' = true):(execOp a.eval o).run P w = .ok .skip (w.setCells b off (row n g')):=by
  have ht:w.there b off n:=fun j hj=>by
    have h1:=h.1 (off + j) (by omega)
    have h2:=h.2.1 (off + j) (by omega)
    simp [h1,h2]
  unfold execOp
  simp only [ho,hx,hy,Instr.storeAt,Instr.sureAddr,Sem.run_bind,Sem.run_pure,Result.andThen_ok,run_storeVar_mid (P:=P) w b off t (row n g').toArray (by rw [row_size]; exact ht) (by rw [row_size]; exact hi) (row_one h1)]
theorem ln_cell {B p T M L s lb lc:Nat} {bk:Nat → Nat} {Mw:Nat → BitVec 64} {X:World} (h:Mm B p T M L s lb lc bk Mw X) (l:Nat) (hl:l < L):X.cell? ⟨lb,l,none⟩ = some (.slice (some ⟨bk l,0,none⟩) (4 * s) (4 * s)):=h.ln.1 l hl
theorem adR_yes {ps sl ln tot T:Nat} (h:ps = 0 ∧ sl < 2):adR ps sl ln tot T = adA ps sl ln tot T:=by unfold adR; rw [if_pos h]
theorem ads_any (B p T M L s lb lc:Nat) (bk:Nat → Nat) (Mw:Nat → BitVec 64) (ps sl ln:Nat) (w:World) (hM:Mm B p T M L s lb lc bk Mw w) (hTM:TabM w) (hp:okP (T:Int) (M:Int) (L:Int)) (hs:s = M / (4 * L)):Calls Tryd.prog 50 #[.pointer (some ⟨p,0,none⟩),.agg (row 3 (tuV ps sl ln)).toArray] w fun e w'=>e = .returned (.agg (row 128 (wv (adR ps sl ln (4 * s * L) T))).toArray) ∧ Ext w w':=by
  unfold adR
  by_cases h:ps = 0 ∧ sl < 2
  · rw [if_pos h]; exact ads_yes B p T M L s lb lc bk Mw ps sl ln w hM hTM hp hs h
  · rw [if_neg h]; exact ads_no B p T M L s lb lc bk Mw ps sl ln w hM hTM hp hs h
set_option maxRecDepth 20000 in
set_option maxHeartbeats 4000000 in
theorem fill_any (B p T M L s lb lc:Nat) (bk:Nat → Nat) (Mw:Nat → BitVec 64) (ps sl ln:Nat) (w:World) (hM:Mm B p T M L s lb lc bk Mw w) (hTM:TabM w) (hp:okP (T:Int) (M:Int) (L:Int)) (hsM:s = M / (4 * L)) (hs0:2 ≤ s ∧ s ≤ 64) (hsl:sl < 4) (hln:ln < L) (hL4:L ≤ 4) (hB0:0 < B) (hBw:B ≤ w.heap.size) (hk0:True):Calls Tryd.prog 30 #[.pointer (some ⟨p,0,none⟩),.agg (row 3 (tuV ps sl ln)).toArray] w fun e w'=>e = .returned (.tuple #[]) ∧ Mm B p T M L s lb lc bk (flA s L T Mw ps sl ln s) w' ∧ Below B w w':=by
  replace hM:=hideit hM
  replace hTM:=hideit hTM
  replace hp:=hideit hp
  replace hsM:=hideit hsM
  have hs:Hid (2 ≤ s ∧ s ≤ 64):=hs0
  have hbl:Hid (bk ln < w.heap.size):=(hM.out.pg ln hln).2.2
  have HB:=hideit (hM.out.pg ln hln)
  have hE:=hideit (Ext.refl w)
  replace hk0:=hideit hk0
  obtain ⟨AD,hAD⟩:∃ A,A = adR ps sl ln (4 * s * L) T:=⟨_,rfl⟩
  replace hAD:=hideit hAD
  have hl2:(ln:Int) < (L:Int):=by omega
  go_enter Tryd.func30,Tryd.ntmps30
  go_upto_region 0 with (fail)
  refine wp_region_lit ?_
  have A0:=hideit (RowAt.new w 3 (tuV ps sl ln) 58)
  have XB:Ext w (w.alloc (.cells (row 3 (tuV ps sl ln)).toArray 58)):=(Below.refl _ _).alloc (Nat.le_refl _) _
  have A1:=hideit (HB.out.alloc (.cells (row 3 (tuV ps sl ln)).toArray 58))
  have L0:=hideit (hM.out.ext XB)
  have AE:=hideit (Below.alloc hE.out (Below.size hE.out) (.cells (row 3 (tuV ps sl ln)).toArray 58))
  have AB:=hideit (Below.size hE.out)
  have D0:Hid ((bk ln) ≠ w.heap.size):=Nat.ne_of_lt HB.out.2.2
  clear XB
  refine wpList_to rfl (.pointer (some ⟨w.heap.size,0,none⟩)) (w.alloc (.cells (row 3 (tuV ps sl ln)).toArray 58)) (by simp [go_sem]) ?_
  simp only [jk,jq,jv,jy]
  generalize w.alloc (.cells (row 3 (tuV ps sl ln)).toArray 58) = x2 at A0 A1 L0 AE ⊢
  obtain ⟨z1,ez1⟩:∃ b,b = w.heap.size:=⟨_,rfl⟩
  rw [← ez1] at A0 D0 AB ⊢
  clear ez1
  have Hz1:=A0
  clear A0
  replace HB:=A1
  clear A1
  replace hM:=L0
  clear L0
  replace hE:=AE
  clear AE
  have ABz1:=AB
  clear AB
  have Dz1_0:=D0
  clear D0
  have HP:=hideit hM.out.rc
  have hbc:Hid (bk ln ≠ z1):=Dz1_0
  clear HB
  go_upto_region 1 with (fail)
  replace Hz1:=hideit Hz1.out.drew
  replace HP:=hideit HP.out.drew
  replace hM:=hideit (hM.out.ext (Ext.draw (Ext.refl x2)))
  replace hE:=hideit (Ext.draw hE.out)
  refine wp_region_lad (fun X=>Ext x2.drew X) [(false,0),(false,1),(false,2),(false,3),(false,4),(false,5),(false,6),(false,7),(false,8)] (by kernel_rfl) (by kernel_rfl) (by decide +kernel) (by decide +kernel) (by decide +kernel) (by decide +kernel) (Ext.refl _) ?_
  refine wpX_f _ (.pointer (some ⟨p,0,none⟩)) rfl rfl (fun X _=>by simp [go_sem]) ?_
  simp only [List.getElem_toArray,List.getElem_cons_zero,Act.put,List.setIfInBounds_toArray,List.set_cons_zero,List.set_cons_succ]
  refine wpX_f _ (.pointer (some ⟨p,0,none⟩)) rfl rfl (fun X _=>by simp [go_sem]) ?_
  simp only [jw,jz,kj,jk,jq,jv,jy]
  refine wpX_f _ (.pointer (some ⟨p,4,none⟩)) rfl rfl (fun X _=>by simp [go_sem]) ?_
  simp only [jw,jz,kj,jk,jq,jv,jy]
  refine wpX_f _ (.slice (some ⟨lb,0,none⟩) L lc) rfl rfl (fun X hX=>by have m3:X.cell? ⟨p,4,none⟩ = some (.slice (some ⟨lb,0,none⟩) L lc):=(HP.out.carry hX).1 4 (by decide); simp [go_sem,m3]) ?_
  simp only [jw,jz,kj,jk,jq,jv,jy]
  refine wpX_f _ (.pointer (some ⟨z1,2,none⟩)) rfl rfl (fun X _=>by simp [go_sem]) ?_
  simp only [jw,jz,kj,jk,jq,jv,jy]
  refine wpX_f _ (.int .i64 (ln:Int)) rfl rfl (fun X hX=>by have m4:X.cell? ⟨z1,2,none⟩ = some (.int .i64 (ln:Int)):=(Hz1.out.carry hX).1 2 (by decide); simp [go_sem,m4]) ?_
  simp only [jw,jz,kj,jk,jq,jv,jy]
  refine wpX_f _ (.pointer (some ⟨lb,ln,none⟩)) rfl rfl (fun X _=>by simp [go_sem,hl2,add00]) ?_
  simp only [jw,jz,kj,jk,jq,jv,jy]
  refine wpX_f _ (.slice (some ⟨bk ln,0,none⟩) (4 * s) (4 * s)) rfl rfl (fun X hX=>(by have q:=ln_cell (hM.out.carry hX) ln hln; simp [go_sem,q])) ?_
  simp only [jw,jz,kj,jk,jq,jv,jy]
  refine wpX_f _ (.slice (some ⟨bk ln,0,none⟩) (4 * s) (4 * s)) rfl rfl (fun X _=>by simp [go_sem]) ?_
  simp only [jw,jz,kj,jk,jq,jv,jy]
  refine wpX_nil ?_
  go_upto_region 2 with (fail)
  refine wp_region_lit ?_
  refine xm [some (.pointer (some ⟨p,0,none⟩))] (by kernel_rfl) (by simp [xr,go_sem]) ?_
  simp only [xw,p0,p1,p2,p3]
  refine wpList_run rfl (.agg (row 3 (tuV ps sl ln)).toArray) (xload 58 (.tmp 3) rfl z1 0 3 _ rfl Hz1.out.range Tryd.underlying58 rfl infoTu) ?_
  simp only [jk,jq,jv,jy]
  refine wpList_call rfl (by simp [go_sem]) ((ads_any B p T M L s lb lc bk Mw ps sl ln x2.drew hM.out (hTM.out.ext hE.out) hp.out hsM.out).mono ?_)
  rintro e y2 ⟨rfl,hX2⟩
  refine ⟨_,rfl,?_⟩
  simp only [jk,jq,jv,jy]
  replace Hz1:=hideit (Hz1.out.carry hX2)
  replace HP:=hideit (HP.out.carry hX2)
  replace hM:=hideit (hM.out.ext hX2)
  replace hE:=hideit (Ext.trans hE.out hX2)
  rw [← hAD.out]
  have hsy:=hideit (Below.size hE.out)
  clear hX2
  refine wpList_to rfl (.pointer (some ⟨y2.heap.size,0,none⟩)) (y2.alloc (.cells (row 128 (wv fun _=>0#64)).toArray 24)) (xalloc 24 _ rfl (zero31p _)) ?_
  simp only [jk,jq,jv,jy]
  have N0:=hideit ((RowAt.new y2 128 (wv fun _=>0#64) 24).cells (g':=wv AD))
  have XE:Ext y2 ((y2.alloc (.cells (row 128 (wv fun _=>0#64)).toArray 24)).setCells y2.heap.size 0 (row 128 (wv AD))):=below_setCells y2.heap.size (Nat.le_refl _) _ 0 _ ((Below.refl _ _).alloc (Nat.le_refl _) _)
  have NB:Hid (∀ q,q < y2.heap.size → q ≠ y2.heap.size):=fun q hq=>Nat.ne_of_lt hq
  have NL:Hid (y2.heap.size ≤ y2.heap.size):=Nat.le_refl _
  refine xst rfl ((y2.alloc (.cells (row 128 (wv fun _=>0#64)).toArray 24)).setCells y2.heap.size 0 (row 128 (wv AD))) (xstore 24 (.tmp 5) (.tmp 20) rfl y2.heap.size 128 _ (wv AD) rfl rfl (RowAt.new y2 128 (wv fun _=>0#64) 24) infoPg (fun _ _=>rfl)) ?_
  simp only [Act.put]
  generalize (y2.alloc (.cells (row 128 (wv fun _=>0#64)).toArray 24)).setCells y2.heap.size 0 (row 128 (wv AD)) = x5 at N0 XE ⊢
  obtain ⟨ab,eab⟩:∃ b,b = y2.heap.size:=⟨_,rfl⟩
  have NB2:Hid (y2.heap.size ≤ ab):=by rw [eab]; exact Nat.le_refl _
  rw [← eab] at N0 ⊢
  clear eab NB NL
  have Hab:=N0
  clear N0
  replace Hz1:=hideit (Hz1.out.carry XE)
  replace HP:=hideit (HP.out.carry XE)
  replace hM:=hideit (hM.out.ext XE)
  replace hE:=hideit (Ext.trans hE.out XE)
  have Bab:=NB2
  clear NB2 XE
  go_upto_region 3 with (fail)
  refine wp_region_lit ?_
  have m6:x5.cell? ⟨p,3,none⟩ = some (.int .i64 (s:Int)):=HP.out.1 3 (by decide)
  refine xm [some (.pointer (some ⟨p,0,none⟩)),some (.pointer (some ⟨p,0,none⟩)),some (.pointer (some ⟨p,3,none⟩)),some (.int .i64 (s:Int)),some (.int .i64 0)] (by kernel_rfl) (by simp [xr,go_sem,m6]) ?_
  simp only [xw,p0,p1,p2,p3]
  clear m6
  have hba:Hid (bk ln ≠ ab):=by have:=hbl.out; have:=Bab.out; have:=hsy.out; show _ ≠ _; omega
  clear HP hl2
  replace hE:=hideit (Below.mono hE.out hBw)
  go_upto_region 4 with (fail)
  go_loopw [25] (fun i X=>∃ k:Nat,k ≤ s ∧ i = .int .i64 (k:Int) ∧ Mm B p T M L s lb lc bk (flA s L T Mw ps sl ln k) X ∧ RowAt z1 3 (tuV ps sl ln) X ∧ RowAt ab 128 (wv AD) X ∧ Below B w X) (fun i _=>100 - (intOf i).toNat)
  case atStart=>exact ⟨0,Nat.zero_le _,rfl,hM.out,Hz1.out,Hab.out,hE.out⟩
  case round=>
    clear hM Hz1 Hab hE
    obtain ⟨k,hk,rfl,hM,Hc,Ha,hE⟩:=hrel
    obtain ⟨N,hN⟩:∃ N,N = flA s L T Mw ps sl ln k:=⟨_,rfl⟩
    rw [← hN] at hM
    replace hN:=hideit hN
    have HP:=hideit hM.rc
    have hT2:=hideit (hTM.out.below hE (by omega))
    have hEX:=hideit (Ext.refl wr)
    replace hM:=hideit hM
    replace Hc:=hideit Hc
    replace Ha:=hideit Ha
    replace hE:=hideit hE
    by_cases hlt:k < s
    · have k1:(k:Int) < (s:Int):=by omega
      have ek:IntKind.i64.wrap ((k:Int) + 1) = ((k + 1:Nat):Int):=by have:=hs.out; rw [IntKind.wrap_i64]; omega
      have hhs:sl * s + k < 4 * s:=by
        have:sl * s + s ≤ 4 * s:=by rw [← Nat.succ_mul]; exact Nat.mul_le_mul_right _ hsl
        omega
      obtain ⟨h,hh⟩:∃ h,h = sl * s + k:=⟨_,rfl⟩
      have y1:IntKind.i64.wrap ((sl:Int) * (s:Int)) = (sl:Int) * (s:Int):=by
        have:=hs.out
        have e:(sl:Int) * (s:Int) = ((sl * s:Nat):Int):=by simp
        rw [e,IntKind.wrap_i64]; omega
      have y2:IntKind.i64.wrap ((sl:Int) * (s:Int) + (k:Int)) = (h:Int):=by
        have:=hs.out
        have e:(sl:Int) * (s:Int) = ((sl * s:Nat):Int):=by simp
        rw [e,hh,IntKind.wrap_i64]; omega
      rw [← hh] at hhs
      replace hh:=hideit hh
      replace hhs:=hideit hhs
      replace y1:=hideit y1
      replace y2:=hideit y2
      replace ek:=hideit ek
      replace k1:=hideit k1
      go_upto_region 4 with (fail)
      refine wp_region_lit ?_
      refine xm [some (.bool true)] (by kernel_rfl) (by simp [xr,go_sem,k1.out]) ?_
      simp only [xw,p0,p1,p2,p3]
      go_upto_region 5 with (fail)
      refine wp_region_lit ?_
      refine xm [some (.int .i64 (k:Int)),some (.int .i64 (k:Int))] (by kernel_rfl) (by simp [xr,go_sem]) ?_
      simp only [xw,p0,p1,p2,p3]
      go_upto_region 6 with (fail)
      replace Hc:=hideit Hc.out.drew
      replace Ha:=hideit Ha.out.drew
      replace HP:=hideit HP.out.drew
      replace hM:=hideit (hM.out.ext (Ext.draw (Ext.refl wr)))
      replace hT2:=hideit (hT2.out.ext (Ext.draw (Ext.refl wr)))
      replace hEX:=hideit (Ext.draw hEX.out)
      refine wp_region_lad (fun X=>Ext wr.drew X) [(false,0),(false,1),(false,2),(false,3),(false,4),(false,5),(false,6),(false,7),(false,8),(false,9)] (by kernel_rfl) (by kernel_rfl) (by decide +kernel) (by decide +kernel) (by decide +kernel) (by decide +kernel) (Ext.refl _) ?_
      refine wpX_f _ (.pointer (some ⟨z1,1,none⟩)) rfl rfl (fun X _=>by simp [go_sem]) ?_
      simp only [List.getElem_toArray,List.getElem_cons_zero,Act.put,List.setIfInBounds_toArray,List.set_cons_zero,List.set_cons_succ]
      refine wpX_f _ (.int .i64 (sl:Int)) rfl rfl (fun X hX=>by have m7:X.cell? ⟨z1,1,none⟩ = some (.int .i64 (sl:Int)):=(Hc.out.carry hX).1 1 (by decide); simp [go_sem,m7]) ?_
      simp only [jw,jz,kj,jk,jq,jv,jy]
      refine wpX_f _ (.pointer (some ⟨p,0,none⟩)) rfl rfl (fun X _=>by simp [go_sem]) ?_
      simp only [jw,jz,kj,jk,jq,jv,jy]
      refine wpX_f _ (.pointer (some ⟨p,0,none⟩)) rfl rfl (fun X _=>by simp [go_sem]) ?_
      simp only [jw,jz,kj,jk,jq,jv,jy]
      refine wpX_f _ (.pointer (some ⟨p,3,none⟩)) rfl rfl (fun X _=>by simp [go_sem]) ?_
      simp only [jw,jz,kj,jk,jq,jv,jy]
      refine wpX_f _ (.int .i64 (s:Int)) rfl rfl (fun X hX=>by have m8:X.cell? ⟨p,3,none⟩ = some (.int .i64 (s:Int)):=(HP.out.carry hX).1 3 (by decide); simp [go_sem,m8]) ?_
      simp only [jw,jz,kj,jk,jq,jv,jy]
      refine wpX_f _ (.int .i64 ((sl:Int) * (s:Int))) rfl rfl (fun X _=>by simp [go_sem,y1.out]) ?_
      simp only [jw,jz,kj,jk,jq,jv,jy]
      refine wpX_f _ (.int .i64 (k:Int)) rfl rfl (fun X _=>by simp [go_sem]) ?_
      simp only [jw,jz,kj,jk,jq,jv,jy]
      refine wpX_f _ (.int .i64 (h:Int)) rfl rfl (fun X _=>by simp [go_sem,y2.out]) ?_
      simp only [jw,jz,kj,jk,jq,jv,jy]
      refine wpX_f _ (.int .i64 (h:Int)) rfl rfl (fun X _=>by simp [go_sem]) ?_
      simp only [jw,jz,kj,jk,jq,jv,jy]
      refine wpX_nil ?_
      by_cases a1':ps = 0
      · have a1:=hideit a1'
        by_cases a2':h < 2
        · have a2:Hid ((h:Int) < 2):=by show _ < _; omega
          go_upto_region 7 with (fail)
          refine wp_region_lit ?_
          have m9:wr.drew.cell? ⟨z1,0,none⟩ = some (.int .i64 (ps:Int)):=Hc.out.1 0 (by decide)
          refine xm [some (.pointer (some ⟨z1,0,none⟩)),some (.int .i64 (ps:Int)),some (.bool true),some (.bool true),some (.int .i64 (h:Int)),some (.bool true),some (.bool true)] (by kernel_rfl) (by simp [xr,go_sem,m9,a1.out,a2.out]) ?_
          simp only [xw,p0,p1,p2,p3]
          clear m9
          have hEB:=hideit (Below.trans hE.out (Below.mono hEX.out (Nat.le_trans hBw (Below.size hE.out))))
          go_upto_region 13 with (fail)
          refine wp_region_lit ?_
          refine xm [some (.int .i64 ((k + 1:Nat):Int)),some (.int .i64 ((k + 1:Nat):Int))] (by kernel_rfl) (by simp [xr,go_sem,ek.out]) ?_
          simp only [xw,p0,p1,p2,p3]
          go_wp2
          refine ⟨⟨k + 1,by omega,rfl,?_,Hc.out,Ha.out,hEB.out⟩,by have:=hs.out; simp [intOf]; omega⟩
          unfold flA
          rw [if_pos ⟨a1.out,by rw [← hh.out]; have:=a2.out; omega⟩,← hN.out]
          exact hM.out
        · have a2:Hid (¬ (h:Int) < 2):=by show ¬ _; omega
          by_cases a3':ps = 0 ∧ sl < 2
          · have a3:=hideit a3'
            clear a1' a2' a3'
            go_upto_region 7 with (fail)
            refine wp_region_lit ?_
            have m9:wr.drew.cell? ⟨z1,0,none⟩ = some (.int .i64 (ps:Int)):=Hc.out.1 0 (by decide)
            refine xm [some (.pointer (some ⟨z1,0,none⟩)),some (.int .i64 (ps:Int)),some (.bool true),some (.bool true),some (.int .i64 (h:Int)),some (.bool false),some (.bool false)] (by kernel_rfl) (by simp [xr,go_sem,m9,a1.out,a2.out]) ?_
            simp only [xw,p0,p1,p2,p3]
            clear m9
            obtain ⟨ah,hah⟩:∃ a,a = (h + (4 * s - 1)) % (4 * s):=⟨_,rfl⟩
            have hal:ah < 4 * s:=by rw [hah]; exact Nat.mod_lt _ (by have:=hs.out; omega)
            have x1:IntKind.i64.wrap ((h:Int) + 4 * (s:Int)) = (h:Int) + 4 * (s:Int):=by have:=hs.out; have:=hhs.out; rw [IntKind.wrap_i64]; omega
            have x2:IntKind.i64.wrap ((h:Int) + 4 * (s:Int) - 1) = ((h + (4 * s - 1):Nat):Int):=by have:=hs.out; have:=hhs.out; rw [IntKind.wrap_i64]; omega
            obtain ⟨sm,hsm⟩:∃ a,a = h + (4 * s - 1):=⟨_,rfl⟩
            rw [← hsm] at x2 hah
            have x3:(sm:Int).tmod (4 * (s:Int)) = (ah:Int):=by
              rw [hah,Int.tmod_eq_emod_of_nonneg (by omega)]
              rfl
            have x0:¬ s = 0:=by have:=hs.out; omega
            have x4:(ah:Int) < 4 * (s:Int):=by omega
            have x5:(h:Int) < 4 * (s:Int):=by have:=hhs.out; omega
            rw [hsm] at hah
            clear hsm
            replace hah:=hideit hah
            replace hal:=hideit hal
            replace x0:=hideit x0
            replace x1:=hideit x1
            replace x2:=hideit x2
            replace x3:=hideit x3
            replace x4:=hideit x4
            replace x5:=hideit x5
            go_upto_region 8 with (fail)
            refine wp_region_lit ?_
            refine xm [some (.slice (some ⟨bk ln,0,none⟩) (4 * s) (4 * s)),some (.int .i64 (h:Int)),some (.slice (some ⟨bk ln,0,none⟩) (4 * s) (4 * s)),some (.int .i64 (4 * (s:Int))),some (.int .i64 ((h:Int) + 4 * (s:Int))),some (.int .i64 (sm:Int)),some (.slice (some ⟨bk ln,0,none⟩) (4 * s) (4 * s)),some (.int .i64 (4 * (s:Int))),some (.int .i64 (ah:Int)),some (.pointer (some ⟨bk ln,ah * 128,none⟩))] (by kernel_rfl) (by simp [xr,go_sem,x1.out,x2.out,x0.out,x3.out,x4.out,add00]) ?_
            simp only [xw,p0,p1,p2,p3]
            refine wpList_run rfl (.agg (row 128 (wv (pgA N (4 * s * ln + ah)))).toArray) (xload 24 (.tmp 53) rfl (bk ln) (ah * 128) 128 _ rfl (hM.out.range ln hln ah hal.out) Tryd.underlying24 rfl infoPg) ?_
            simp only [jk,jq,jv,jy]
            refine wpList_to rfl (.pointer (some ⟨wr.drew.heap.size,0,none⟩)) (wr.drew.alloc (.cells (row 128 (wv fun _=>0#64)).toArray 24)) (xalloc 24 _ rfl (zero31p _)) ?_
            simp only [jk,jq,jv,jy]
            have N0:=hideit ((RowAt.new wr.drew 128 (wv fun _=>0#64) 24).cells (g':=wv (pgA N (4 * s * ln + ah))))
            have XE:Ext wr.drew ((wr.drew.alloc (.cells (row 128 (wv fun _=>0#64)).toArray 24)).setCells wr.drew.heap.size 0 (row 128 (wv (pgA N (4 * s * ln + ah))))):=below_setCells wr.drew.heap.size (Nat.le_refl _) _ 0 _ ((Below.refl _ _).alloc (Nat.le_refl _) _)
            have NB:Hid (∀ q,q < wr.drew.heap.size → q ≠ wr.drew.heap.size):=fun q hq=>Nat.ne_of_lt hq
            have NL:Hid (wr.drew.heap.size ≤ wr.drew.heap.size):=Nat.le_refl _
            refine xst rfl ((wr.drew.alloc (.cells (row 128 (wv fun _=>0#64)).toArray 24)).setCells wr.drew.heap.size 0 (row 128 (wv (pgA N (4 * s * ln + ah))))) (xstore 24 (.tmp 8) (.tmp 54) rfl wr.drew.heap.size 128 _ (wv (pgA N (4 * s * ln + ah))) rfl rfl (RowAt.new wr.drew 128 (wv fun _=>0#64) 24) infoPg (fun _ _=>rfl)) ?_
            simp only [Act.put]
            generalize (wr.drew.alloc (.cells (row 128 (wv fun _=>0#64)).toArray 24)).setCells wr.drew.heap.size 0 (row 128 (wv (pgA N (4 * s * ln + ah)))) = x10 at N0 XE ⊢
            obtain ⟨hb,ehb⟩:∃ b,b = wr.drew.heap.size:=⟨_,rfl⟩
            have NB2:Hid (wr.drew.heap.size ≤ hb):=by rw [ehb]; exact Nat.le_refl _
            rw [← ehb] at N0 ⊢
            clear ehb NB NL
            have Hhb:=N0
            clear N0
            replace Hc:=hideit (Hc.out.carry XE)
            replace Ha:=hideit (Ha.out.carry XE)
            replace HP:=hideit (HP.out.carry XE)
            replace hM:=hideit (hM.out.ext XE)
            replace hT2:=hideit (hT2.out.ext XE)
            replace hEX:=hideit (Ext.trans hEX.out XE)
            have Bhb:=NB2
            clear NB2 XE
            have cA:x10.cell? ⟨hb,0,none⟩ = some (.int .u64 ((pgA N (4 * s * ln + ah) 0).toNat:Int)):=Hhb.out.1 0 (by decide)
            go_upto_region 9 with (fail)
            refine wp_region_lit ?_
            refine xm [some (.pointer (some ⟨hb,0,none⟩)),some (.int .u64 ((pgA N (4 * s * ln + ah) 0).toNat:Int)),some (.int .u64 ((pgA N (4 * s * ln + ah) 0).toNat:Int))] (by kernel_rfl) (by simp [xr,go_sem,cA]) ?_
            simp only [xw,p0,p1,p2,p3]
            clear cA
            go_upto_region 10 with (fail)
            refine wp_region_lit ?_
            refine wpList_run rfl (.agg (row 3 (tuV ps sl ln)).toArray) (xload 58 (.tmp 3) rfl z1 0 3 _ rfl Hc.out.range Tryd.underlying58 rfl infoTu) ?_
            simp only [jk,jq,jv,jy]
            refine wpList_call rfl (by simp [go_sem]) ((adr_any ps sl ln x10 true (decide_eq_true a3.out).symm).mono ?_)
            rintro e y11 ⟨rfl,hX12⟩
            refine ⟨_,rfl,?_⟩
            simp only [jk,jq,jv,jy]
            replace Hc:=hideit (Hc.out.carry hX12)
            replace Ha:=hideit (Ha.out.carry hX12)
            replace HP:=hideit (HP.out.carry hX12)
            replace Hhb:=hideit (Hhb.out.carry hX12)
            replace hM:=hideit (hM.out.ext hX12)
            replace hT2:=hideit (hT2.out.ext hX12)
            replace hEX:=hideit (Ext.trans hEX.out hX12)
            clear hX12
            have cA:y11.cell? ⟨ab,k,none⟩ = some (.int .u64 ((AD k).toNat:Int)):=Ha.out.1 k (by have:=hs.out; omega)
            have k3:(k:Int) < 128:=by have:=hs.out; omega
            go_upto_region 11 with (fail)
            refine wp_region_lit ?_
            refine xm [some (.int .i64 (k:Int)),some (.pointer (some ⟨ab,k,none⟩)),some (.int .u64 ((AD k).toNat:Int)),some (.int .u64 ((AD k).toNat:Int))] (by kernel_rfl) (by simp [xr,go_sem,k3,cA]) ?_
            simp only [xw,p0,p1,p2,p3]
            clear cA k3
            obtain ⟨x,hx⟩:∃ x,x = AD k:=⟨_,rfl⟩
            rw [← hx]
            replace hx:=hideit hx
            have hkk:Hid (ps = 0 → sl = 0 → 2 ≤ k):=fun h1 h2=>by have e:=hh.out; rw [h2] at e; have:=a2.out; omega
            go_upto_region 12 with (fail)
            replace Hc:=hideit Hc.out.drew
            replace Ha:=hideit Ha.out.drew
            replace HP:=hideit HP.out.drew
            replace Hhb:=hideit Hhb.out.drew
            replace hM:=hideit (hM.out.ext (Ext.draw (Ext.refl y11)))
            replace hT2:=hideit (hT2.out.ext (Ext.draw (Ext.refl y11)))
            replace hEX:=hideit (Ext.draw hEX.out)
            refine wp_region_ladz (fun X=>Ext y11.drew X) [15] [(false,0),(false,1),(false,2),(false,3),(false,4),(false,5),(false,6),(false,7),(false,8),(false,9),(false,10),(true,11),(true,12),(true,13),(false,14),(true,15)] (by kernel_rfl) (by kernel_rfl) (by decide +kernel) (by decide +kernel) (by decide +kernel) (by decide +kernel) (Ext.refl _) ?_
            refine wpZ_f _ (.slice (some ⟨bk ln,0,none⟩) (4 * s) (4 * s)) rfl rfl (fun X _=>by simp [go_sem]) ?_
            simp only [List.getElem_toArray,List.getElem_cons_zero,Act.put,List.setIfInBounds_toArray,List.set_cons_zero,List.set_cons_succ]
            refine wpZ_f _ (.int .i64 (h:Int)) rfl rfl (fun X _=>by simp [go_sem]) ?_
            simp only [jw,jz,kj,jk,jq,jv,jy]
            refine wpZ_f _ (.slice (some ⟨bk ln,0,none⟩) (4 * s) (4 * s)) rfl rfl (fun X _=>by simp [go_sem]) ?_
            simp only [jw,jz,kj,jk,jq,jv,jy]
            refine wpZ_f _ (.int .i64 (h:Int)) rfl rfl (fun X _=>by simp [go_sem]) ?_
            simp only [jw,jz,kj,jk,jq,jv,jy]
            refine wpZ_f _ (.pointer (some ⟨bk ln,h * 128,none⟩)) rfl rfl (fun X _=>by simp [go_sem,x5.out,add00]) ?_
            simp only [jw,jz,kj,jk,jq,jv,jy]
            refine wpZ_f _ (.agg (row 128 (wv (pgA N (4 * s * ln + h)))).toArray) rfl rfl (fun X hX=>xload 24 (.tmp 66) rfl (bk ln) (h * 128) 128 _ rfl ((hM.out.carry hX).range ln hln h hhs.out) Tryd.underlying24 rfl infoPg) ?_
            simp only [jw,jz,kj,jk,jq,jv,jy]
            refine wpZ_f _ (.agg (row 128 (wv (pgA N (4 * s * ln + ah)))).toArray) rfl rfl (fun X hX=>xload 24 (.tmp 8) rfl hb 0 128 _ rfl (Hhb.out.carry hX).range Tryd.underlying24 rfl infoPg) ?_
            simp only [jw,jz,kj,jk,jq,jv,jy]
            refine wpZ_f _ (.pointer (some ⟨p,0,none⟩)) rfl rfl (fun X _=>by simp [go_sem]) ?_
            simp only [jw,jz,kj,jk,jq,jv,jy]
            refine wpZ_f _ (.agg (row 3 (tuV ps sl ln)).toArray) rfl rfl (fun X hX=>xload 58 (.tmp 3) rfl z1 0 3 _ rfl (Hc.out.carry hX).range Tryd.underlying58 rfl infoTu) ?_
            simp only [jw,jz,kj,jk,jq,jv,jy]
            refine wpZ_f _ (.int .i64 (k:Int)) rfl rfl (fun X _=>by simp [go_sem]) ?_
            simp only [jw,jz,kj,jk,jq,jv,jy]
            refine wpZ_f _ (.int .u64 (x.toNat:Int)) rfl rfl (fun X _=>by simp [go_sem]) ?_
            simp only [jw,jz,kj,jk,jq,jv,jy]
            refine wpZ_call _ rfl rfl (by simp [go_sem]) ((oth_any B p T M L s lb lc bk N ps sl ln k x y11.drew hM.out hs.out hsl (by have:=hs.out; omega) hln hL4 (fun h1 h2=>hkk.out h1 h2)).mono ?_)
            rintro e y13 ⟨rfl,hX14⟩
            refine ⟨_,rfl,fun X=>Ext y13 X,.inr (fun X hX=>Ext.trans hX14 hX),Ext.refl _,?_⟩
            simp only [jw,jz,kj,jk,jq,jv,jy]
            replace Hc:=hideit (Hc.out.carry hX14)
            replace Ha:=hideit (Ha.out.carry hX14)
            replace HP:=hideit (HP.out.carry hX14)
            replace Hhb:=hideit (Hhb.out.carry hX14)
            replace hM:=hideit (hM.out.ext hX14)
            replace hT2:=hideit (hT2.out.ext hX14)
            replace hEX:=hideit (Ext.trans hEX.out hX14)
            clear hX14
            refine wpZ_call _ rfl rfl (by simp [go_sem]) ((pages_any (pgA N (4 * s * ln + ah)) (pgA N (otA s L ps sl ln k x)) y13 hT2.out).mono ?_)
            rintro e y15 ⟨rfl,hX16⟩
            refine ⟨_,rfl,fun X=>Ext y15 X,.inr (fun X hX=>Ext.trans hX16 hX),Ext.refl _,?_⟩
            simp only [jw,jz,kj,jk,jq,jv,jy]
            replace Hc:=hideit (Hc.out.carry hX16)
            replace Ha:=hideit (Ha.out.carry hX16)
            replace HP:=hideit (HP.out.carry hX16)
            replace Hhb:=hideit (Hhb.out.carry hX16)
            replace hM:=hideit (hM.out.ext hX16)
            replace hT2:=hideit (hT2.out.ext hX16)
            replace hEX:=hideit (Ext.trans hEX.out hX16)
            clear hX16
            refine wpZ_call _ rfl rfl (by simp [go_sem]) ((plus_any (pgA N (4 * s * ln + h)) (pagesF (pgA N (4 * s * ln + ah)) (pgA N (otA s L ps sl ln k x))) y15).mono ?_)
            rintro e y17 ⟨rfl,hX18⟩
            refine ⟨_,rfl,fun X=>Ext y17 X,.inr (fun X hX=>Ext.trans hX18 hX),Ext.refl _,?_⟩
            simp only [jw,jz,kj,jk,jq,jv,jy]
            replace Hc:=hideit (Hc.out.carry hX18)
            replace Ha:=hideit (Ha.out.carry hX18)
            replace HP:=hideit (HP.out.carry hX18)
            replace Hhb:=hideit (Hhb.out.carry hX18)
            replace hM:=hideit (hM.out.ext hX18)
            replace hT2:=hideit (hT2.out.ext hX18)
            replace hEX:=hideit (Ext.trans hEX.out hX18)
            clear hX18
            refine wpZ_f _ (.pointer (some ⟨bk ln,h * 128,none⟩)) rfl rfl (fun X _=>by simp [go_sem,x5.out,add00]) ?_
            simp only [jw,jz,kj,jk,jq,jv,jy]
            have N0:=hideit (hM.out.set ln hln h hhs.out (xrF (pgA N (4 * s * ln + h)) (pagesF (pgA N (4 * s * ln + ah)) (pgA N (otA s L ps sl ln k x)))))
            have N1:=hideit (Hc.out.cellsOther hbc.out (row 128 (wv (xrF (pgA N (4 * s * ln + h)) (pagesF (pgA N (4 * s * ln + ah)) (pgA N (otA s L ps sl ln k x)))))) (h * 128))
            have N2:=hideit (Ha.out.cellsOther hba.out (row 128 (wv (xrF (pgA N (4 * s * ln + h)) (pagesF (pgA N (4 * s * ln + ah)) (pgA N (otA s L ps sl ln k x)))))) (h * 128))
            have N3:=hideit (below_setCells (bk ln) (hM.out.dj ln hln).2.2.1 (row 128 (wv (xrF (pgA N (4 * s * ln + h)) (pagesF (pgA N (4 * s * ln + ah)) (pgA N (otA s L ps sl ln k x)))))) (h * 128) _ (Below.trans hE.out (Below.mono hEX.out (Nat.le_trans hBw (Below.size hE.out)))))
            refine wpZ_st _ (y17.setCells (bk ln) (h * 128) (row 128 (wv (xrF (pgA N (4 * s * ln + h)) (pagesF (pgA N (4 * s * ln + ah)) (pgA N (otA s L ps sl ln k x))))))) rfl rfl (xstoreM 24 (.tmp 76) (.tmp 75) rfl (bk ln) (128 * (4 * s)) (h * 128) 128 _ (wv (xrF (pgA N (4 * s * ln + h)) (pagesF (pgA N (4 * s * ln + ah)) (pgA N (otA s L ps sl ln k x))))) rfl rfl (hM.out.pg ln hln) (by have:=hhs.out; omega) infoPg (fun _ _=>rfl)) (fun _=>True) (.inl (by simp)) trivial ?_
            simp only [List.getElem_toArray,List.getElem_cons_zero,List.getElem_cons_succ,Act.put]
            generalize y17.setCells (bk ln) (h * 128) (row 128 (wv (xrF (pgA N (4 * s * ln + h)) (pagesF (pgA N (4 * s * ln + ah)) (pgA N (otA s L ps sl ln k x)))))) = x9 at N0 N1 N2 N3 ⊢
            clear hM Hc Ha hE hEX HP Hhb
            refine wpZ_nil ?_
            go_upto_region 13 with (fail)
            refine wp_region_lit ?_
            refine xm [some (.int .i64 ((k + 1:Nat):Int)),some (.int .i64 ((k + 1:Nat):Int))] (by kernel_rfl) (by simp [xr,go_sem,ek.out]) ?_
            simp only [xw,p0,p1,p2,p3]
            go_wp2
            refine ⟨⟨k + 1,by omega,rfl,?_,N1.out,N2.out,N3.out⟩,by have:=hs.out; simp [intOf]; omega⟩
            have e1:wdA s L T N ps sl ln k = x:=by
              unfold wdA ahA
              rw [← hh.out,← hah.out]
              rw [if_pos a3.out,← adR_yes a3.out,← hAD.out,← hx.out]
            unfold flA
            rw [if_neg (fun q=>by rw [← hh.out] at q; have:=a2.out; omega),← hN.out]
            unfold stA
            rw [e1]
            unfold ahA
            rw [← hh.out,← hah.out]
            exact N0.out
          · have a3:=hideit a3'
            clear a1' a2' a3'
            go_upto_region 7 with (fail)
            refine wp_region_lit ?_
            have m9:wr.drew.cell? ⟨z1,0,none⟩ = some (.int .i64 (ps:Int)):=Hc.out.1 0 (by decide)
            refine xm [some (.pointer (some ⟨z1,0,none⟩)),some (.int .i64 (ps:Int)),some (.bool true),some (.bool true),some (.int .i64 (h:Int)),some (.bool false),some (.bool false)] (by kernel_rfl) (by simp [xr,go_sem,m9,a1.out,a2.out]) ?_
            simp only [xw,p0,p1,p2,p3]
            clear m9
            obtain ⟨ah,hah⟩:∃ a,a = (h + (4 * s - 1)) % (4 * s):=⟨_,rfl⟩
            have hal:ah < 4 * s:=by rw [hah]; exact Nat.mod_lt _ (by have:=hs.out; omega)
            have x1:IntKind.i64.wrap ((h:Int) + 4 * (s:Int)) = (h:Int) + 4 * (s:Int):=by have:=hs.out; have:=hhs.out; rw [IntKind.wrap_i64]; omega
            have x2:IntKind.i64.wrap ((h:Int) + 4 * (s:Int) - 1) = ((h + (4 * s - 1):Nat):Int):=by have:=hs.out; have:=hhs.out; rw [IntKind.wrap_i64]; omega
            obtain ⟨sm,hsm⟩:∃ a,a = h + (4 * s - 1):=⟨_,rfl⟩
            rw [← hsm] at x2 hah
            have x3:(sm:Int).tmod (4 * (s:Int)) = (ah:Int):=by
              rw [hah,Int.tmod_eq_emod_of_nonneg (by omega)]
              rfl
            have x0:¬ s = 0:=by have:=hs.out; omega
            have x4:(ah:Int) < 4 * (s:Int):=by omega
            have x5:(h:Int) < 4 * (s:Int):=by have:=hhs.out; omega
            rw [hsm] at hah
            clear hsm
            replace hah:=hideit hah
            replace hal:=hideit hal
            replace x0:=hideit x0
            replace x1:=hideit x1
            replace x2:=hideit x2
            replace x3:=hideit x3
            replace x4:=hideit x4
            replace x5:=hideit x5
            go_upto_region 8 with (fail)
            refine wp_region_lit ?_
            refine xm [some (.slice (some ⟨bk ln,0,none⟩) (4 * s) (4 * s)),some (.int .i64 (h:Int)),some (.slice (some ⟨bk ln,0,none⟩) (4 * s) (4 * s)),some (.int .i64 (4 * (s:Int))),some (.int .i64 ((h:Int) + 4 * (s:Int))),some (.int .i64 (sm:Int)),some (.slice (some ⟨bk ln,0,none⟩) (4 * s) (4 * s)),some (.int .i64 (4 * (s:Int))),some (.int .i64 (ah:Int)),some (.pointer (some ⟨bk ln,ah * 128,none⟩))] (by kernel_rfl) (by simp [xr,go_sem,x1.out,x2.out,x0.out,x3.out,x4.out,add00]) ?_
            simp only [xw,p0,p1,p2,p3]
            refine wpList_run rfl (.agg (row 128 (wv (pgA N (4 * s * ln + ah)))).toArray) (xload 24 (.tmp 53) rfl (bk ln) (ah * 128) 128 _ rfl (hM.out.range ln hln ah hal.out) Tryd.underlying24 rfl infoPg) ?_
            simp only [jk,jq,jv,jy]
            refine wpList_to rfl (.pointer (some ⟨wr.drew.heap.size,0,none⟩)) (wr.drew.alloc (.cells (row 128 (wv fun _=>0#64)).toArray 24)) (xalloc 24 _ rfl (zero31p _)) ?_
            simp only [jk,jq,jv,jy]
            have N0:=hideit ((RowAt.new wr.drew 128 (wv fun _=>0#64) 24).cells (g':=wv (pgA N (4 * s * ln + ah))))
            have XE:Ext wr.drew ((wr.drew.alloc (.cells (row 128 (wv fun _=>0#64)).toArray 24)).setCells wr.drew.heap.size 0 (row 128 (wv (pgA N (4 * s * ln + ah))))):=below_setCells wr.drew.heap.size (Nat.le_refl _) _ 0 _ ((Below.refl _ _).alloc (Nat.le_refl _) _)
            have NB:Hid (∀ q,q < wr.drew.heap.size → q ≠ wr.drew.heap.size):=fun q hq=>Nat.ne_of_lt hq
            have NL:Hid (wr.drew.heap.size ≤ wr.drew.heap.size):=Nat.le_refl _
            refine xst rfl ((wr.drew.alloc (.cells (row 128 (wv fun _=>0#64)).toArray 24)).setCells wr.drew.heap.size 0 (row 128 (wv (pgA N (4 * s * ln + ah))))) (xstore 24 (.tmp 8) (.tmp 54) rfl wr.drew.heap.size 128 _ (wv (pgA N (4 * s * ln + ah))) rfl rfl (RowAt.new wr.drew 128 (wv fun _=>0#64) 24) infoPg (fun _ _=>rfl)) ?_
            simp only [Act.put]
            generalize (wr.drew.alloc (.cells (row 128 (wv fun _=>0#64)).toArray 24)).setCells wr.drew.heap.size 0 (row 128 (wv (pgA N (4 * s * ln + ah)))) = x10 at N0 XE ⊢
            obtain ⟨hb,ehb⟩:∃ b,b = wr.drew.heap.size:=⟨_,rfl⟩
            have NB2:Hid (wr.drew.heap.size ≤ hb):=by rw [ehb]; exact Nat.le_refl _
            rw [← ehb] at N0 ⊢
            clear ehb NB NL
            have Hhb:=N0
            clear N0
            replace Hc:=hideit (Hc.out.carry XE)
            replace Ha:=hideit (Ha.out.carry XE)
            replace HP:=hideit (HP.out.carry XE)
            replace hM:=hideit (hM.out.ext XE)
            replace hT2:=hideit (hT2.out.ext XE)
            replace hEX:=hideit (Ext.trans hEX.out XE)
            have Bhb:=NB2
            clear NB2 XE
            have cA:x10.cell? ⟨hb,0,none⟩ = some (.int .u64 ((pgA N (4 * s * ln + ah) 0).toNat:Int)):=Hhb.out.1 0 (by decide)
            go_upto_region 9 with (fail)
            refine wp_region_lit ?_
            refine xm [some (.pointer (some ⟨hb,0,none⟩)),some (.int .u64 ((pgA N (4 * s * ln + ah) 0).toNat:Int)),some (.int .u64 ((pgA N (4 * s * ln + ah) 0).toNat:Int))] (by kernel_rfl) (by simp [xr,go_sem,cA]) ?_
            simp only [xw,p0,p1,p2,p3]
            clear cA
            go_upto_region 10 with (fail)
            refine wp_region_lit ?_
            refine wpList_run rfl (.agg (row 3 (tuV ps sl ln)).toArray) (xload 58 (.tmp 3) rfl z1 0 3 _ rfl Hc.out.range Tryd.underlying58 rfl infoTu) ?_
            simp only [jk,jq,jv,jy]
            refine wpList_call rfl (by simp [go_sem]) ((adr_any ps sl ln x10 false (decide_eq_false a3.out).symm).mono ?_)
            rintro e y11 ⟨rfl,hX12⟩
            refine ⟨_,rfl,?_⟩
            simp only [jk,jq,jv,jy]
            replace Hc:=hideit (Hc.out.carry hX12)
            replace Ha:=hideit (Ha.out.carry hX12)
            replace HP:=hideit (HP.out.carry hX12)
            replace Hhb:=hideit (Hhb.out.carry hX12)
            replace hM:=hideit (hM.out.ext hX12)
            replace hT2:=hideit (hT2.out.ext hX12)
            replace hEX:=hideit (Ext.trans hEX.out hX12)
            clear hX12
            obtain ⟨x,hx⟩:∃ x,x = pgA N (4 * s * ln + ah) 0:=⟨_,rfl⟩
            rw [← hx]
            replace hx:=hideit hx
            have hkk:Hid (ps = 0 → sl = 0 → 2 ≤ k):=fun h1 h2=>by have e:=hh.out; rw [h2] at e; have:=a2.out; omega
            go_upto_region 12 with (fail)
            replace Hc:=hideit Hc.out.drew
            replace Ha:=hideit Ha.out.drew
            replace HP:=hideit HP.out.drew
            replace Hhb:=hideit Hhb.out.drew
            replace hM:=hideit (hM.out.ext (Ext.draw (Ext.refl y11)))
            replace hT2:=hideit (hT2.out.ext (Ext.draw (Ext.refl y11)))
            replace hEX:=hideit (Ext.draw hEX.out)
            refine wp_region_ladz (fun X=>Ext y11.drew X) [15] [(false,0),(false,1),(false,2),(false,3),(false,4),(false,5),(false,6),(false,7),(false,8),(false,9),(false,10),(true,11),(true,12),(true,13),(false,14),(true,15)] (by kernel_rfl) (by kernel_rfl) (by decide +kernel) (by decide +kernel) (by decide +kernel) (by decide +kernel) (Ext.refl _) ?_
            refine wpZ_f _ (.slice (some ⟨bk ln,0,none⟩) (4 * s) (4 * s)) rfl rfl (fun X _=>by simp [go_sem]) ?_
            simp only [List.getElem_toArray,List.getElem_cons_zero,Act.put,List.setIfInBounds_toArray,List.set_cons_zero,List.set_cons_succ]
            refine wpZ_f _ (.int .i64 (h:Int)) rfl rfl (fun X _=>by simp [go_sem]) ?_
            simp only [jw,jz,kj,jk,jq,jv,jy]
            refine wpZ_f _ (.slice (some ⟨bk ln,0,none⟩) (4 * s) (4 * s)) rfl rfl (fun X _=>by simp [go_sem]) ?_
            simp only [jw,jz,kj,jk,jq,jv,jy]
            refine wpZ_f _ (.int .i64 (h:Int)) rfl rfl (fun X _=>by simp [go_sem]) ?_
            simp only [jw,jz,kj,jk,jq,jv,jy]
            refine wpZ_f _ (.pointer (some ⟨bk ln,h * 128,none⟩)) rfl rfl (fun X _=>by simp [go_sem,x5.out,add00]) ?_
            simp only [jw,jz,kj,jk,jq,jv,jy]
            refine wpZ_f _ (.agg (row 128 (wv (pgA N (4 * s * ln + h)))).toArray) rfl rfl (fun X hX=>xload 24 (.tmp 66) rfl (bk ln) (h * 128) 128 _ rfl ((hM.out.carry hX).range ln hln h hhs.out) Tryd.underlying24 rfl infoPg) ?_
            simp only [jw,jz,kj,jk,jq,jv,jy]
            refine wpZ_f _ (.agg (row 128 (wv (pgA N (4 * s * ln + ah)))).toArray) rfl rfl (fun X hX=>xload 24 (.tmp 8) rfl hb 0 128 _ rfl (Hhb.out.carry hX).range Tryd.underlying24 rfl infoPg) ?_
            simp only [jw,jz,kj,jk,jq,jv,jy]
            refine wpZ_f _ (.pointer (some ⟨p,0,none⟩)) rfl rfl (fun X _=>by simp [go_sem]) ?_
            simp only [jw,jz,kj,jk,jq,jv,jy]
            refine wpZ_f _ (.agg (row 3 (tuV ps sl ln)).toArray) rfl rfl (fun X hX=>xload 58 (.tmp 3) rfl z1 0 3 _ rfl (Hc.out.carry hX).range Tryd.underlying58 rfl infoTu) ?_
            simp only [jw,jz,kj,jk,jq,jv,jy]
            refine wpZ_f _ (.int .i64 (k:Int)) rfl rfl (fun X _=>by simp [go_sem]) ?_
            simp only [jw,jz,kj,jk,jq,jv,jy]
            refine wpZ_f _ (.int .u64 (x.toNat:Int)) rfl rfl (fun X _=>by simp [go_sem]) ?_
            simp only [jw,jz,kj,jk,jq,jv,jy]
            refine wpZ_call _ rfl rfl (by simp [go_sem]) ((oth_any B p T M L s lb lc bk N ps sl ln k x y11.drew hM.out hs.out hsl (by have:=hs.out; omega) hln hL4 (fun h1 h2=>hkk.out h1 h2)).mono ?_)
            rintro e y13 ⟨rfl,hX14⟩
            refine ⟨_,rfl,fun X=>Ext y13 X,.inr (fun X hX=>Ext.trans hX14 hX),Ext.refl _,?_⟩
            simp only [jw,jz,kj,jk,jq,jv,jy]
            replace Hc:=hideit (Hc.out.carry hX14)
            replace Ha:=hideit (Ha.out.carry hX14)
            replace HP:=hideit (HP.out.carry hX14)
            replace Hhb:=hideit (Hhb.out.carry hX14)
            replace hM:=hideit (hM.out.ext hX14)
            replace hT2:=hideit (hT2.out.ext hX14)
            replace hEX:=hideit (Ext.trans hEX.out hX14)
            clear hX14
            refine wpZ_call _ rfl rfl (by simp [go_sem]) ((pages_any (pgA N (4 * s * ln + ah)) (pgA N (otA s L ps sl ln k x)) y13 hT2.out).mono ?_)
            rintro e y15 ⟨rfl,hX16⟩
            refine ⟨_,rfl,fun X=>Ext y15 X,.inr (fun X hX=>Ext.trans hX16 hX),Ext.refl _,?_⟩
            simp only [jw,jz,kj,jk,jq,jv,jy]
            replace Hc:=hideit (Hc.out.carry hX16)
            replace Ha:=hideit (Ha.out.carry hX16)
            replace HP:=hideit (HP.out.carry hX16)
            replace Hhb:=hideit (Hhb.out.carry hX16)
            replace hM:=hideit (hM.out.ext hX16)
            replace hT2:=hideit (hT2.out.ext hX16)
            replace hEX:=hideit (Ext.trans hEX.out hX16)
            clear hX16
            refine wpZ_call _ rfl rfl (by simp [go_sem]) ((plus_any (pgA N (4 * s * ln + h)) (pagesF (pgA N (4 * s * ln + ah)) (pgA N (otA s L ps sl ln k x))) y15).mono ?_)
            rintro e y17 ⟨rfl,hX18⟩
            refine ⟨_,rfl,fun X=>Ext y17 X,.inr (fun X hX=>Ext.trans hX18 hX),Ext.refl _,?_⟩
            simp only [jw,jz,kj,jk,jq,jv,jy]
            replace Hc:=hideit (Hc.out.carry hX18)
            replace Ha:=hideit (Ha.out.carry hX18)
            replace HP:=hideit (HP.out.carry hX18)
            replace Hhb:=hideit (Hhb.out.carry hX18)
            replace hM:=hideit (hM.out.ext hX18)
            replace hT2:=hideit (hT2.out.ext hX18)
            replace hEX:=hideit (Ext.trans hEX.out hX18)
            clear hX18
            refine wpZ_f _ (.pointer (some ⟨bk ln,h * 128,none⟩)) rfl rfl (fun X _=>by simp [go_sem,x5.out,add00]) ?_
            simp only [jw,jz,kj,jk,jq,jv,jy]
            have N0:=hideit (hM.out.set ln hln h hhs.out (xrF (pgA N (4 * s * ln + h)) (pagesF (pgA N (4 * s * ln + ah)) (pgA N (otA s L ps sl ln k x)))))
            have N1:=hideit (Hc.out.cellsOther hbc.out (row 128 (wv (xrF (pgA N (4 * s * ln + h)) (pagesF (pgA N (4 * s * ln + ah)) (pgA N (otA s L ps sl ln k x)))))) (h * 128))
            have N2:=hideit (Ha.out.cellsOther hba.out (row 128 (wv (xrF (pgA N (4 * s * ln + h)) (pagesF (pgA N (4 * s * ln + ah)) (pgA N (otA s L ps sl ln k x)))))) (h * 128))
            have N3:=hideit (below_setCells (bk ln) (hM.out.dj ln hln).2.2.1 (row 128 (wv (xrF (pgA N (4 * s * ln + h)) (pagesF (pgA N (4 * s * ln + ah)) (pgA N (otA s L ps sl ln k x)))))) (h * 128) _ (Below.trans hE.out (Below.mono hEX.out (Nat.le_trans hBw (Below.size hE.out)))))
            refine wpZ_st _ (y17.setCells (bk ln) (h * 128) (row 128 (wv (xrF (pgA N (4 * s * ln + h)) (pagesF (pgA N (4 * s * ln + ah)) (pgA N (otA s L ps sl ln k x))))))) rfl rfl (xstoreM 24 (.tmp 76) (.tmp 75) rfl (bk ln) (128 * (4 * s)) (h * 128) 128 _ (wv (xrF (pgA N (4 * s * ln + h)) (pagesF (pgA N (4 * s * ln + ah)) (pgA N (otA s L ps sl ln k x))))) rfl rfl (hM.out.pg ln hln) (by have:=hhs.out; omega) infoPg (fun _ _=>rfl)) (fun _=>True) (.inl (by simp)) trivial ?_
            simp only [List.getElem_toArray,List.getElem_cons_zero,List.getElem_cons_succ,Act.put]
            generalize y17.setCells (bk ln) (h * 128) (row 128 (wv (xrF (pgA N (4 * s * ln + h)) (pagesF (pgA N (4 * s * ln + ah)) (pgA N (otA s L ps sl ln k x)))))) = x9 at N0 N1 N2 N3 ⊢
            clear hM Hc Ha hE hEX HP Hhb
            refine wpZ_nil ?_
            go_upto_region 13 with (fail)
            refine wp_region_lit ?_
            refine xm [some (.int .i64 ((k + 1:Nat):Int)),some (.int .i64 ((k + 1:Nat):Int))] (by kernel_rfl) (by simp [xr,go_sem,ek.out]) ?_
            simp only [xw,p0,p1,p2,p3]
            go_wp2
            refine ⟨⟨k + 1,by omega,rfl,?_,N1.out,N2.out,N3.out⟩,by have:=hs.out; simp [intOf]; omega⟩
            have e1:wdA s L T N ps sl ln k = x:=by
              unfold wdA ahA
              rw [← hh.out,← hah.out]
              rw [if_neg a3.out]; exact hx.out.symm
            unfold flA
            rw [if_neg (fun q=>by rw [← hh.out] at q; have:=a2.out; omega),← hN.out]
            unfold stA
            rw [e1]
            unfold ahA
            rw [← hh.out,← hah.out]
            exact N0.out
      · have a1:=hideit a1'
        have a3:Hid (¬ (ps = 0 ∧ sl < 2)):=fun q=>a1' q.1
        clear a1'
        go_upto_region 7 with (fail)
        refine wp_region_lit ?_
        have m9:wr.drew.cell? ⟨z1,0,none⟩ = some (.int .i64 (ps:Int)):=Hc.out.1 0 (by decide)
        refine xm [some (.pointer (some ⟨z1,0,none⟩)),some (.int .i64 (ps:Int)),some (.bool false),some (.bool false),none,none,some (.bool false)] (by kernel_rfl) (by simp [xr,go_sem,m9,a1.out]) ?_
        simp only [xw,p0,p1,p2,p3]
        clear m9
        obtain ⟨ah,hah⟩:∃ a,a = (h + (4 * s - 1)) % (4 * s):=⟨_,rfl⟩
        have hal:ah < 4 * s:=by rw [hah]; exact Nat.mod_lt _ (by have:=hs.out; omega)
        have x1:IntKind.i64.wrap ((h:Int) + 4 * (s:Int)) = (h:Int) + 4 * (s:Int):=by have:=hs.out; have:=hhs.out; rw [IntKind.wrap_i64]; omega
        have x2:IntKind.i64.wrap ((h:Int) + 4 * (s:Int) - 1) = ((h + (4 * s - 1):Nat):Int):=by have:=hs.out; have:=hhs.out; rw [IntKind.wrap_i64]; omega
        obtain ⟨sm,hsm⟩:∃ a,a = h + (4 * s - 1):=⟨_,rfl⟩
        rw [← hsm] at x2 hah
        have x3:(sm:Int).tmod (4 * (s:Int)) = (ah:Int):=by
          rw [hah,Int.tmod_eq_emod_of_nonneg (by omega)]
          rfl
        have x0:¬ s = 0:=by have:=hs.out; omega
        have x4:(ah:Int) < 4 * (s:Int):=by omega
        have x5:(h:Int) < 4 * (s:Int):=by have:=hhs.out; omega
        rw [hsm] at hah
        clear hsm
        replace hah:=hideit hah
        replace hal:=hideit hal
        replace x0:=hideit x0
        replace x1:=hideit x1
        replace x2:=hideit x2
        replace x3:=hideit x3
        replace x4:=hideit x4
        replace x5:=hideit x5
        go_upto_region 8 with (fail)
        refine wp_region_lit ?_
        refine xm [some (.slice (some ⟨bk ln,0,none⟩) (4 * s) (4 * s)),some (.int .i64 (h:Int)),some (.slice (some ⟨bk ln,0,none⟩) (4 * s) (4 * s)),some (.int .i64 (4 * (s:Int))),some (.int .i64 ((h:Int) + 4 * (s:Int))),some (.int .i64 (sm:Int)),some (.slice (some ⟨bk ln,0,none⟩) (4 * s) (4 * s)),some (.int .i64 (4 * (s:Int))),some (.int .i64 (ah:Int)),some (.pointer (some ⟨bk ln,ah * 128,none⟩))] (by kernel_rfl) (by simp [xr,go_sem,x1.out,x2.out,x0.out,x3.out,x4.out,add00]) ?_
        simp only [xw,p0,p1,p2,p3]
        refine wpList_run rfl (.agg (row 128 (wv (pgA N (4 * s * ln + ah)))).toArray) (xload 24 (.tmp 53) rfl (bk ln) (ah * 128) 128 _ rfl (hM.out.range ln hln ah hal.out) Tryd.underlying24 rfl infoPg) ?_
        simp only [jk,jq,jv,jy]
        refine wpList_to rfl (.pointer (some ⟨wr.drew.heap.size,0,none⟩)) (wr.drew.alloc (.cells (row 128 (wv fun _=>0#64)).toArray 24)) (xalloc 24 _ rfl (zero31p _)) ?_
        simp only [jk,jq,jv,jy]
        have N0:=hideit ((RowAt.new wr.drew 128 (wv fun _=>0#64) 24).cells (g':=wv (pgA N (4 * s * ln + ah))))
        have XE:Ext wr.drew ((wr.drew.alloc (.cells (row 128 (wv fun _=>0#64)).toArray 24)).setCells wr.drew.heap.size 0 (row 128 (wv (pgA N (4 * s * ln + ah))))):=below_setCells wr.drew.heap.size (Nat.le_refl _) _ 0 _ ((Below.refl _ _).alloc (Nat.le_refl _) _)
        have NB:Hid (∀ q,q < wr.drew.heap.size → q ≠ wr.drew.heap.size):=fun q hq=>Nat.ne_of_lt hq
        have NL:Hid (wr.drew.heap.size ≤ wr.drew.heap.size):=Nat.le_refl _
        refine xst rfl ((wr.drew.alloc (.cells (row 128 (wv fun _=>0#64)).toArray 24)).setCells wr.drew.heap.size 0 (row 128 (wv (pgA N (4 * s * ln + ah))))) (xstore 24 (.tmp 8) (.tmp 54) rfl wr.drew.heap.size 128 _ (wv (pgA N (4 * s * ln + ah))) rfl rfl (RowAt.new wr.drew 128 (wv fun _=>0#64) 24) infoPg (fun _ _=>rfl)) ?_
        simp only [Act.put]
        generalize (wr.drew.alloc (.cells (row 128 (wv fun _=>0#64)).toArray 24)).setCells wr.drew.heap.size 0 (row 128 (wv (pgA N (4 * s * ln + ah)))) = x10 at N0 XE ⊢
        obtain ⟨hb,ehb⟩:∃ b,b = wr.drew.heap.size:=⟨_,rfl⟩
        have NB2:Hid (wr.drew.heap.size ≤ hb):=by rw [ehb]; exact Nat.le_refl _
        rw [← ehb] at N0 ⊢
        clear ehb NB NL
        have Hhb:=N0
        clear N0
        replace Hc:=hideit (Hc.out.carry XE)
        replace Ha:=hideit (Ha.out.carry XE)
        replace HP:=hideit (HP.out.carry XE)
        replace hM:=hideit (hM.out.ext XE)
        replace hT2:=hideit (hT2.out.ext XE)
        replace hEX:=hideit (Ext.trans hEX.out XE)
        have Bhb:=NB2
        clear NB2 XE
        have cA:x10.cell? ⟨hb,0,none⟩ = some (.int .u64 ((pgA N (4 * s * ln + ah) 0).toNat:Int)):=Hhb.out.1 0 (by decide)
        go_upto_region 9 with (fail)
        refine wp_region_lit ?_
        refine xm [some (.pointer (some ⟨hb,0,none⟩)),some (.int .u64 ((pgA N (4 * s * ln + ah) 0).toNat:Int)),some (.int .u64 ((pgA N (4 * s * ln + ah) 0).toNat:Int))] (by kernel_rfl) (by simp [xr,go_sem,cA]) ?_
        simp only [xw,p0,p1,p2,p3]
        clear cA
        go_upto_region 10 with (fail)
        refine wp_region_lit ?_
        refine wpList_run rfl (.agg (row 3 (tuV ps sl ln)).toArray) (xload 58 (.tmp 3) rfl z1 0 3 _ rfl Hc.out.range Tryd.underlying58 rfl infoTu) ?_
        simp only [jk,jq,jv,jy]
        refine wpList_call rfl (by simp [go_sem]) ((adr_any ps sl ln x10 false (decide_eq_false a3.out).symm).mono ?_)
        rintro e y11 ⟨rfl,hX12⟩
        refine ⟨_,rfl,?_⟩
        simp only [jk,jq,jv,jy]
        replace Hc:=hideit (Hc.out.carry hX12)
        replace Ha:=hideit (Ha.out.carry hX12)
        replace HP:=hideit (HP.out.carry hX12)
        replace Hhb:=hideit (Hhb.out.carry hX12)
        replace hM:=hideit (hM.out.ext hX12)
        replace hT2:=hideit (hT2.out.ext hX12)
        replace hEX:=hideit (Ext.trans hEX.out hX12)
        clear hX12
        obtain ⟨x,hx⟩:∃ x,x = pgA N (4 * s * ln + ah) 0:=⟨_,rfl⟩
        rw [← hx]
        replace hx:=hideit hx
        have hkk:Hid (ps = 0 → sl = 0 → 2 ≤ k):=fun h1 h2=>by have e:=hh.out; rw [h2] at e; exact absurd h1 a1.out
        go_upto_region 12 with (fail)
        replace Hc:=hideit Hc.out.drew
        replace Ha:=hideit Ha.out.drew
        replace HP:=hideit HP.out.drew
        replace Hhb:=hideit Hhb.out.drew
        replace hM:=hideit (hM.out.ext (Ext.draw (Ext.refl y11)))
        replace hT2:=hideit (hT2.out.ext (Ext.draw (Ext.refl y11)))
        replace hEX:=hideit (Ext.draw hEX.out)
        refine wp_region_ladz (fun X=>Ext y11.drew X) [15] [(false,0),(false,1),(false,2),(false,3),(false,4),(false,5),(false,6),(false,7),(false,8),(false,9),(false,10),(true,11),(true,12),(true,13),(false,14),(true,15)] (by kernel_rfl) (by kernel_rfl) (by decide +kernel) (by decide +kernel) (by decide +kernel) (by decide +kernel) (Ext.refl _) ?_
        refine wpZ_f _ (.slice (some ⟨bk ln,0,none⟩) (4 * s) (4 * s)) rfl rfl (fun X _=>by simp [go_sem]) ?_
        simp only [List.getElem_toArray,List.getElem_cons_zero,Act.put,List.setIfInBounds_toArray,List.set_cons_zero,List.set_cons_succ]
        refine wpZ_f _ (.int .i64 (h:Int)) rfl rfl (fun X _=>by simp [go_sem]) ?_
        simp only [jw,jz,kj,jk,jq,jv,jy]
        refine wpZ_f _ (.slice (some ⟨bk ln,0,none⟩) (4 * s) (4 * s)) rfl rfl (fun X _=>by simp [go_sem]) ?_
        simp only [jw,jz,kj,jk,jq,jv,jy]
        refine wpZ_f _ (.int .i64 (h:Int)) rfl rfl (fun X _=>by simp [go_sem]) ?_
        simp only [jw,jz,kj,jk,jq,jv,jy]
        refine wpZ_f _ (.pointer (some ⟨bk ln,h * 128,none⟩)) rfl rfl (fun X _=>by simp [go_sem,x5.out,add00]) ?_
        simp only [jw,jz,kj,jk,jq,jv,jy]
        refine wpZ_f _ (.agg (row 128 (wv (pgA N (4 * s * ln + h)))).toArray) rfl rfl (fun X hX=>xload 24 (.tmp 66) rfl (bk ln) (h * 128) 128 _ rfl ((hM.out.carry hX).range ln hln h hhs.out) Tryd.underlying24 rfl infoPg) ?_
        simp only [jw,jz,kj,jk,jq,jv,jy]
        refine wpZ_f _ (.agg (row 128 (wv (pgA N (4 * s * ln + ah)))).toArray) rfl rfl (fun X hX=>xload 24 (.tmp 8) rfl hb 0 128 _ rfl (Hhb.out.carry hX).range Tryd.underlying24 rfl infoPg) ?_
        simp only [jw,jz,kj,jk,jq,jv,jy]
        refine wpZ_f _ (.pointer (some ⟨p,0,none⟩)) rfl rfl (fun X _=>by simp [go_sem]) ?_
        simp only [jw,jz,kj,jk,jq,jv,jy]
        refine wpZ_f _ (.agg (row 3 (tuV ps sl ln)).toArray) rfl rfl (fun X hX=>xload 58 (.tmp 3) rfl z1 0 3 _ rfl (Hc.out.carry hX).range Tryd.underlying58 rfl infoTu) ?_
        simp only [jw,jz,kj,jk,jq,jv,jy]
        refine wpZ_f _ (.int .i64 (k:Int)) rfl rfl (fun X _=>by simp [go_sem]) ?_
        simp only [jw,jz,kj,jk,jq,jv,jy]
        refine wpZ_f _ (.int .u64 (x.toNat:Int)) rfl rfl (fun X _=>by simp [go_sem]) ?_
        simp only [jw,jz,kj,jk,jq,jv,jy]
        refine wpZ_call _ rfl rfl (by simp [go_sem]) ((oth_any B p T M L s lb lc bk N ps sl ln k x y11.drew hM.out hs.out hsl (by have:=hs.out; omega) hln hL4 (fun h1 h2=>hkk.out h1 h2)).mono ?_)
        rintro e y13 ⟨rfl,hX14⟩
        refine ⟨_,rfl,fun X=>Ext y13 X,.inr (fun X hX=>Ext.trans hX14 hX),Ext.refl _,?_⟩
        simp only [jw,jz,kj,jk,jq,jv,jy]
        replace Hc:=hideit (Hc.out.carry hX14)
        replace Ha:=hideit (Ha.out.carry hX14)
        replace HP:=hideit (HP.out.carry hX14)
        replace Hhb:=hideit (Hhb.out.carry hX14)
        replace hM:=hideit (hM.out.ext hX14)
        replace hT2:=hideit (hT2.out.ext hX14)
        replace hEX:=hideit (Ext.trans hEX.out hX14)
        clear hX14
        refine wpZ_call _ rfl rfl (by simp [go_sem]) ((pages_any (pgA N (4 * s * ln + ah)) (pgA N (otA s L ps sl ln k x)) y13 hT2.out).mono ?_)
        rintro e y15 ⟨rfl,hX16⟩
        refine ⟨_,rfl,fun X=>Ext y15 X,.inr (fun X hX=>Ext.trans hX16 hX),Ext.refl _,?_⟩
        simp only [jw,jz,kj,jk,jq,jv,jy]
        replace Hc:=hideit (Hc.out.carry hX16)
        replace Ha:=hideit (Ha.out.carry hX16)
        replace HP:=hideit (HP.out.carry hX16)
        replace Hhb:=hideit (Hhb.out.carry hX16)
        replace hM:=hideit (hM.out.ext hX16)
        replace hT2:=hideit (hT2.out.ext hX16)
        replace hEX:=hideit (Ext.trans hEX.out hX16)
        clear hX16
        refine wpZ_call _ rfl rfl (by simp [go_sem]) ((plus_any (pgA N (4 * s * ln + h)) (pagesF (pgA N (4 * s * ln + ah)) (pgA N (otA s L ps sl ln k x))) y15).mono ?_)
        rintro e y17 ⟨rfl,hX18⟩
        refine ⟨_,rfl,fun X=>Ext y17 X,.inr (fun X hX=>Ext.trans hX18 hX),Ext.refl _,?_⟩
        simp only [jw,jz,kj,jk,jq,jv,jy]
        replace Hc:=hideit (Hc.out.carry hX18)
        replace Ha:=hideit (Ha.out.carry hX18)
        replace HP:=hideit (HP.out.carry hX18)
        replace Hhb:=hideit (Hhb.out.carry hX18)
        replace hM:=hideit (hM.out.ext hX18)
        replace hT2:=hideit (hT2.out.ext hX18)
        replace hEX:=hideit (Ext.trans hEX.out hX18)
        clear hX18
        refine wpZ_f _ (.pointer (some ⟨bk ln,h * 128,none⟩)) rfl rfl (fun X _=>by simp [go_sem,x5.out,add00]) ?_
        simp only [jw,jz,kj,jk,jq,jv,jy]
        have N0:=hideit (hM.out.set ln hln h hhs.out (xrF (pgA N (4 * s * ln + h)) (pagesF (pgA N (4 * s * ln + ah)) (pgA N (otA s L ps sl ln k x)))))
        have N1:=hideit (Hc.out.cellsOther hbc.out (row 128 (wv (xrF (pgA N (4 * s * ln + h)) (pagesF (pgA N (4 * s * ln + ah)) (pgA N (otA s L ps sl ln k x)))))) (h * 128))
        have N2:=hideit (Ha.out.cellsOther hba.out (row 128 (wv (xrF (pgA N (4 * s * ln + h)) (pagesF (pgA N (4 * s * ln + ah)) (pgA N (otA s L ps sl ln k x)))))) (h * 128))
        have N3:=hideit (below_setCells (bk ln) (hM.out.dj ln hln).2.2.1 (row 128 (wv (xrF (pgA N (4 * s * ln + h)) (pagesF (pgA N (4 * s * ln + ah)) (pgA N (otA s L ps sl ln k x)))))) (h * 128) _ (Below.trans hE.out (Below.mono hEX.out (Nat.le_trans hBw (Below.size hE.out)))))
        refine wpZ_st _ (y17.setCells (bk ln) (h * 128) (row 128 (wv (xrF (pgA N (4 * s * ln + h)) (pagesF (pgA N (4 * s * ln + ah)) (pgA N (otA s L ps sl ln k x))))))) rfl rfl (xstoreM 24 (.tmp 76) (.tmp 75) rfl (bk ln) (128 * (4 * s)) (h * 128) 128 _ (wv (xrF (pgA N (4 * s * ln + h)) (pagesF (pgA N (4 * s * ln + ah)) (pgA N (otA s L ps sl ln k x))))) rfl rfl (hM.out.pg ln hln) (by have:=hhs.out; omega) infoPg (fun _ _=>rfl)) (fun _=>True) (.inl (by simp)) trivial ?_
        simp only [List.getElem_toArray,List.getElem_cons_zero,List.getElem_cons_succ,Act.put]
        generalize y17.setCells (bk ln) (h * 128) (row 128 (wv (xrF (pgA N (4 * s * ln + h)) (pagesF (pgA N (4 * s * ln + ah)) (pgA N (otA s L ps sl ln k x)))))) = x9 at N0 N1 N2 N3 ⊢
        clear hM Hc Ha hE hEX HP Hhb
        refine wpZ_nil ?_
        go_upto_region 13 with (fail)
        refine wp_region_lit ?_
        refine xm [some (.int .i64 ((k + 1:Nat):Int)),some (.int .i64 ((k + 1:Nat):Int))] (by kernel_rfl) (by simp [xr,go_sem,ek.out]) ?_
        simp only [xw,p0,p1,p2,p3]
        go_wp2
        refine ⟨⟨k + 1,by omega,rfl,?_,N1.out,N2.out,N3.out⟩,by have:=hs.out; simp [intOf]; omega⟩
        have e1:wdA s L T N ps sl ln k = x:=by
          unfold wdA ahA
          rw [← hh.out,← hah.out]
          rw [if_neg a3.out]; exact hx.out.symm
        unfold flA
        rw [if_neg (fun q=>a1.out q.1),← hN.out]
        unfold stA
        rw [e1]
        unfold ahA
        rw [← hh.out,← hah.out]
        exact N0.out
    · obtain rfl:k = s:=by omega
      have k1:¬ (k:Int) < (k:Int):=by omega
      go_upto_region 4 with (fail)
      refine wp_region_lit ?_
      refine xm [some (.bool false)] (by kernel_rfl) (by simp [xr,go_sem]) ?_
      simp only [xw,p0,p1,p2,p3]
      go_wp2
      rw [hN.out] at hM
      exact bodyPost_end (v:=.tuple #[]) (by simp [results,Tryd.results30]) rfl ⟨rfl,hM.out,hE.out⟩
end Go.Proofs.YtfbmeclpcgdmhabDoor
namespace Go.Proofs.YtfbmeclpcgdmhabDoor
open Go.RowKit Go.BigFrame
set_option linter.unusedVariables false
set_option maxRecDepth 20000 in
set_option maxHeartbeats 4000000 in
theorem end_any (B p T M L s lb lc:Nat) (bk:Nat → Nat) (Mw:Nat → BitVec 64) (w:World) (hM:Mm B p T M L s lb lc bk Mw w) (hs:2 ≤ s ∧ s ≤ 64) (hL4:L ≤ 4):Calls Tryd.prog 31 #[.pointer (some ⟨p,0,none⟩)] w fun e w'=>e = .returned (.agg (row 128 (wv (enA s Mw L))).toArray) ∧ Ext w w':=by
  have hMw:=hideit hM
  replace hM:=hideit hM
  have hE:=hideit (Ext.refl w)
  go_enter Tryd.func31,Tryd.ntmps31
  go_upto_region 0 with (fail)
  refine wp_region_lit ?_
  have A0:=hideit (RowAt.new w 128 (wv fun _=>0#64) 24)
  have XB:Ext w (w.alloc (.cells (row 128 (wv fun _=>0#64)).toArray 24)):=(Below.refl _ _).alloc (Nat.le_refl _) _
  have L0:=hideit (hM.out.ext XB)
  have AE:=hideit (Below.alloc hE.out (Below.size hE.out) (.cells (row 128 (wv fun _=>0#64)).toArray 24))
  have AB:=hideit (Below.size hE.out)
  clear XB
  refine wpList_to rfl (.pointer (some ⟨w.heap.size,0,none⟩)) (w.alloc (.cells (row 128 (wv fun _=>0#64)).toArray 24)) (xalloc 24 _ rfl (zero31p _)) ?_
  simp only [jk,jq,jv,jy]
  generalize w.alloc (.cells (row 128 (wv fun _=>0#64)).toArray 24) = x2 at A0 L0 AE ⊢
  obtain ⟨z1,ez1⟩:∃ b,b = w.heap.size:=⟨_,rfl⟩
  have ABz1:Hid (w.heap.size ≤ z1):=by rw [ez1]; exact AB.out
  clear AB
  rw [← ez1] at A0  ⊢
  clear ez1
  have Hz1:=A0
  clear A0
  replace hM:=L0
  clear L0
  replace hE:=AE
  clear AE
  go_upto_region 1 with (fail)
  refine wp_region_lit ?_
  have A0:=hideit (RowAt.new x2 128 (wv fun _=>0#64) 24)
  have XB:Ext x2 (x2.alloc (.cells (row 128 (wv fun _=>0#64)).toArray 24)):=(Below.refl _ _).alloc (Nat.le_refl _) _
  have A1:=hideit (Hz1.out.alloc (.cells (row 128 (wv fun _=>0#64)).toArray 24))
  have L0:=hideit (hM.out.ext XB)
  have AE:=hideit (Below.alloc hE.out (Below.size hE.out) (.cells (row 128 (wv fun _=>0#64)).toArray 24))
  have AB:=hideit (Below.size hE.out)
  have D0:Hid (z1 ≠ x2.heap.size):=Nat.ne_of_lt Hz1.out.2.2
  clear XB
  refine wpList_to rfl (.pointer (some ⟨x2.heap.size,0,none⟩)) (x2.alloc (.cells (row 128 (wv fun _=>0#64)).toArray 24)) (xalloc 24 _ rfl (zero31p _)) ?_
  simp only [jk,jq,jv,jy]
  generalize x2.alloc (.cells (row 128 (wv fun _=>0#64)).toArray 24) = x4 at A0 A1 L0 AE ⊢
  obtain ⟨z3,ez3⟩:∃ b,b = x2.heap.size:=⟨_,rfl⟩
  have ABz3:Hid (w.heap.size ≤ z3):=by rw [ez3]; exact AB.out
  clear AB
  rw [← ez3] at A0 D0 ⊢
  clear ez3
  have Hz3:=A0
  clear A0
  replace Hz1:=A1
  clear A1
  replace hM:=L0
  clear L0
  replace hE:=AE
  clear AE
  have Dz3_0:=D0
  clear D0
  have HP:=hideit hM.out.rc
  go_upto_region 2 with (fail)
  refine wp_region_lit ?_
  have m5:x4.cell? ⟨p,4,none⟩ = some (.slice (some ⟨lb,0,none⟩) L lc):=HP.out.1 4 (by decide)
  refine xm [some (.pointer (some ⟨p,0,none⟩)),some (.pointer (some ⟨p,0,none⟩)),some (.pointer (some ⟨p,4,none⟩)),some (.slice (some ⟨lb,0,none⟩) L lc),some (.int .i64 (L:Int)),some (.int .i64 0)] (by kernel_rfl) (by simp [xr,go_sem,m5]) ?_
  simp only [xw,p0,p1,p2,p3]
  clear m5
  clear HP
  go_upto_region 3 with (fail)
  go_loopw [11] (fun i X=>∃ l:Nat,l ≤ L ∧ i = .int .i64 (l:Int) ∧ RowAt z3 128 (wv (enA s Mw l)) X ∧ RowAt z1 128 (wv fun _=>0#64) X ∧ Ext w X) (fun i _=>100 - (intOf i).toNat)
  case atStart=>exact ⟨0,Nat.zero_le _,rfl,Hz3.out,Hz1.out,hE.out⟩
  case round=>
    have hM0:=hideit hMw.out
    clear Hz3 Hz1 hE
    obtain ⟨l,hl,rfl,Hm,Hr,hE⟩:=hrel
    replace hM:=hideit (hM0.out.ext hE)
    replace Hm:=hideit Hm
    replace Hr:=hideit Hr
    replace hE:=hideit hE
    by_cases hlt:l < L
    · have k1:(l:Int) < (L:Int):=by omega
      have ek:IntKind.i64.wrap ((l:Int) + 1) = ((l + 1:Nat):Int):=by have:=hL4; rw [IntKind.wrap_i64]; omega
      have x1:IntKind.i64.wrap (4 * (s:Int) - 1) = ((4 * s - 1:Nat):Int):=by rw [IntKind.wrap_i64]; omega
      obtain ⟨q,hq⟩:∃ q,q = 4 * s - 1:=⟨_,rfl⟩
      have hq4:q < 4 * s:=by omega
      have x2:(q:Int) < 4 * (s:Int):=by omega
      rw [← hq] at x1
      replace hq:=hideit hq
      replace x1:=hideit x1
      replace x2:=hideit x2
      replace hq4:=hideit hq4
      go_upto_region 3 with (fail)
      refine wp_region_lit ?_
      refine xm [some (.bool true)] (by kernel_rfl) (by simp [xr,go_sem,k1]) ?_
      simp only [xw,p0,p1,p2,p3]
      have cl:=ln_cell hM.out l hlt
      go_upto_region 4 with (fail)
      refine wp_region_lit ?_
      refine xm [some (.pointer (some ⟨lb,l,none⟩)),some (.slice (some ⟨bk l,0,none⟩) (4 * s) (4 * s)),some (.slice (some ⟨bk l,0,none⟩) (4 * s) (4 * s))] (by kernel_rfl) (by simp [xr,go_sem,k1,add00,cl]) ?_
      simp only [xw,p0,p1,p2,p3]
      clear cl k1
      go_upto_region 5 with (fail)
      replace Hr:=hideit Hr.out.drew
      replace Hm:=hideit Hm.out.drew
      replace hM:=hideit (hM.out.ext (Ext.draw (Ext.refl wr)))
      replace hE:=hideit (Ext.draw hE.out)
      refine wp_region_ladz (fun X=>Ext wr.drew X) [8] [(false,0),(false,1),(false,2),(false,3),(false,4),(false,5),(false,6),(true,7),(true,8)] (by kernel_rfl) (by kernel_rfl) (by decide +kernel) (by decide +kernel) (by decide +kernel) (by decide +kernel) (Ext.refl _) ?_
      refine wpZ_f _ (.agg (row 128 (wv (enA s Mw l))).toArray) rfl rfl (fun X hX=>xload 24 (.tmp 3) rfl z3 0 128 _ rfl (Hm.out.carry hX).range Tryd.underlying24 rfl infoPg) ?_
      simp only [List.getElem_toArray,List.getElem_cons_zero,Act.put,List.setIfInBounds_toArray,List.set_cons_zero,List.set_cons_succ]
      refine wpZ_f _ (.slice (some ⟨bk l,0,none⟩) (4 * s) (4 * s)) rfl rfl (fun X _=>by simp [go_sem]) ?_
      simp only [jw,jz,kj,jk,jq,jv,jy]
      refine wpZ_f _ (.slice (some ⟨bk l,0,none⟩) (4 * s) (4 * s)) rfl rfl (fun X _=>by simp [go_sem]) ?_
      simp only [jw,jz,kj,jk,jq,jv,jy]
      refine wpZ_f _ (.int .i64 (4 * (s:Int))) rfl rfl (fun X _=>by simp [go_sem]) ?_
      simp only [jw,jz,kj,jk,jq,jv,jy]
      refine wpZ_f _ (.int .i64 (q:Int)) rfl rfl (fun X _=>by simp [go_sem,x1.out]) ?_
      simp only [jw,jz,kj,jk,jq,jv,jy]
      refine wpZ_f _ (.pointer (some ⟨bk l,q * 128,none⟩)) rfl rfl (fun X _=>by simp [go_sem,x2.out,add00]) ?_
      simp only [jw,jz,kj,jk,jq,jv,jy]
      refine wpZ_f _ (.agg (row 128 (wv (pgA Mw (4 * s * l + q)))).toArray) rfl rfl (fun X hX=>xload 24 (.tmp 20) rfl (bk l) (q * 128) 128 _ rfl ((hM.out.carry hX).range l hlt q hq4.out) Tryd.underlying24 rfl infoPg) ?_
      simp only [jw,jz,kj,jk,jq,jv,jy]
      refine wpZ_call _ rfl rfl (by simp [go_sem]) ((plus_any (enA s Mw l) (pgA Mw (4 * s * l + q)) wr.drew).mono ?_)
      rintro e y6 ⟨rfl,hX7⟩
      refine ⟨_,rfl,fun X=>Ext y6 X,.inr (fun X hX=>Ext.trans hX7 hX),Ext.refl _,?_⟩
      simp only [jw,jz,kj,jk,jq,jv,jy]
      replace Hr:=hideit (Hr.out.carry hX7)
      replace Hm:=hideit (Hm.out.carry hX7)
      replace hM:=hideit (hM.out.ext hX7)
      replace hE:=hideit (Ext.trans hE.out hX7)
      clear hX7
      have N0:=hideit (Hm.out.cells (g':=wv (xrF (enA s Mw l) (pgA Mw (4 * s * l + q)))))
      have N1:=hideit (Hr.out.cellsOther (Ne.symm (Dz3_0.out)) (row 128 (wv (xrF (enA s Mw l) (pgA Mw (4 * s * l + q))))) 0)
      have NE:=hideit (below_setCells z3 (ABz3.out) (row 128 (wv (xrF (enA s Mw l) (pgA Mw (4 * s * l + q))))) 0 _ hE.out)
      refine wpZ_st _ (y6.setCells z3 0 (row 128 (wv (xrF (enA s Mw l) (pgA Mw (4 * s * l + q)))))) rfl rfl (xstore 24 (.tmp 3) (.tmp 22) rfl z3 128 _ (wv (xrF (enA s Mw l) (pgA Mw (4 * s * l + q)))) rfl rfl Hm.out infoPg (fun _ _=>rfl)) (fun _=>True) (.inl (by simp)) trivial ?_
      simp only [List.getElem_toArray,List.getElem_cons_zero,List.getElem_cons_succ,Act.put]
      generalize y6.setCells z3 0 (row 128 (wv (xrF (enA s Mw l) (pgA Mw (4 * s * l + q))))) = x8 at N0 N1 NE ⊢
      replace Hm:=N0
      replace Hr:=N1
      replace hE:=NE
      clear N0 N1 NE
      refine wpZ_nil ?_
      go_upto_region 6 with (fail)
      refine wp_region_lit ?_
      refine xm [some (.int .i64 ((l + 1:Nat):Int)),some (.int .i64 ((l + 1:Nat):Int))] (by kernel_rfl) (by simp [xr,go_sem,ek]) ?_
      simp only [xw,p0,p1,p2,p3]
      go_wp2
      refine ⟨⟨l + 1,by omega,rfl,?_,Hr.out,hE.out⟩,by simp [intOf]; omega⟩
      unfold enA
      rw [← hq.out]
      exact Hm.out
    · obtain rfl:l = L:=by omega
      go_upto_region 3 with (fail)
      refine wp_region_lit ?_
      refine xm [some (.bool false)] (by kernel_rfl) (by simp [xr,go_sem]) ?_
      simp only [xw,p0,p1,p2,p3]
      go_upto_region 7 with (fail)
      refine wp_region_lit ?_
      refine wpList_run rfl (.agg (row 128 (wv (enA s Mw l))).toArray) (xload 24 (.tmp 3) rfl z3 0 128 _ rfl Hm.out.range Tryd.underlying24 rfl infoPg) ?_
      simp only [jk,jq,jv,jy]
      have N0:=hideit (Hr.out.cells (g':=wv (enA s Mw l)))
      have N1:=hideit (Hm.out.cellsOther (Dz3_0.out) (row 128 (wv (enA s Mw l))) 0)
      have NE:=hideit (below_setCells z1 (ABz1.out) (row 128 (wv (enA s Mw l))) 0 _ hE.out)
      refine xst rfl (wr.setCells z1 0 (row 128 (wv (enA s Mw l)))) (xstore 24 (.tmp 2) (.tmp 24) rfl z1 128 _ (wv (enA s Mw l)) rfl rfl Hr.out infoPg (fun _ _=>rfl)) ?_
      simp only [Act.put]
      generalize wr.setCells z1 0 (row 128 (wv (enA s Mw l))) = x6 at N0 N1 NE ⊢
      replace Hr:=N0
      replace Hm:=N1
      replace hE:=NE
      clear N0 N1 NE
      go_wp2
      exact bodyPost_ret (ret_row Tryd.results31 rfl Hr.out Tryd.underlying24 rfl infoPg) rfl ⟨rfl,hE.out⟩
end Go.Proofs.YtfbmeclpcgdmhabDoor
