/-
  The document's pages as bytes, and back; and that they are one another's way back. The document's key.
-/
import Derived.Test.YtfbmeclpcgdmhabDoorQk1
import Derived.Test.YtfbmeclpcgdmhabDoorQk38
import Derived.Test.YtfbmeclpcgdmhabDoorQk43
namespace Go.Proofs.YtfbmeclpcgdmhabDoor
set_option maxRecDepth 20000
open Go.RowKit Go.BigFrame
set_option maxRecDepth 20000 in
set_option maxHeartbeats 2000000 in
theorem rpage_any (v:Value) (p:Nat → BitVec 8) (w:World) (hv:BV v 1024 p w):
    Calls Tryd.prog 34 #[v] w fun e w'=>e = .returned (.tuple #[.agg (row 128 (wv (pgW p))).toArray,.int .i64 0]) ∧ Ext w w':=by
  have hz:=zero31p
  obtain ⟨F,hF⟩:∃ F,F = pgW p:=⟨_,rfl⟩
  rw [← hF]
  replace hF:=hideit hF
  rcases hv with ⟨_,h0⟩ | ⟨a,cap,rfl,_,hL⟩
  · omega
  replace hL:=hideit hL
  have H0:Hid (RowAt w.heap.size 128 (wv fun _=>0#64) (w.alloc (.cells (row 128 (wv fun _=>0#64)).toArray 24))):=RowAt.new w 128 _ 24
  go_enter Tryd.func34,Tryd.ntmps34
  go_upto_region 4 with (fail)
  have H1:RowAt w.heap.size 128 (wv fun _=>0#64) ((w.alloc (.cells (row 128 (wv fun _=>0#64)).toArray 24)).alloc (.cells (row 128 (wv fun _=>0#64)).toArray 24)):=H0.out.alloc _
  have H2:RowAt (w.heap.size + 1) 128 (wv fun _=>0#64) ((w.alloc (.cells (row 128 (wv fun _=>0#64)).toArray 24)).alloc (.cells (row 128 (wv fun _=>0#64)).toArray 24)):=by
    have:=RowAt.new (w.alloc (.cells (row 128 (wv fun _=>0#64)).toArray 24)) 128 (wv fun _=>0#64) 24
    simpa using this
  have HB:Ext w ((w.alloc (.cells (row 128 (wv fun _=>0#64)).toArray 24)).alloc (.cells (row 128 (wv fun _=>0#64)).toArray 24)):=((Below.refl _ _).alloc (Nat.le_refl _) _).alloc (by simp) _
  replace H1:=hideit H1
  replace H2:=hideit H2
  replace HB:=hideit HB
  generalize (w.alloc (.cells (row 128 (wv fun _=>0#64)).toArray 24)).alloc (.cells (row 128 (wv fun _=>0#64)).toArray 24) = w1 at *
  clear H0
  go_wp2
  go_loopw [5] (fun i wr=>∃ n:Nat,n ≤ 1024 ∧ i = .int .i64 n ∧ RowAt w.heap.size 128 (wv fun _=>0#64) wr ∧ RowAt (w.heap.size + 1) 128 (wv (wK p n)) wr ∧ Ext w wr) (fun i _=>1024 - (intOf i).toNat)
  case atStart=>exact ⟨0,by omega,rfl,H1.out,H2.out,HB.out⟩
  case round=>
    clear H1 H2 HB
    obtain ⟨n,hn,rfl,h2,h3,h4⟩:=hrel
    have H2:=hideit h2
    have H3:=hideit h3
    have H4:=hideit h4
    clear h2 h3 h4
    by_cases hlt:n < 1024
    · have i0:(0:Int) ≤ (n:Int):=by omega
      have i1:(n:Int) < 1024:=by omega
      have ea:=(hL.out.carry H4.out).1 n hlt
      simp only [yv] at ea
      go_upto_region 7 with (fail)
      have hne:=kept_ne wr.drew
      have e3:∀ k:Kept (Ext wr.drew),k.w.cell? ⟨w.heap.size + 1,n / 8,none⟩ = some (.int .u64 ((wK p n (n / 8)).toNat:Int)):=fun k=>H3.out.kept (n / 8) (by omega) k
      have e4:∀ k:Kept (Ext wr.drew),k.w.cell? (a.add n) = some (.int .u8 ((p n).toNat:Int)):=fun k=>((hL.out.carry H4.out).carry (Ext.trans (Below.refl _ _).drew k.ok)).1 n hlt
      have hsh:=shB_wrap (p n) (8 * (n % 8))
      have hor:=oW_fact (wK p n (n / 8)) (shB (p n) (8 * (n % 8)))
      refine wp_region_late 16 (by kernel_rfl) (by kernel_rfl) (by decide) ?_
      simp only [List.take_succ_cons,List.take_zero,List.drop_succ_cons,List.drop_zero]
      refine wpStrong_run 16 rfl ?_
      simp only [List.take_succ_cons,List.take_zero,List.drop_succ_cons,List.drop_zero]
      repeat (go_big_quiet_step (fail))
      refine wpQuiet_nil ?_
      refine wpStrong_nil ?_
      intro X hX
      have hwX:Ext wr X:=Ext.trans (Below.refl _ _).drew hX
      have H2':=hideit (H2.out.carry hwX)
      have H3':=hideit (H3.out.carry hwX)
      have H4':=hideit (Ext.trans H4.out hwX)
      have eX:=H3'.out.1 (n / 8) (by omega)
      have gX:=H3'.out.2.1 (n / 8) (by omega)
      clear hwX hX H2 H3 H4 hne e3 e4 ea hsh hor
      have q0:(0:Int) ≤ (n:Int) / 8:=by omega
      have q1:(n:Int) / 8 < 128:=by omega
      simp only [wv] at eX
      have HF:RowAt (w.heap.size + 1) 128 (wv (wK p (n + 1))) (X.setCell ⟨w.heap.size + 1,n / 8,none⟩ (.int .u64 ((oW (wK p n (n / 8)) (shB (p n) (8 * (n % 8)))).toNat:Int))):=(H3'.out.set (n / 8) (.int .u64 ((oW (wK p n (n / 8)) (shB (p n) (8 * (n % 8)))).toNat:Int))).congr fun j _=>by
        simp only [wv,wK]
        by_cases e:j = n / 8
        · subst e; rw [if_pos rfl,if_pos rfl]
        · rw [if_neg e,if_neg e]
      replace HF:=hideit HF
      go_wp2
      refine ⟨⟨n + 1,by omega,by go_num,H2'.out.other _ _ (by simp),HF.out,H4'.out.setCell (by simp) _⟩,by simp [intOf]; omega⟩
    · have i1:¬ (n:Int) < 1024:=by omega
      have HR:=H3
      have HR0:=H2
      have hB:=H4
      have hW:wK p n = F:=by rw [show n = 1024 by omega]; exact hF.out.symm
      rw [hW] at HR
      clear H2 H3 H4 hW
      go_upto_region 8 with (fail)
      refine wp_region_lit ?_
      refine wpList_load_mid rfl 24 (.tmp 4) rfl _ 0 rfl (row 128 (wv F)) _ HR.out.range Tryd.underlying24 rfl (by rw [row_length]; exact infoPg) ?_
      simp only [jk,jq,jv,jy]
      refine wpList_store_mid rfl 24 (.tmp 2) (.tmp 31) rfl _ 0 (row 128 (wv F)).toArray rfl rfl (by rw [row_size]; exact HR0.out.there) (by rw [row_size]; exact infoPg) (row_one fun _ _=>rfl) ?_
      have h9:Hid (RowAt w.heap.size 128 (wv F) (wr.setCells w.heap.size 0 (row 128 (wv F)))):=HR0.out.cells
      have hE9:Hid (Ext w (wr.setCells w.heap.size 0 (row 128 (wv F)))):=below_setCells _ (Nat.le_refl _) _ _ _ hB.out
      rw [show (row 128 (wv F)).toArray.toList = row 128 (wv F) from rfl]
      generalize wr.setCells w.heap.size 0 (row 128 (wv F)) = w9 at *
      simp only [Act.put]
      clear HR HR0 hB
      go_wp2
      exact bodyPost_ret (ret_row2 Tryd.results34 rfl h9.out Tryd.underlying24 rfl infoPg) rfl ⟨rfl,hE9.out⟩
set_option maxRecDepth 20000 in
set_option maxHeartbeats 1000000 in
theorem rbytes_any (p:Nat → BitVec 64) (w:World):
    Calls Tryd.prog 36 #[.agg (row 128 (wv p)).toArray] w fun e w'=>∃ v,e = .returned v ∧ OwnB w.heap.size 5 v 1024 (yv (digF p)) w' ∧ Ext w w':=by
  have H0:Hid (RowAt w.heap.size 128 (wv p) (w.alloc (.cells (row 128 (wv p)).toArray 24))):=RowAt.new w 128 (wv p) 24
  have hE0:Hid (Ext w (w.alloc (.cells (row 128 (wv p)).toArray 24))):=(Below.refl _ _).alloc (Nat.le_refl _) _
  go_enter Tryd.func36,Tryd.ntmps36
  go_upto_region 1 with (fail)
  obtain ⟨w1,hw1⟩:∃ w1,w1 = w.alloc (.cells (row 128 (wv p)).toArray 24):=⟨_,rfl⟩
  rw [← hw1] at H0 hE0 ⊢
  clear hw1
  go_wp2
  go_loopw [3,4] (fun lv iv wr=>∃ i:Nat,i ≤ 1024 ∧ iv = .int .i64 (i:Int) ∧ OwnB (w.heap.size + 1) 5 lv i (yv (digF p)) wr ∧ RowAt w.heap.size 128 (wv p) wr ∧ Ext w wr) (fun _ iv _=>1024 - (intOf iv).toNat)
  case atStart=>exact ⟨0,by omega,rfl,own_nil _ _ _ _,H0.out,hE0.out⟩
  case round=>
    clear H0 hE0
    obtain ⟨i,hi,rfl,hO,hS,hE⟩:=hrel
    have HO:=hideit hO
    have HS:=hideit hS
    have HE:=hideit hE
    clear hO hS hE
    obtain ⟨ov,cv,rfl⟩:=HO.out.bv.form
    by_cases hlt:i < 1024
    · have i0:(0:Int) ≤ (i:Int):=by omega
      have i1:(i:Int) < 1024:=by omega
      have es:=HS.out.1 (i / 8) (by omega)
      simp only [wv] at es
      have i2:(0:Int) ≤ (i:Int) / 8:=by omega
      have i3:(i:Int) / 8 < 128:=by omega
      have b1:=(p (i / 8)).isLt
      have hdg:IntKind.u8.wrap (((p (i / 8)).toNat:Int) / 2 ^ (8 * (i % 8))) = ((digF p i).toNat:Int):=by rw [IntKind.wrap_u8,dig_fact]; rfl
      go_upto_region 5 with (fail)
      have hE1:Ext wr (wr.alloc (.cells #[.int .u8 ((digF p i).toNat:Int)] 5)):=(Below.refl _ _).alloc (Nat.le_refl _) _
      have hN:=newB wr #[.int .u8 ((digF p i).toNat:Int)] 1 (fun _=>digF p i) (fun j hj=>by
        obtain rfl:j = 0:=by omega
        rfl)
      have HO2:=hideit (HO.out.ext hE1)
      have HS2:=hideit (HS.out.carry hE1)
      have HE2:=hideit (Ext.trans HE.out hE1)
      have hN2:=hideit hN.1
      clear HO HS HE hN hE1
      have m8:(0:Int) ≤ (i:Int) % 8:=by omega
      have m9:(i:Int) % 8 < 8:=by omega
      have wr1:IntKind.i64.wrap ((i:Int) / 8) = (i:Int) / 8:=by rw [IntKind.wrap_i64]; omega
      have tm:((i:Int)).tmod 8 = (i:Int) % 8:=by rw [Int.tmod_eq_emod_of_nonneg i0]
      have wr2:IntKind.i64.wrap (8 * ((i:Int) % 8)) = 8 * ((i:Int) % 8):=by rw [IntKind.wrap_i64]; omega
      have tn:(8 * ((i:Int) % 8)).toNat = 8 * (i % 8):=by omega
      refine wp_region_lit ?_
      refine wpList_run rfl (.slice ov i cv) (by simp [go_sem]) ?_
      simp only [jk,jq,jv,jy]
      refine wpList_run rfl (.int .i64 (i:Int)) (by simp [go_sem]) ?_
      simp only [jk,jq,jv,jy]
      refine wpList_run rfl (.int .i64 ((i:Int) / 8)) (by simp [go_sem,wr1]) ?_
      simp only [jk,jq,jv,jy]
      refine wpList_run rfl (.pointer (some ⟨w.heap.size,i / 8,none⟩)) (by simp [go_sem,i2,i3]) ?_
      simp only [jk,jq,jv,jy]
      refine wpList_run rfl (.int .u64 ((p (i / 8)).toNat:Int)) (by simp [go_sem,es]) ?_
      simp only [jk,jq,jv,jy]
      refine wpList_run rfl (.int .i64 (i:Int)) (by simp [go_sem]) ?_
      simp only [jk,jq,jv,jy]
      refine wpList_run rfl (.int .i64 ((i:Int) % 8)) (by simp [go_sem,tm]) ?_
      simp only [jk,jq,jv,jy]
      refine wpList_run rfl (.int .i64 (8 * ((i:Int) % 8))) (by simp [go_sem,wr2]) ?_
      simp only [jk,jq,jv,jy]
      refine wpList_run rfl (.int .u64 (((p (i / 8)).toNat:Int) / 2 ^ (8 * (i % 8)))) (by simp [go_sem,tn]) ?_
      simp only [jk,jq,jv,jy]
      refine wpList_run rfl (.int .u8 ((digF p i).toNat:Int)) (by simp [go_sem,hdg]) ?_
      simp only [jk,jq,jv,jy]
      refine wpList_to rfl (.slice (some ⟨wr.heap.size,0,none⟩) 1 1) (wr.alloc (.cells #[.int .u8 ((digF p i).toNat:Int)] 5)) (by simp [go_sem]) ?_
      simp only [jk,jq,jv,jy]
      refine wpList_growV (n:=i) (base:=w.heap.size + 1) elem22 rfl (.tmp 9) (.tmp 19) rfl rfl HO2.out (.slice (some ⟨wr.heap.size,0,none⟩) 1 1) 1 (fun _=>digF p i) (yv (digF p)) rfl hN2.out (fun j hj=>rfl) (fun j hj=>by
        obtain rfl:j = 0:=by omega
        rfl) (by omega) (by have:=HS2.out.2.2; omega) ?_
      intro v' Y hO' hg'
      have hS':=hideit (HS2.out.grown hg' (fun h=>by have:=(HO2.out.lt _ h.symm).1; omega))
      have hE':=hideit (Below.trans HE2.out (below_grown (Below.size HE2.out) hg' fun k hk=>by have:=(HO2.out.lt k hk).1; omega))
      replace hO':=hideit hO'
      obtain ⟨o',c',rfl⟩:=hO'.out.bv.form
      clear hg' HO2 HS2 HE2 hN2 es
      simp only [jk,jq,jv,jy]
      go_wp2
      exact ⟨⟨i + 1,by omega,by go_num,hO'.out,hS'.out,hE'.out⟩,by simp [intOf]; omega⟩
    · have i1:¬ (i:Int) < 1024:=by omega
      have h9:i = 1024:=by omega
      have HR:Hid (OwnB w.heap.size 5 (.slice ov i cv) 1024 (yv (digF p)) wr):=by
        have h8:=HO.out.down (base':=w.heap.size) (by omega)
        rw [h9] at h8 ⊢
        exact h8
      clear HO h9
      go_wp2
      go_ret
      exact ⟨_,rfl,HR.out,HE.out⟩
end Go.Proofs.YtfbmeclpcgdmhabDoor
namespace Go.Proofs.YtfbmeclpcgdmhabDoor
open Go.RowKit Go.BigFrame
set_option linter.unusedVariables false
def rmW (T M L q:Nat) (v:Value) (ps sl ln k:Nat):Nat → Value:=fun j=>if j = 0 then .int .i64 (T:Int) else if j = 1 then .int .i64 (M:Int) else if j = 2 then .int .i64 (L:Int) else if j = 3 then .int .i64 (q:Int) else if j = 4 then v else if j = 5 then .int .i64 (ps:Int) else if j = 6 then .int .i64 (sl:Int) else if j = 7 then .int .i64 (ln:Int) else .int .i64 (k:Int)
theorem bld63 (T M L q:Nat) (X:World):(Instr.build 63 #[(0,.agg (row 3 (pav (T:Int) (M:Int) (L:Int))).toArray),(1,.int .i64 (q:Int))]).run Tryd.prog X = .ok (.agg (row 9 (rmW T M L q (.slice none 0 0) 0 0 0 0)).toArray) X:=by kernel_rfl
section
variable {T M L q b c ps sl ln k:Nat}
theorem rm4 {v:Value} (j:Nat) (_:j < 9):(if j = 4 then .slice (some ⟨b,0,none⟩) (q * L) c else rmW T M L q v ps sl ln k j) = rmV T M L q b c ps sl ln k j:=by
  unfold rmW rmV
  by_cases e:j = 4 <;> simp [e]
theorem rm5 (x:Nat) (j:Nat) (_:j < 9):(if j = 5 then Value.int .i64 (x:Int) else rmV T M L q b c ps sl ln k j) = rmV T M L q b c x sl ln k j:=by
  unfold rmV
  by_cases e:j = 5 <;> simp [e]
theorem rm6 (x:Nat) (j:Nat) (_:j < 9):(if j = 6 then Value.int .i64 (x:Int) else rmV T M L q b c ps sl ln k j) = rmV T M L q b c ps x ln k j:=by
  unfold rmV
  by_cases e:j = 6 <;> simp [e]
theorem rm7 (x:Nat) (j:Nat) (_:j < 9):(if j = 7 then Value.int .i64 (x:Int) else rmV T M L q b c ps sl ln k j) = rmV T M L q b c ps sl x k j:=by
  unfold rmV
  by_cases e:j = 7 <;> simp [e]
theorem rm8 (x:Nat) (j:Nat) (h:j < 9):(if j = 8 then Value.int .i64 (x:Int) else rmV T M L q b c ps sl ln k j) = rmV T M L q b c ps sl ln x j:=by
  unfold rmV
  by_cases e:j = 8
  · simp [e]
  · have h1:j < 8:=by omega
    by_cases e0:j = 0 <;> by_cases e1:j = 1 <;> by_cases e2:j = 2 <;> by_cases e3:j = 3 <;> by_cases e4:j = 4 <;> by_cases e5:j = 5 <;> by_cases e6:j = 6 <;> by_cases e7:j = 7 <;> simp_all
    omega
end
def cN (X:World) (p o:Nat):Nat:=match X.cell? ⟨p,o,none⟩ with
  | some v=>(intOf v).toNat
  | none=>0
theorem cN_of {X:World} {p o:Nat} {n:Nat} (h:X.cell? ⟨p,o,none⟩ = some (.int .i64 (n:Int))):cN X p o = n:=by
  unfold cN
  rw [h]
  simp [intOf]
set_option maxRecDepth 20000 in
set_option maxHeartbeats 4000000 in
theorem rkey_no (n ti me la:Int) (o:Nat → Option Addr) (l k:Nat → Nat) (w:World) (h:¬ okK n ti me la l):Calls Tryd.prog 12 #[.int .i64 n,.agg (row 3 (pav ti me la)).toArray,.agg (row 4 (scv (.slice (o 0) (l 0) (k 0)) (.slice (o 1) (l 1) (k 1)) (.slice (o 2) (l 2) (k 2)) (.slice (o 3) (l 3) (k 3)))).toArray] w fun e w'=>e = .returned (.tuple #[.slice none 0 0,.int .i64 80]) ∧ Ext w w':=by
  obtain ⟨c,d,w1,hw,hd,hc,H0,H1,hE⟩:=boxes2 w 3 (pav ti me la) 31 4 (scv (.slice (o 0) (l 0) (k 0)) (.slice (o 1) (l 1) (k 1)) (.slice (o 2) (l 2) (k 2)) (.slice (o 3) (l 3) (k 3))) 34
  go_enter Tryd.func12,Tryd.ntmps12
  go_upto_region 1 with (fail)
  rw [← hd.out,← hw.out,← hc.out]
  clear hw hc hd
  refine wp_region_lit ?_
  refine xm [some (.int .i64 (n))] (by kernel_rfl) (by simp [xr,go_sem]) ?_
  simp only [xw,p0,p1,p2,p3]
  refine wpList_run rfl (.agg (row 3 (pav ti me la)).toArray) (xload 31 (.tmp 4) rfl c 0 3 _ rfl H0.out.range Tryd.underlying31 rfl infoPa) ?_
  simp only [jk,jq,jv,jy]
  refine wpList_run rfl (.agg (row 4 (scv (.slice (o 0) (l 0) (k 0)) (.slice (o 1) (l 1) (k 1)) (.slice (o 2) (l 2) (k 2)) (.slice (o 3) (l 3) (k 3)))).toArray) (xload 34 (.tmp 5) rfl d 0 4 _ rfl H1.out.range Tryd.underlying34 rfl infoSc) ?_
  simp only [jk,jq,jv,jy]
  refine wpList_call rfl (by simp [go_sem]) ((rseed_no n ti me la o l k w1 h).mono ?_)
  rintro e y1 ⟨rfl,hX2⟩
  refine ⟨_,rfl,?_⟩
  simp only [jk,jq,jv,jy]
  replace H0:=hideit (H0.out.carry hX2)
  replace H1:=hideit (H1.out.carry hX2)
  replace hE:=hideit (Ext.trans hE.out hX2)
  clear hX2
  refine xm [some (.tuple #[.slice none 0 0,.int .i64 80]),some (.slice none 0 0),some (.int .i64 80),some (.slice none 0 0),some (.int .i64 80)] (by kernel_rfl) (by simp [xr,go_sem]) ?_
  simp only [xw,p0,p1,p2,p3]
  go_upto_region 2 with (fail)
  refine wp_region_lit ?_
  refine xm [some (.int .i64 80),some (.bool true)] (by kernel_rfl) (by simp [xr,go_sem]) ?_
  simp only [xw,p0,p1,p2,p3]
  go_upto_region 3 with (fail)
  refine wp_region_lit ?_
  refine xm [some (.int .i64 80),some (.slice none 0 0),some (.int .i64 80)] (by kernel_rfl) (by simp [xr,go_sem]) ?_
  simp only [xw,p0,p1,p2,p3]
  go_wp2
  refine bodyPost_ret (res2 rfl _ _ _) rfl ?_
  exact ⟨rfl,hE.out⟩
set_option maxRecDepth 20000 in
set_option maxHeartbeats 4000000 in
theorem rkey_ok (n T M L:Nat) (o:Nat → Option Addr) (l k:Nat → Nat) (f:Nat → Nat → BitVec 8) (w:World) (hk:okK (n:Int) (T:Int) (M:Int) (L:Int) l) (hb:∀ i,i < 4 → BV (.slice (o i) (l i) (k i)) (l i) (f i) w):Calls Tryd.prog 12 #[.int .i64 (n:Int),.agg (row 3 (pav (T:Int) (M:Int) (L:Int))).toArray,.agg (row 4 (scv (.slice (o 0) (l 0) (k 0)) (.slice (o 1) (l 1) (k 1)) (.slice (o 2) (l 2) (k 2)) (.slice (o 3) (l 3) (k 3)))).toArray] w fun e w'=>∃ v,e = .returned (.tuple #[v,.int .i64 0]) ∧ OwnB w.heap.size 5 v n (yv (keyA n (M / (4 * L)) L T (sdF n T M L l f))) w' ∧ Ext w w':=by
  obtain ⟨⟨hn1,hn2⟩,hp,hs⟩:=id hk
  have hsm:Hid (1 ≤ L ∧ L ≤ 4 ∧ T ≤ 8 ∧ 8 * L ≤ M ∧ M ≤ 256):=⟨by have:=hp.2.1.1; omega,by have:=hp.2.1.2; omega,by have:=hp.1.2; omega,by have:=hp.2.2.1; omega,by have:=hp.2.2.2; omega⟩
  obtain ⟨s,hsM⟩:∃ s,s = M / (4 * L):=⟨_,rfl⟩
  have hs0:Hid (2 ≤ s ∧ s ≤ 64):=by
    have:=hsm.out
    rw [hsM]
    refine ⟨(Nat.le_div_iff_mul_le (by omega)).2 (by omega),?_⟩
    exact Nat.le_trans (Nat.div_le_div_right this.2.2.2.2) (Nat.div_le_of_le_mul (by omega))
  rw [← hsM]
  replace hsM:=hideit hsM
  obtain ⟨q,hq⟩:∃ q,q = 4 * s:=⟨_,rfl⟩
  obtain ⟨N,hN⟩:∃ N,N = q * L:=⟨_,rfl⟩
  have hNb:N ≤ 256 * 4:=by have:=hs0.out; have:=hsm.out; rw [hN]; exact Nat.mul_le_mul (by omega) this.2.1
  have hN1:q * 1 ≤ N:=by have:=hsm.out; rw [hN]; exact Nat.mul_le_mul_left _ this.1
  have z0:¬ L = 0 ∧ (N:Int).tdiv (L:Int) = (q:Int) ∧ IntKind.i64.wrap (q:Int) = (q:Int):=by
    have h1:=hsm.out
    have h2:=hs0.out
    refine ⟨by omega,?_,by rw [IntKind.wrap_i64]; omega⟩
    rw [Int.tdiv_eq_ediv_of_nonneg (by omega),hN,show (((q * L:Nat):Int) / (L:Int)) = ((q * L / L:Nat):Int) from rfl,Nat.mul_div_cancel _ (by omega)]
  have z1:IntKind.i64.wrap ((q:Int) * (L:Int)) = (N:Int):=by
    have e:(q:Int) * (L:Int) = (N:Int):=by rw [hN]; exact (Int.natCast_mul _ _).symm
    rw [e,IntKind.wrap_i64]; omega
  have hN2:Hid (N ≤ 1024 ∧ 8 ≤ N ∧ 8 ≤ q):=by have:=hs0.out; exact ⟨hNb,by omega,by omega⟩
  replace z0:=hideit z0
  replace z1:=hideit z1
  replace hq:=hideit hq
  replace hN:=hideit hN
  replace hk:=hideit hk
  replace hp:=hideit hp
  replace hb:=hideit hb
  have hn0:Hid (1 ≤ n ∧ n ≤ 128):=⟨by omega,by omega⟩
  clear hn1 hn2 hs hNb hN1
  obtain ⟨sd,hsd⟩:∃ F,F = sdF n T M L l f:=⟨_,rfl⟩
  rw [← hsd]
  replace hsd:=hideit hsd
  obtain ⟨c,d,w1,hw,hd,hc,H0,H1,hE⟩:=boxes2 w 3 (pav (T:Int) (M:Int) (L:Int)) 31 4 (scv (.slice (o 0) (l 0) (k 0)) (.slice (o 1) (l 1) (k 1)) (.slice (o 2) (l 2) (k 2)) (.slice (o 3) (l 3) (k 3))) 34
  go_enter Tryd.func12,Tryd.ntmps12
  go_upto_region 1 with (fail)
  rw [← hd.out,← hw.out,← hc.out]
  clear hw hc hd
  refine wp_region_lit ?_
  refine xm [some (.int .i64 (n:Int))] (by kernel_rfl) (by simp [xr,go_sem]) ?_
  simp only [xw,p0,p1,p2,p3]
  refine wpList_run rfl (.agg (row 3 (pav (T:Int) (M:Int) (L:Int))).toArray) (xload 31 (.tmp 4) rfl c 0 3 _ rfl H0.out.range Tryd.underlying31 rfl infoPa) ?_
  simp only [jk,jq,jv,jy]
  refine wpList_run rfl (.agg (row 4 (scv (.slice (o 0) (l 0) (k 0)) (.slice (o 1) (l 1) (k 1)) (.slice (o 2) (l 2) (k 2)) (.slice (o 3) (l 3) (k 3)))).toArray) (xload 34 (.tmp 5) rfl d 0 4 _ rfl H1.out.range Tryd.underlying34 rfl infoSc) ?_
  simp only [jk,jq,jv,jy]
  refine wpList_call rfl (by simp [go_sem]) ((rseed_ok n T M L o l k f w1 hk.out (fun i hi=>(hb.out i hi).ext hE.out)).mono ?_)
  rintro e y1 ⟨vs,rfl,hO,hX1⟩
  refine ⟨_,rfl,?_⟩
  simp only [jk,jq,jv,jy]
  replace H0:=hideit (H0.out.carry hX1)
  replace H1:=hideit (H1.out.carry hX1)
  replace hE:=hideit (Ext.trans hE.out hX1)
  rw [← hsd.out] at hO
  obtain ⟨sg,sc,rfl,_,hsc,_,hRs⟩:=hO.lies (by decide)
  have hbS:Hid (BV (.slice (some ⟨sg,0,none⟩) 64 sc) 64 sd y1):=.inr ⟨_,_,rfl,hsc,hRs.lie 64 (Nat.le_refl _)⟩
  clear hO hRs hX1 H1
  refine xm [some (.tuple #[.slice (some ⟨sg,0,none⟩) 64 sc,.int .i64 0]),some (.slice (some ⟨sg,0,none⟩) 64 sc),some (.int .i64 0),some (.slice (some ⟨sg,0,none⟩) 64 sc),some (.int .i64 0)] (by kernel_rfl) (by simp [xr,go_sem]) ?_
  simp only [xw,p0,p1,p2,p3]
  go_upto_region 2 with (fail)
  refine wp_region_lit ?_
  refine xm [some (.int .i64 0),some (.bool false)] (by kernel_rfl) (by simp [xr,go_sem]) ?_
  simp only [xw,p0,p1,p2,p3]
  have hE1:=hE
  have H01:=hideit H0.out
  clear hE
  have hE:=hideit (Ext.refl y1)
  have hbS0:=hbS
  go_upto_region 4 with (fail)
  replace H0:=hideit H0.out.drew
  replace hbS:=hideit (hbS.out.ext (Ext.draw (Ext.refl y1)))
  replace hE:=hideit (Ext.draw hE.out)
  refine wp_region_lad (fun X=>Ext y1.drew X) [(false,0),(false,1),(false,3),(false,4),(true,2),(false,5),(false,6),(true,7),(false,8)] (by kernel_rfl) (by kernel_rfl) (by decide +kernel) (by decide +kernel) (by decide +kernel) (by decide +kernel) (Ext.refl _) ?_
  refine wpX_f _ (.agg (row 3 (pav (T:Int) (M:Int) (L:Int))).toArray) rfl rfl (fun X hX=>xload 31 (.tmp 4) rfl c 0 3 _ rfl (H0.out.carry hX).range Tryd.underlying31 rfl infoPa) ?_
  simp only [List.getElem_toArray,List.getElem_cons_zero,Act.put,List.setIfInBounds_toArray,List.set_cons_zero,List.set_cons_succ]
  refine wpX_f _ (.agg (row 3 (pav (T:Int) (M:Int) (L:Int))).toArray) rfl rfl (fun X hX=>xload 31 (.tmp 4) rfl c 0 3 _ rfl (H0.out.carry hX).range Tryd.underlying31 rfl infoPa) ?_
  simp only [jw,jz,kj,jk,jq,jv,jy]
  refine wpX_f _ (.pointer (some ⟨c,2,none⟩)) rfl rfl (fun X _=>by simp [go_sem]) ?_
  simp only [jw,jz,kj,jk,jq,jv,jy]
  refine wpX_f _ (.int .i64 (L:Int)) rfl rfl (fun X hX=>by have m1:X.cell? ⟨c,2,none⟩ = some (.int .i64 (L:Int)):=(H0.out.carry hX).1 2 (by decide); simp [go_sem,m1]) ?_
  simp only [jw,jz,kj,jk,jq,jv,jy]
  refine wpX_call _ rfl rfl (by simp [go_sem]) ((rpgs_ok T M L y1.drew hp.out).mono ?_)
  rintro e y2 ⟨rfl,hX2⟩
  refine ⟨_,rfl,fun X=>Ext y2 X,fun X hX=>Ext.trans hX2 hX,Ext.refl _,?_⟩
  simp only [jw,jz,kj,jk,jq,jv,jy]
  replace H0:=hideit (H0.out.carry hX2)
  replace hbS:=hideit (hbS.out.ext hX2)
  replace hE:=hideit (Ext.trans hE.out hX2)
  rw [← hsM.out,← hq.out,← hN.out]
  clear hX2
  refine wpX_f _ (.int .i64 (q:Int)) rfl rfl (fun X _=>by simp [go_sem,z0.out.1,z0.out.2.1,z0.out.2.2]) ?_
  simp only [jw,jz,kj,jk,jq,jv,jy]
  refine wpX_f _ (.agg (row 9 (rmW T M L q (.slice none 0 0) 0 0 0 0)).toArray) rfl rfl (fun X hX=>xbuild 63 [(0,.tmp 29),(1,.tmp 34)] rfl _ (bld63 T M L q X)) ?_
  simp only [jw,jz,kj,jk,jq,jv,jy]
  have N0:=hideit (RowAt.new y2 9 (rmW T M L q (.slice none 0 0) 0 0 0 0) 63)
  have XN:Ext y2 (y2.alloc (.cells (row 9 (rmW T M L q (.slice none 0 0) 0 0 0 0)).toArray 63)):=(Below.refl _ _).alloc (Nat.le_refl _) _
  refine wpX_to _ (.pointer (some ⟨y2.heap.size,0,none⟩)) (y2.alloc (.cells (row 9 (rmW T M L q (.slice none 0 0) 0 0 0 0)).toArray 63)) rfl rfl (by simp [go_sem]) (fun X=>Ext (y2.alloc (.cells (row 9 (rmW T M L q (.slice none 0 0) 0 0 0 0)).toArray 63)) X) (fun X hX=>Ext.trans XN hX) (Ext.refl _) ?_
  simp only [jw,jz,kj,jk,jq,jv,jy]
  replace H0:=hideit (H0.out.carry XN)
  replace hbS:=hideit (hbS.out.ext XN)
  have hpB:=hideit (Below.size hE.out)
  replace hE:=hideit (Ext.trans hE.out XN)
  clear XN
  generalize y2.alloc (.cells (row 9 (rmW T M L q (.slice none 0 0) 0 0 0 0)).toArray 63) = x8 at N0 H0 hbS hE ⊢
  obtain ⟨p,ep⟩:∃ p,p = y2.heap.size:=⟨_,rfl⟩
  replace hpB:Hid (y1.heap.size ≤ p):=by rw [ep]; exact hpB.out
  rw [← ep] at N0 ⊢
  clear ep
  refine wpX_f _ (.pointer (some ⟨p,0,none⟩)) rfl rfl (fun X _=>by simp [go_sem]) ?_
  simp only [jw,jz,kj,jk,jq,jv,jy]
  refine wpX_nil ?_
  go_upto_region 5 with (fail)
  replace H0:=hideit H0.out.drew
  replace N0:=hideit N0.out.drew
  replace hbS:=hideit (hbS.out.ext (Ext.draw (Ext.refl x8)))
  replace hE:=hideit (Ext.draw hE.out)
  refine wp_region_ladz (fun X=>Ext x8.drew X) [11] [(false,0),(false,1),(false,2),(false,3),(false,4),(false,5),(false,6),(false,7),(true,8),(false,9),(false,10),(true,11)] (by kernel_rfl) (by kernel_rfl) (by decide +kernel) (by decide +kernel) (by decide +kernel) (by decide +kernel) (Ext.refl _) ?_
  refine wpZ_f _ (.pointer (some ⟨p,0,none⟩)) rfl rfl (fun X _=>by simp [go_sem]) ?_
  simp only [List.getElem_toArray,List.getElem_cons_zero,Act.put,List.setIfInBounds_toArray,List.set_cons_zero,List.set_cons_succ]
  refine wpZ_f _ (.pointer (some ⟨p,0,none⟩)) rfl rfl (fun X _=>by simp [go_sem]) ?_
  simp only [jw,jz,kj,jk,jq,jv,jy]
  refine wpZ_f _ (.pointer (some ⟨p,0,none⟩)) rfl rfl (fun X _=>by simp [go_sem]) ?_
  simp only [jw,jz,kj,jk,jq,jv,jy]
  refine wpZ_f _ (.pointer (some ⟨p,3,none⟩)) rfl rfl (fun X _=>by simp [go_sem]) ?_
  simp only [jw,jz,kj,jk,jq,jv,jy]
  refine wpZ_f _ (.int .i64 (q:Int)) rfl rfl (fun X hX=>by have m2:X.cell? ⟨p,3,none⟩ = some (.int .i64 (q:Int)):=(N0.out.carry hX).1 3 (by decide); simp [go_sem,m2]) ?_
  simp only [jw,jz,kj,jk,jq,jv,jy]
  refine wpZ_f _ (.pointer (some ⟨c,2,none⟩)) rfl rfl (fun X _=>by simp [go_sem]) ?_
  simp only [jw,jz,kj,jk,jq,jv,jy]
  refine wpZ_f _ (.int .i64 (L:Int)) rfl rfl (fun X hX=>by have m3:X.cell? ⟨c,2,none⟩ = some (.int .i64 (L:Int)):=(H0.out.carry hX).1 2 (by decide); simp [go_sem,m3]) ?_
  simp only [jw,jz,kj,jk,jq,jv,jy]
  refine wpZ_f _ (.int .i64 (N:Int)) rfl rfl (fun X _=>by simp [go_sem,z1.out]) ?_
  simp only [jw,jz,kj,jk,jq,jv,jy]
  have NB:=hideit (made_pg x8.drew N)
  have XN:Ext x8.drew (x8.drew.alloc (.cells (madeCells (Value.agg (row 128 (wv fun _=>0#64)).toArray).cells (N * 128)) 24)):=(Below.refl _ _).alloc (Nat.le_refl _) _
  refine wpZ_to _ (.slice (some ⟨x8.drew.heap.size,0,none⟩) N N) (x8.drew.alloc (.cells (madeCells (Value.agg (row 128 (wv fun _=>0#64)).toArray).cells (N * 128)) 24)) rfl rfl (exec_made 61 24 (.tmp 44) (.tmp 44) rfl (Value.agg (row 128 (wv fun _=>0#64)).toArray) 128 1024 N Tryd.underlying61 info24z rfl rfl (by have:=hN2.out; omega) (by have:=hN2.out; omega)) (fun X=>Ext (x8.drew.alloc (.cells (madeCells (Value.agg (row 128 (wv fun _=>0#64)).toArray).cells (N * 128)) 24)) X) (.inr fun X hX=>Ext.trans XN hX) (Ext.refl _) ?_
  simp only [jw,jz,kj,jk,jq,jv,jy]
  have hpb:Hid (p ≠ x8.drew.heap.size):=Nat.ne_of_lt N0.out.2.2
  have hbB:=hideit (Below.size hE.out)
  replace H0:=hideit (H0.out.carry XN)
  replace N0:=hideit (N0.out.carry XN)
  replace hbS:=hideit (hbS.out.ext XN)
  replace hE:=hideit (Ext.trans hE.out XN)
  clear XN
  generalize x8.drew.alloc (.cells (madeCells (Value.agg (row 128 (wv fun _=>0#64)).toArray).cells (N * 128)) 24) = x9 at NB H0 N0 hbS hE ⊢
  obtain ⟨b,eb⟩:∃ b,b = x8.drew.heap.size:=⟨_,rfl⟩
  replace hbB:Hid (y1.heap.size ≤ b):=by rw [eb]; exact hbB.out
  rw [← eb] at NB hpb ⊢
  clear eb
  refine wpZ_f _ (.pointer (some ⟨p,0,none⟩)) rfl rfl (fun X _=>by simp [go_sem]) ?_
  simp only [jw,jz,kj,jk,jq,jv,jy]
  refine wpZ_f _ (.pointer (some ⟨p,4,none⟩)) rfl rfl (fun X _=>by simp [go_sem]) ?_
  simp only [jw,jz,kj,jk,jq,jv,jy]
  have M0:x9.cell? ⟨p,4,none⟩ = some (.slice none 0 0):=N0.out.1 4 (by decide)
  have M1:x9.frozen? ⟨p,4,none⟩ = false:=N0.out.2.1 4 (by decide)
  have N1:=hideit (N0.out.set 4 (.slice (some ⟨b,0,none⟩) N N))
  have N2:=hideit (NB.out.other ⟨p,4,none⟩ (.slice (some ⟨b,0,none⟩) N N) hpb.out)
  have NE:=hideit (hE.out.setCell (p:=⟨p,4,none⟩) hpB.out (.slice (some ⟨b,0,none⟩) N N))
  refine wpZ_st _ (x9.setCell ⟨p,4,none⟩ (.slice (some ⟨b,0,none⟩) N N)) rfl rfl (by simp [go_sem,M0,M1]) (fun _=>True) (.inl (by simp)) trivial ?_
  simp only [List.getElem_toArray,List.getElem_cons_zero,List.getElem_cons_succ,Act.put]
  generalize x9.setCell ⟨p,4,none⟩ (.slice (some ⟨b,0,none⟩) N N) = y3 at N1 N2 NE ⊢
  rw [hN.out] at N1 N2
  have hP:Hid (RowAt p 9 (rmV T M L q b (q * L) 0 0 0 0) y3):=N1.out.congr fun j hj=>rm4 j hj
  have hR:Hid (RowAt b (128 * (q * L)) (wv (bgA s sd 0)) y3):=N2.out
  have hE:=NE
  clear M0 M1 N0 N1 N2 NB NE H0 hbS
  refine wpZ_nil ?_
  go_upto_region 6 with (fail)
  refine wp_region_lit ?_
  refine xm [some (.int .i64 0)] (by kernel_rfl) (by simp [xr,go_sem]) ?_
  simp only [xw,p0,p1,p2,p3]
  go_upto_region 7 with (fail)
  go_loopw [11] (fun i X=>∃ a:Nat,a ≤ L ∧ i = .int .i64 (a:Int) ∧ RowAt p 9 (rmV T M L q b (q * L) 0 0 0 0) X ∧ RowAt b (128 * (q * L)) (wv (bgA s sd a)) X ∧ Ext y1 X) (fun i _=>100 - (intOf i).toNat)
  case atStart=>exact ⟨0,Nat.zero_le _,rfl,hP.out,hR.out,hE.out⟩
  case round=>
    clear hP hR hE
    obtain ⟨a,ha,rfl,hP,hR,hE⟩:=hrel
    replace hP:=hideit hP
    replace hR:=hideit hR
    replace hE:=hideit hE
    have H0:=hideit (H01.out.carry hE.out)
    by_cases hlt:a < L
    · have k1:(a:Int) < (L:Int):=by omega
      have ea:IntKind.i64.wrap ((a:Int) + 1) = ((a + 1:Nat):Int):=by have:=hsm.out; rw [IntKind.wrap_i64]; omega
      replace ea:=hideit ea
      obtain ⟨ql,hql⟩:∃ x,x = q * a:=⟨_,rfl⟩
      have hqb:ql + q ≤ q * L:=by rw [hql,← Nat.mul_succ]; exact Nat.mul_le_mul_left _ hlt
      have z2:IntKind.i64.wrap ((q:Int) * (a:Int)) = (ql:Int):=by
        have e:(q:Int) * (a:Int) = (ql:Int):=by rw [hql]; exact (Int.natCast_mul _ _).symm
        have:=hN.out
        have:=hN2.out
        rw [e,IntKind.wrap_i64]; omega
      replace z2:=hideit z2
      replace hqb:=hideit hqb
      replace hql:=hideit hql
      replace hlt:=hideit hlt
      go_upto_region 7 with (fail)
      refine wp_region_lit ?_
      have m4:wr.cell? ⟨c,2,none⟩ = some (.int .i64 (L:Int)):=H0.out.1 2 (by decide)
      refine xm [some (.int .i64 (a:Int)),some (.pointer (some ⟨c,2,none⟩)),some (.int .i64 (L:Int)),some (.bool true)] (by kernel_rfl) (by simp [xr,go_sem,m4,k1]) ?_
      simp only [xw,p0,p1,p2,p3]
      clear m4
      go_upto_region 9 with (fail)
      refine wp_region_lit ?_
      refine xm [some (.int .i64 0)] (by kernel_rfl) (by simp [xr,go_sem]) ?_
      simp only [xw,p0,p1,p2,p3]
      clear k1 H0
      go_upto_region 10 with (fail)
      go_loopw [12] (fun i X=>∃ j:Nat,j ≤ 2 ∧ i = .int .i64 (j:Int) ∧ RowAt p 9 (rmV T M L q b (q * L) 0 0 0 0) X ∧ RowAt b (128 * (q * L)) (wv (inM s sd a j)) X ∧ Ext y1 X) (fun i _=>100 - (intOf i).toNat)
      case atStart=>exact ⟨0,Nat.zero_le _,rfl,hP.out,hR.out,hE.out⟩
      case round=>
        clear hP hR hE
        obtain ⟨U,hU⟩:∃ U,U = wr:=⟨_,rfl⟩
        rw [← hU] at hrel ⊢
        clear hU
        obtain ⟨j,hj,rfl,hP,hR,hE⟩:=hrel
        replace hP:=hideit hP
        replace hR:=hideit hR
        replace hE:=hideit hE
        by_cases hjt:j < 2
        · have k1:(j:Int) < 2:=by omega
          have ej:IntKind.i64.wrap ((j:Int) + 1) = ((j + 1:Nat):Int):=by rw [IntKind.wrap_i64]; omega
          have hbU:=hideit (hbS0.out.ext hE.out)
          obtain ⟨pp,hpp⟩:∃ x,x = ql + j:=⟨_,rfl⟩
          have hpl:pp < q * L:=by have:=hqb.out; have:=hN2.out; omega
          have z3:IntKind.i64.wrap ((ql:Int) + (j:Int)) = (pp:Int):=by have:=hN.out; have:=hN2.out; rw [IntKind.wrap_i64]; omega
          have z4:(pp:Int) < (q:Int) * (L:Int):=by rw [show (q:Int) * (L:Int) = ((q * L:Nat):Int) from (Int.natCast_mul _ _).symm]; omega
          replace z3:=hideit z3
          replace z4:=hideit z4
          replace hpl:=hideit hpl
          replace hpp:=hideit hpp
          replace ej:=hideit ej
          replace hjt:=hideit hjt
          go_upto_region 10 with (fail)
          refine wp_region_lit ?_
          refine xm [some (.int .i64 (j:Int)),some (.bool true)] (by kernel_rfl) (by simp [xr,go_sem,k1]) ?_
          simp only [xw,p0,p1,p2,p3]
          go_upto_region 12 with (fail)
          refine wp_region_lit ?_
          have XN:Ext U (U.alloc (.cells #[] 5)):=(Below.refl _ _).alloc (Nat.le_refl _) _
          have G0:=hideit (GB.empty U (Ext.refl U) sd)
          replace hbU:=hideit (hbU.out.ext XN)
          refine wpList_to rfl (.slice (some ⟨U.heap.size,0,none⟩) 0 0) (U.alloc (.cells #[] 5)) (by simp [go_sem]) ?_
          simp only [jk,jq,jv,jy]
          clear XN
          generalize U.alloc (.cells #[] 5) = x1 at G0 hbU ⊢
          obtain ⟨g1,hg1⟩:∃ g,g = U.heap.size:=⟨_,rfl⟩
          rw [← hg1] at G0 ⊢
          clear hg1
          refine xm [some (.slice (some ⟨sg,0,none⟩) 64 sc)] (by kernel_rfl) (by simp [xr,go_sem]) ?_
          simp only [xw,p0,p1,p2,p3]
          refine wpList_gb rfl (.tmp 59) (.tmp 60) rfl rfl G0.out (.slice (some ⟨sg,0,none⟩) 64 sc) 64 (sd) rfl hbU.out (by decide) ?_
          intro v1 x2 G1
          replace G1:GB U v1 64 sd x2:=G1.congr (by decide) fun z hz=>by unfold catF; rw [if_neg (by omega),Nat.sub_zero]
          replace G1:=hideit G1
          simp only [jk,jq,jv,jy]
          clear G0
          refine xm [some (.int .i64 (j:Int))] (by kernel_rfl) (by simp [xr,go_sem]) ?_
          simp only [xw,p0,p1,p2,p3]
          refine wpList_call rfl (by simp [go_sem]) ((rfour_any j (by have:=hsm.out; have:=hlt.out; omega) x2).mono ?_)
          rintro e x3 ⟨f1,rfl,hO,hX⟩
          refine ⟨_,rfl,?_⟩
          simp only [jk,jq,jv,jy]
          have hf1:=hideit hO.bv
          have G2:=hideit (G1.out.ext hX)
          clear hO hX G1
          refine wpList_gb rfl (.tmp 61) (.tmp 63) rfl rfl G2.out (f1) 4 (fourB j) rfl hf1.out (by decide) ?_
          intro v3 x4 G3
          replace G3:=hideit G3
          simp only [jk,jq,jv,jy]
          clear G2
          refine xm [some (.int .i64 (a:Int))] (by kernel_rfl) (by simp [xr,go_sem]) ?_
          simp only [xw,p0,p1,p2,p3]
          refine wpList_call rfl (by simp [go_sem]) ((rfour_any a (by have:=hsm.out; have:=hlt.out; omega) x4).mono ?_)
          rintro e x5 ⟨f2,rfl,hO,hX⟩
          refine ⟨_,rfl,?_⟩
          simp only [jk,jq,jv,jy]
          have hf2:=hideit hO.bv
          have G4:=hideit (G3.out.ext hX)
          clear hO hX G3
          refine wpList_gb rfl (.tmp 64) (.tmp 66) rfl rfl G4.out (f2) 4 (fourB a) rfl hf2.out (by decide) ?_
          intro v5 x6 G5
          replace G5:=hideit G5
          simp only [jk,jq,jv,jy]
          clear G4
          obtain ⟨o5,c5,rfl⟩:=G5.out.form
          refine wpList_call rfl (by simp [go_sem]) ((rlong_any 1024 72 (by decide) (by decide) (.slice o5 (64 + 4 + 4) c5) (catF (catF sd 64 (fourB j)) 68 (fourB a)) x6 G5.out.bv (by decide)).mono ?_)
          rintro e x7 ⟨v7,rfl,hO7,hX7⟩
          refine ⟨_,rfl,?_⟩
          simp only [jk,jq,jv,jy]
          have hXU:=hideit (Ext.trans G5.out.2 hX7)
          obtain ⟨lg,lgc,rfl,_,hlc,_,hR7⟩:=hO7.lies (by decide)
          have hbL:Hid (BV (.slice (some ⟨lg,0,none⟩) 1024 lgc) 1024 (longF 1024 (catF (catF sd 64 (fourB j)) 68 (fourB a)) 72) x7):=.inr ⟨_,_,rfl,hlc,hR7.lie 1024 (Nat.le_refl _)⟩
          replace hP:=hideit (hP.out.carry hXU.out)
          replace hR:=hideit (hR.out.carry hXU.out)
          replace hE:=hideit (Ext.trans hE.out hXU.out)
          clear hO7 hR7 hX7 G5 hXU
          refine xm [some (.tuple #[.slice (some ⟨lg,0,none⟩) 1024 lgc,.int .i64 0]),some (.slice (some ⟨lg,0,none⟩) 1024 lgc),some (.int .i64 0),some (.slice (some ⟨lg,0,none⟩) 1024 lgc),some (.int .i64 0)] (by kernel_rfl) (by simp [xr,go_sem]) ?_
          simp only [xw,p0,p1,p2,p3]
          go_upto_region 13 with (fail)
          replace hP:=hideit hP.out.drew
          replace hR:=hideit hR.out.drew
          replace hE:=hideit (Ext.draw hE.out)
          replace hbL:=hideit (hbL.out.ext (Ext.draw (Ext.refl _)))
          refine wp_region_lad (fun X=>RowAt p 9 (rmV T M L q b (q * L) 0 0 0 0) X) [(false,0),(false,1),(false,2),(false,3),(false,4),(false,5),(false,6),(false,7),(false,8),(false,9),(false,10),(false,11),(false,12),(true,13),(false,14),(false,15),(false,16),(false,17),(true,18)] (by kernel_rfl) (by kernel_rfl) (by decide +kernel) (by decide +kernel) (by decide +kernel) (by decide +kernel) hP.out ?_
          refine wpX_f _ (.pointer (some ⟨p,0,none⟩)) rfl rfl (fun X hX=>by simp [go_sem]) ?_
          simp only [List.getElem_toArray,List.getElem_cons_zero,Act.put,List.setIfInBounds_toArray,List.set_cons_zero,List.set_cons_succ]
          refine wpX_f _ (.pointer (some ⟨p,0,none⟩)) rfl rfl (fun X hX=>by simp [go_sem]) ?_
          simp only [jw,jz,kj,jk,jq,jv,jy]
          refine wpX_f _ (.pointer (some ⟨p,4,none⟩)) rfl rfl (fun X hX=>by simp [go_sem]) ?_
          simp only [jw,jz,kj,jk,jq,jv,jy]
          refine wpX_f _ (.slice (some ⟨b,0,none⟩) (q * L) (q * L)) rfl rfl (fun X hX=>by have e:X.cell? ⟨p,4,none⟩ = some (.slice (some ⟨b,0,none⟩) (q * L) (q * L)):=hX.1 4 (by decide); simp [go_sem,e]) ?_
          simp only [jw,jz,kj,jk,jq,jv,jy]
          refine wpX_f _ (.pointer (some ⟨p,0,none⟩)) rfl rfl (fun X hX=>by simp [go_sem]) ?_
          simp only [jw,jz,kj,jk,jq,jv,jy]
          refine wpX_f _ (.pointer (some ⟨p,0,none⟩)) rfl rfl (fun X hX=>by simp [go_sem]) ?_
          simp only [jw,jz,kj,jk,jq,jv,jy]
          refine wpX_f _ (.pointer (some ⟨p,3,none⟩)) rfl rfl (fun X hX=>by simp [go_sem]) ?_
          simp only [jw,jz,kj,jk,jq,jv,jy]
          refine wpX_f _ (.int .i64 (q:Int)) rfl rfl (fun X hX=>by have e:X.cell? ⟨p,3,none⟩ = some (.int .i64 (q:Int)):=hX.1 3 (by decide); simp [go_sem,e]) ?_
          simp only [jw,jz,kj,jk,jq,jv,jy]
          refine wpX_f _ (.int .i64 (a:Int)) rfl rfl (fun X hX=>by simp [go_sem]) ?_
          simp only [jw,jz,kj,jk,jq,jv,jy]
          refine wpX_f _ (.int .i64 (ql:Int)) rfl rfl (fun X hX=>by simp [go_sem,z2.out]) ?_
          simp only [jw,jz,kj,jk,jq,jv,jy]
          refine wpX_f _ (.int .i64 (j:Int)) rfl rfl (fun X hX=>by simp [go_sem]) ?_
          simp only [jw,jz,kj,jk,jq,jv,jy]
          refine wpX_f _ (.int .i64 (pp:Int)) rfl rfl (fun X hX=>by simp [go_sem,z3.out]) ?_
          simp only [jw,jz,kj,jk,jq,jv,jy]
          refine wpX_f _ (.slice (some ⟨lg,0,none⟩) 1024 lgc) rfl rfl (fun X hX=>by simp [go_sem]) ?_
          simp only [jw,jz,kj,jk,jq,jv,jy]
          refine wpX_call _ rfl rfl (by simp [go_sem]) ((rpage_any (.slice (some ⟨lg,0,none⟩) 1024 lgc) _ x7.drew hbL.out).mono ?_)
          rintro e x8 ⟨rfl,hX8⟩
          rw [show pgW (longF 1024 (catF (catF sd 64 (fourB j)) 68 (fourB a)) 72) = bgP sd j a from rfl]
          replace hP:=hideit (hP.out.carry hX8)
          replace hR:=hideit (hR.out.carry hX8)
          replace hE:=hideit (Ext.trans hE.out hX8)
          refine ⟨_,rfl,fun X=>RowAt p 9 (rmV T M L q b (q * L) 0 0 0 0) X,fun X hX=>hX,hP.out,?_⟩
          simp only [jw,jz,kj,jk,jq,jv,jy]
          clear hX8 hbL
          refine wpX_f _ (.tuple #[.agg (row 128 (wv (bgP sd j a))).toArray,.int .i64 0]) rfl rfl (fun X hX=>by simp [go_sem]) ?_
          simp only [jw,jz,kj,jk,jq,jv,jy]
          refine wpX_f _ (.agg (row 128 (wv (bgP sd j a))).toArray) rfl rfl (fun X hX=>by simp [go_sem]) ?_
          simp only [jw,jz,kj,jk,jq,jv,jy]
          refine wpX_f _ (.int .i64 0) rfl rfl (fun X hX=>by simp [go_sem]) ?_
          simp only [jw,jz,kj,jk,jq,jv,jy]
          refine wpX_f _ (.pointer (some ⟨b,pp * 128,none⟩)) rfl rfl (fun X hX=>by simp [go_sem,z4.out,add00]) ?_
          simp only [jw,jz,kj,jk,jq,jv,jy]
          have N0:=hideit (rm_set hR.out pp hpl.out (bgP sd j a))
          have N1:=hideit (hP.out.cellsOther (Ne.symm hpb.out) (row 128 (wv (bgP sd j a))) (pp * 128))
          have N2:=hideit (below_setCells b hbB.out (row 128 (wv (bgP sd j a))) (pp * 128) _ hE.out)
          refine wpX_st _ (x8.setCells b (pp * 128) (row 128 (wv (bgP sd j a)))) rfl rfl (xstoreM 24 (.tmp 88) (.tmp 86) rfl b (128 * (q * L)) (pp * 128) 128 _ (wv (bgP sd j a)) rfl rfl hR.out (by have:=hpl.out; omega) infoPg (fun _ _=>rfl)) (fun X=>RowAt p 9 (rmV T M L q b (q * L) 0 0 0 0) X) (fun X hX=>hX) N1.out ?_
          simp only [List.getElem_toArray,List.getElem_cons_zero,List.getElem_cons_succ,Act.put]
          generalize x8.setCells b (pp * 128) (row 128 (wv (bgP sd j a))) = x9 at N0 N1 N2 ⊢
          clear hP hR hE
          refine wpX_nil ?_
          go_upto_region 11 with (fail)
          refine wp_region_lit ?_
          refine xm [some (.int .i64 (j:Int)),some (.int .i64 ((j + 1:Nat):Int)),some (.int .i64 ((j + 1:Nat):Int))] (by kernel_rfl) (by simp [xr,go_sem,ej.out]) ?_
          simp only [xw,p0,p1,p2,p3]
          go_wp2
          refine ⟨⟨j + 1,by have:=hjt.out; omega,rfl,N1.out,?_,N2.out⟩,by have:=hjt.out; simp [intOf]; omega⟩
          have e:inM s sd a (j + 1) = upA (inM s sd a j) pp (bgP sd j a):=by
            have:=hjt.out
            rw [hpp.out,hql.out,hq.out]
            rcases (by omega:j = 0 ∨ j = 1) with rfl | rfl <;> rfl
          rw [e]
          exact N0.out
        · obtain rfl:j = 2:=by omega
          go_upto_region 10 with (fail)
          refine wp_region_lit ?_
          refine xm [some (.int .i64 ((2:Nat):Int)),some (.bool false)] (by kernel_rfl) (by simp [xr,go_sem]) ?_
          simp only [xw,p0,p1,p2,p3]
          go_upto_region 8 with (fail)
          refine wp_region_lit ?_
          refine xm [some (.int .i64 (a:Int)),some (.int .i64 ((a + 1:Nat):Int)),some (.int .i64 ((a + 1:Nat):Int))] (by kernel_rfl) (by simp [xr,go_sem,ea.out]) ?_
          simp only [xw,p0,p1,p2,p3]
          go_wp2
          refine ⟨⟨a + 1,by have:=hlt.out; omega,rfl,hP.out,?_,hE.out⟩,by have:=hlt.out; have:=hsm.out; simp [intOf]; omega⟩
          rw [← inM_end]
          exact hR.out
    · obtain rfl:a = L:=by omega
      obtain ⟨Z,hZ⟩:∃ Z,Z = bgA s sd a:=⟨_,rfl⟩
      rw [← hZ] at hR
      replace hZ:=hideit hZ
      have hun:Hid (∀ e g,e < 4 → Un s e g 0 (laA s a T (slA s a T Z 0 e) 0 e g)):=fun e g he=>by rw [hZ.out]; exact un_lane hs0.out.1 he
      have hLL:Hid (∀ i:Nat,i < a → i < 4):=fun i hi=>by have:=hsm.out; omega
      go_upto_region 7 with (fail)
      refine wp_region_lit ?_
      have m4:wr.cell? ⟨c,2,none⟩ = some (.int .i64 (a:Int)):=H0.out.1 2 (by decide)
      refine xm [some (.int .i64 (a:Int)),some (.pointer (some ⟨c,2,none⟩)),some (.int .i64 (a:Int)),some (.bool false)] (by kernel_rfl) (by simp [xr,go_sem,m4]) ?_
      simp only [xw,p0,p1,p2,p3]
      clear m4
      clear H0
      go_upto_region 14 with (fail)
      refine wp_region_lit ?_
      refine xm [some (.pointer (some ⟨p,0,none⟩)),some (.pointer (some ⟨p,0,none⟩)),some (.pointer (some ⟨p,5,none⟩))] (by kernel_rfl) (by simp [xr,go_sem]) ?_
      simp only [xw,p0,p1,p2,p3]
      have M0:wr.cell? ⟨p,5,none⟩ = some (.int .i64 0):=hP.out.1 5 (by decide)
      have M1:wr.frozen? ⟨p,5,none⟩ = false:=hP.out.2.1 5 (by decide)
      have N0:Hid (RowAt p 9 (rmV T M a q b (q * a) 0 0 0 0) (wr.setCell ⟨p,5,none⟩ (.int .i64 0))):=(hP.out.set 5 (.int .i64 0)).congr fun j hj=>rm5 (0) j hj
      have N1:=hideit (hR.out.other ⟨p,5,none⟩ (.int .i64 0) hpb.out)
      have NE:=hideit (hE.out.setCell (p:=⟨p,5,none⟩) hpB.out (.int .i64 0))
      refine xst rfl (wr.setCell ⟨p,5,none⟩ (.int .i64 0)) (by simp [go_sem,M0,M1]) ?_
      simp only [Act.put]
      generalize wr.setCell ⟨p,5,none⟩ (.int .i64 0) = k5 at N0 N1 NE ⊢
      replace hP:=N0
      replace hR:=N1
      replace hE:=NE
      clear M0 M1 N0 N1 NE
      go_upto_region 15 with (fail)
      go_loopw [95] (fun _ X=>∃ i e g k:Nat,i ≤ T ∧ RowAt p 9 (rmV T M a q b (q * a) i e g k) X ∧ RowAt b (128 * (q * a)) (wv (paA s a T Z i)) X ∧ Ext y1 X) (fun _ X=>100 - cN X p 5)
      case atStart=>exact ⟨0,0,0,0,Nat.zero_le _,hP.out,hR.out,hE.out⟩
      case round=>
        clear hP hR hE
        obtain ⟨i,e0,g0,k0,hi,hP,hR,hE⟩:=hrel
        have cm:cN wr p 5 = i:=cN_of (hP.1 5 (by decide))
        rw [cm]
        clear cm
        replace hP:=hideit hP
        replace hR:=hideit hR
        replace hE:=hideit hE
        have H0:=hideit (H01.out.carry hE.out)
        by_cases hit:i < T
        · have k1:(i:Int) < (T:Int):=by omega
          have ei:IntKind.i64.wrap ((i:Int) + 1) = ((i + 1:Nat):Int):=by have:=hsm.out; rw [IntKind.wrap_i64]; omega
          replace ei:=hideit ei
          replace hit:=hideit hit
          go_upto_region 15 with (fail)
          replace hP:=hideit hP.out.drew
          replace hR:=hideit hR.out.drew
          replace H0:=hideit H0.out.drew
          replace hE:=hideit (Ext.draw hE.out)
          refine wp_region_lad (fun X=>Ext wr.drew X) [(false,0),(false,1),(false,2),(false,3),(false,4),(false,5),(false,6)] (by kernel_rfl) (by kernel_rfl) (by decide +kernel) (by decide +kernel) (by decide +kernel) (by decide +kernel) (Ext.refl _) ?_
          refine wpX_f _ (.pointer (some ⟨p,0,none⟩)) rfl rfl (fun X _=>by simp [go_sem]) ?_
          simp only [List.getElem_toArray,List.getElem_cons_zero,Act.put,List.setIfInBounds_toArray,List.set_cons_zero,List.set_cons_succ]
          refine wpX_f _ (.pointer (some ⟨p,0,none⟩)) rfl rfl (fun X _=>by simp [go_sem]) ?_
          simp only [jw,jz,kj,jk,jq,jv,jy]
          refine wpX_f _ (.pointer (some ⟨p,5,none⟩)) rfl rfl (fun X _=>by simp [go_sem]) ?_
          simp only [jw,jz,kj,jk,jq,jv,jy]
          refine wpX_f _ (.int .i64 (i:Int)) rfl rfl (fun X hX=>by have m6:X.cell? ⟨p,5,none⟩ = some (.int .i64 (i:Int)):=(hP.out.carry hX).1 5 (by decide); simp [go_sem,m6]) ?_
          simp only [jw,jz,kj,jk,jq,jv,jy]
          refine wpX_f _ (.pointer (some ⟨c,0,none⟩)) rfl rfl (fun X _=>by simp [go_sem]) ?_
          simp only [jw,jz,kj,jk,jq,jv,jy]
          refine wpX_f _ (.int .i64 (T:Int)) rfl rfl (fun X hX=>by have m7:X.cell? ⟨c,0,none⟩ = some (.int .i64 (T:Int)):=(H0.out.carry hX).1 0 (by decide); simp [go_sem,m7]) ?_
          simp only [jw,jz,kj,jk,jq,jv,jy]
          refine wpX_f _ (.bool true) rfl rfl (fun X _=>by simp [go_sem,k1]) ?_
          simp only [jw,jz,kj,jk,jq,jv,jy]
          refine wpX_nil ?_
          clear k1 H0
          go_upto_region 17 with (fail)
          refine wp_region_lit ?_
          refine xm [some (.pointer (some ⟨p,0,none⟩)),some (.pointer (some ⟨p,0,none⟩)),some (.pointer (some ⟨p,6,none⟩))] (by kernel_rfl) (by simp [xr,go_sem]) ?_
          simp only [xw,p0,p1,p2,p3]
          have M0:wr.drew.cell? ⟨p,6,none⟩ = some (.int .i64 (e0:Int)):=hP.out.1 6 (by decide)
          have M1:wr.drew.frozen? ⟨p,6,none⟩ = false:=hP.out.2.1 6 (by decide)
          have N0:Hid (RowAt p 9 (rmV T M a q b (q * a) i 0 g0 k0) (wr.drew.setCell ⟨p,6,none⟩ (.int .i64 0))):=(hP.out.set 6 (.int .i64 0)).congr fun j hj=>rm6 (0) j hj
          have N1:=hideit (hR.out.other ⟨p,6,none⟩ (.int .i64 0) hpb.out)
          have NE:=hideit (hE.out.setCell (p:=⟨p,6,none⟩) hpB.out (.int .i64 0))
          refine xst rfl (wr.drew.setCell ⟨p,6,none⟩ (.int .i64 0)) (by simp [go_sem,M0,M1]) ?_
          simp only [Act.put]
          generalize wr.drew.setCell ⟨p,6,none⟩ (.int .i64 0) = k8 at N0 N1 NE ⊢
          replace hP:=N0
          replace hR:=N1
          replace hE:=NE
          clear M0 M1 N0 N1 NE
          go_upto_region 18 with (fail)
          go_loopw [112] (fun _ X=>∃ e g k:Nat,e ≤ 4 ∧ RowAt p 9 (rmV T M a q b (q * a) i e g k) X ∧ RowAt b (128 * (q * a)) (wv (slA s a T (paA s a T Z i) i e)) X ∧ Ext y1 X) (fun _ X=>100 - cN X p 6)
          case atStart=>exact ⟨0,_,_,Nat.zero_le _,hP.out,hR.out,hE.out⟩
          case round=>
            clear hP hR hE
            obtain ⟨e,g1,k1,he,hP,hR,hE⟩:=hrel
            have cm:cN wr p 6 = e:=cN_of (hP.1 6 (by decide))
            rw [cm]
            clear cm
            replace hP:=hideit hP
            replace hR:=hideit hR
            replace hE:=hideit hE
            by_cases het:e < 4
            · have q1:(e:Int) < 4:=by omega
              have ee:IntKind.i64.wrap ((e:Int) + 1) = ((e + 1:Nat):Int):=by rw [IntKind.wrap_i64]; omega
              replace ee:=hideit ee
              replace het:=hideit het
              go_upto_region 18 with (fail)
              refine wp_region_lit ?_
              have m9:wr.cell? ⟨p,6,none⟩ = some (.int .i64 (e:Int)):=hP.out.1 6 (by decide)
              refine xm [some (.pointer (some ⟨p,0,none⟩)),some (.pointer (some ⟨p,0,none⟩)),some (.pointer (some ⟨p,6,none⟩)),some (.int .i64 (e:Int)),some (.bool true)] (by kernel_rfl) (by simp [xr,go_sem,m9,q1]) ?_
              simp only [xw,p0,p1,p2,p3]
              clear m9
              clear q1
              go_upto_region 20 with (fail)
              refine wp_region_lit ?_
              refine xm [some (.pointer (some ⟨p,0,none⟩)),some (.pointer (some ⟨p,0,none⟩)),some (.pointer (some ⟨p,7,none⟩))] (by kernel_rfl) (by simp [xr,go_sem]) ?_
              simp only [xw,p0,p1,p2,p3]
              have M0:wr.cell? ⟨p,7,none⟩ = some (.int .i64 (g1:Int)):=hP.out.1 7 (by decide)
              have M1:wr.frozen? ⟨p,7,none⟩ = false:=hP.out.2.1 7 (by decide)
              have N0:Hid (RowAt p 9 (rmV T M a q b (q * a) i e 0 k1) (wr.setCell ⟨p,7,none⟩ (.int .i64 0))):=(hP.out.set 7 (.int .i64 0)).congr fun j hj=>rm7 (0) j hj
              have N1:=hideit (hR.out.other ⟨p,7,none⟩ (.int .i64 0) hpb.out)
              have NE:=hideit (hE.out.setCell (p:=⟨p,7,none⟩) hpB.out (.int .i64 0))
              refine xst rfl (wr.setCell ⟨p,7,none⟩ (.int .i64 0)) (by simp [go_sem,M0,M1]) ?_
              simp only [Act.put]
              generalize wr.setCell ⟨p,7,none⟩ (.int .i64 0) = k10 at N0 N1 NE ⊢
              replace hP:=N0
              replace hR:=N1
              replace hE:=NE
              clear M0 M1 N0 N1 NE
              go_upto_region 21 with (fail)
              go_loopw [127] (fun _ X=>∃ g k:Nat,g ≤ a ∧ RowAt p 9 (rmV T M a q b (q * a) i e g k) X ∧ RowAt b (128 * (q * a)) (wv (laA s a T (slA s a T (paA s a T Z i) i e) i e g)) X ∧ Ext y1 X) (fun _ X=>100 - cN X p 7)
              case atStart=>exact ⟨0,_,Nat.zero_le _,hP.out,hR.out,hE.out⟩
              case round=>
                clear hP hR hE
                obtain ⟨g,k2,hg,hP,hR,hE⟩:=hrel
                have cm:cN wr p 7 = g:=cN_of (hP.1 7 (by decide))
                rw [cm]
                clear cm
                replace hP:=hideit hP
                replace hR:=hideit hR
                replace hE:=hideit hE
                have H0:=hideit (H01.out.carry hE.out)
                by_cases hgt:g < a
                · have q1:(g:Int) < (a:Int):=by omega
                  have eg:IntKind.i64.wrap ((g:Int) + 1) = ((g + 1:Nat):Int):=by have:=hsm.out; rw [IntKind.wrap_i64]; omega
                  replace eg:=hideit eg
                  replace hgt:=hideit hgt
                  go_upto_region 21 with (fail)
                  replace hP:=hideit hP.out.drew
                  replace hR:=hideit hR.out.drew
                  replace H0:=hideit H0.out.drew
                  replace hE:=hideit (Ext.draw hE.out)
                  refine wp_region_lad (fun X=>Ext wr.drew X) [(false,0),(false,1),(false,2),(false,3),(false,4),(false,5),(false,6)] (by kernel_rfl) (by kernel_rfl) (by decide +kernel) (by decide +kernel) (by decide +kernel) (by decide +kernel) (Ext.refl _) ?_
                  refine wpX_f _ (.pointer (some ⟨p,0,none⟩)) rfl rfl (fun X _=>by simp [go_sem]) ?_
                  simp only [List.getElem_toArray,List.getElem_cons_zero,Act.put,List.setIfInBounds_toArray,List.set_cons_zero,List.set_cons_succ]
                  refine wpX_f _ (.pointer (some ⟨p,0,none⟩)) rfl rfl (fun X _=>by simp [go_sem]) ?_
                  simp only [jw,jz,kj,jk,jq,jv,jy]
                  refine wpX_f _ (.pointer (some ⟨p,7,none⟩)) rfl rfl (fun X _=>by simp [go_sem]) ?_
                  simp only [jw,jz,kj,jk,jq,jv,jy]
                  refine wpX_f _ (.int .i64 (g:Int)) rfl rfl (fun X hX=>by have m11:X.cell? ⟨p,7,none⟩ = some (.int .i64 (g:Int)):=(hP.out.carry hX).1 7 (by decide); simp [go_sem,m11]) ?_
                  simp only [jw,jz,kj,jk,jq,jv,jy]
                  refine wpX_f _ (.pointer (some ⟨c,2,none⟩)) rfl rfl (fun X _=>by simp [go_sem]) ?_
                  simp only [jw,jz,kj,jk,jq,jv,jy]
                  refine wpX_f _ (.int .i64 (a:Int)) rfl rfl (fun X hX=>by have m12:X.cell? ⟨c,2,none⟩ = some (.int .i64 (a:Int)):=(H0.out.carry hX).1 2 (by decide); simp [go_sem,m12]) ?_
                  simp only [jw,jz,kj,jk,jq,jv,jy]
                  refine wpX_f _ (.bool true) rfl rfl (fun X _=>by simp [go_sem,q1]) ?_
                  simp only [jw,jz,kj,jk,jq,jv,jy]
                  refine wpX_nil ?_
                  clear q1 H0
                  go_upto_region 23 with (fail)
                  refine wp_region_lit ?_
                  refine xm [some (.pointer (some ⟨p,0,none⟩)),some (.pointer (some ⟨p,0,none⟩)),some (.pointer (some ⟨p,8,none⟩))] (by kernel_rfl) (by simp [xr,go_sem]) ?_
                  simp only [xw,p0,p1,p2,p3]
                  have M0:wr.drew.cell? ⟨p,8,none⟩ = some (.int .i64 (k2:Int)):=hP.out.1 8 (by decide)
                  have M1:wr.drew.frozen? ⟨p,8,none⟩ = false:=hP.out.2.1 8 (by decide)
                  have N0:Hid (RowAt p 9 (rmV T M a q b (q * a) i e g 0) (wr.drew.setCell ⟨p,8,none⟩ (.int .i64 0))):=(hP.out.set 8 (.int .i64 0)).congr fun j hj=>rm8 (0) j hj
                  have N1:=hideit (hR.out.other ⟨p,8,none⟩ (.int .i64 0) hpb.out)
                  have NE:=hideit (hE.out.setCell (p:=⟨p,8,none⟩) hpB.out (.int .i64 0))
                  refine xst rfl (wr.drew.setCell ⟨p,8,none⟩ (.int .i64 0)) (by simp [go_sem,M0,M1]) ?_
                  simp only [Act.put]
                  generalize wr.drew.setCell ⟨p,8,none⟩ (.int .i64 0) = k13 at N0 N1 NE ⊢
                  replace hP:=N0
                  replace hR:=N1
                  replace hE:=NE
                  clear M0 M1 N0 N1 NE
                  obtain ⟨F,hF⟩:∃ F,F = laA s a T (slA s a T (paA s a T Z i) i e) i e g:=⟨_,rfl⟩
                  rw [← hF] at hR
                  have huF:Hid (i = 0 → Un s e g 0 F):=fun h1=>by
                    have h:=hun.out e g het.out
                    subst h1
                    rw [hF]
                    exact h
                  replace hF:=hideit hF
                  by_cases hi0:i = 0
                  · by_cases he0:e = 0
                    · have b1:Hid (i = 0):=hi0
                      have b2:Hid (e = 0):=he0
                      go_upto_region 24 with (fail)
                      refine wp_region_lit ?_
                      have m14:k13.cell? ⟨p,5,none⟩ = some (.int .i64 (i:Int)):=hP.out.1 5 (by decide)
                      have m15:k13.cell? ⟨p,6,none⟩ = some (.int .i64 (e:Int)):=hP.out.1 6 (by decide)
                      refine xm [some (.pointer (some ⟨p,0,none⟩)),some (.pointer (some ⟨p,0,none⟩)),some (.pointer (some ⟨p,5,none⟩)),some (.int .i64 (i:Int)),some (.bool true),some (.bool true),some (.pointer (some ⟨p,0,none⟩)),some (.pointer (some ⟨p,0,none⟩)),some (.pointer (some ⟨p,6,none⟩)),some (.int .i64 (e:Int)),some (.bool true),some (.bool true)] (by kernel_rfl) (by simp [xr,go_sem,m14,b1.out,m15,b2.out]) ?_
                      simp only [xw,p0,p1,p2,p3]
                      clear m14
                      clear m15
                      go_upto_region 25 with (fail)
                      refine wp_region_lit ?_
                      refine xm [some (.pointer (some ⟨p,0,none⟩)),some (.pointer (some ⟨p,0,none⟩)),some (.pointer (some ⟨p,8,none⟩))] (by kernel_rfl) (by simp [xr,go_sem]) ?_
                      simp only [xw,p0,p1,p2,p3]
                      have M0:k13.cell? ⟨p,8,none⟩ = some (.int .i64 0):=hP.out.1 8 (by decide)
                      have M1:k13.frozen? ⟨p,8,none⟩ = false:=hP.out.2.1 8 (by decide)
                      have N0:Hid (RowAt p 9 (rmV T M a q b (q * a) i e g 2) (k13.setCell ⟨p,8,none⟩ (.int .i64 2))):=(hP.out.set 8 (.int .i64 2)).congr fun j hj=>rm8 (2) j hj
                      have N1:=hideit (hR.out.other ⟨p,8,none⟩ (.int .i64 2) hpb.out)
                      have NE:=hideit (hE.out.setCell (p:=⟨p,8,none⟩) hpB.out (.int .i64 2))
                      refine xst rfl (k13.setCell ⟨p,8,none⟩ (.int .i64 2)) (by simp [go_sem,M0,M1]) ?_
                      simp only [Act.put]
                      generalize k13.setCell ⟨p,8,none⟩ (.int .i64 2) = k16 at N0 N1 NE ⊢
                      replace hP:=N0
                      replace hR:=N1
                      replace hE:=NE
                      clear M0 M1 N0 N1 NE
                      have hR2:Hid (RowAt b (128 * (q * a)) (wv (flA s a T F i e g 2)) k16):=by rw [hi0,he0,fl_two]; exact hR.out
                      clear hi0 he0
                      go_upto_region 26 with (fail)
                      go_loopw [159] (fun _ X=>∃ k:Nat,k ≤ s ∧ (i = 0 → e = 0 → 2 ≤ k) ∧ RowAt p 9 (rmV T M a q b (q * a) i e g k) X ∧ RowAt b (128 * (q * a)) (wv (flA s a T F i e g k)) X ∧ Ext y1 X) (fun _ X=>200 - cN X p 8)
                      case atStart=>exact ⟨2,by have:=hs0.out; omega,fun _ _=>Nat.le_refl _,hP.out,hR2.out,hE.out⟩
                      case round=>
                        clear hP hR hE hR2
                        obtain ⟨k,hk2,hkz,hP,hR,hE⟩:=hrel
                        have cm:cN wr p 8 = k:=cN_of (hP.1 8 (by decide))
                        rw [cm]
                        clear cm
                        replace hP:=hideit hP
                        replace hR:=hideit hR
                        replace hE:=hideit hE
                        replace hkz:=hideit hkz
                        have zq:(q:Int) / 4 = (s:Int) ∧ IntKind.i64.wrap (s:Int) = (s:Int):=by have:=hq.out; have:=hs0.out; exact ⟨by omega,by rw [IntKind.wrap_i64]; omega⟩
                        replace zq:=hideit zq
                        by_cases hkt:k < s
                        · have q1:(k:Int) < (s:Int):=by omega
                          have ek:IntKind.i64.wrap ((k:Int) + 1) = ((k + 1:Nat):Int):=by have:=hs0.out; rw [IntKind.wrap_i64]; omega
                          replace ek:=hideit ek
                          replace hkt:=hideit hkt
                          go_upto_region 26 with (fail)
                          replace hP:=hideit hP.out.drew
                          replace hR:=hideit hR.out.drew
                          replace hE:=hideit (Ext.draw hE.out)
                          refine wp_region_lad (fun X=>Ext wr.drew X) [(false,0),(false,1),(false,2),(false,3),(false,4),(false,5),(false,6),(false,7),(false,8),(false,9)] (by kernel_rfl) (by kernel_rfl) (by decide +kernel) (by decide +kernel) (by decide +kernel) (by decide +kernel) (Ext.refl _) ?_
                          refine wpX_f _ (.pointer (some ⟨p,0,none⟩)) rfl rfl (fun X _=>by simp [go_sem]) ?_
                          simp only [List.getElem_toArray,List.getElem_cons_zero,Act.put,List.setIfInBounds_toArray,List.set_cons_zero,List.set_cons_succ]
                          refine wpX_f _ (.pointer (some ⟨p,0,none⟩)) rfl rfl (fun X _=>by simp [go_sem]) ?_
                          simp only [jw,jz,kj,jk,jq,jv,jy]
                          refine wpX_f _ (.pointer (some ⟨p,8,none⟩)) rfl rfl (fun X _=>by simp [go_sem]) ?_
                          simp only [jw,jz,kj,jk,jq,jv,jy]
                          refine wpX_f _ (.int .i64 (k:Int)) rfl rfl (fun X hX=>by have m17:X.cell? ⟨p,8,none⟩ = some (.int .i64 (k:Int)):=(hP.out.carry hX).1 8 (by decide); simp [go_sem,m17]) ?_
                          simp only [jw,jz,kj,jk,jq,jv,jy]
                          refine wpX_f _ (.pointer (some ⟨p,0,none⟩)) rfl rfl (fun X _=>by simp [go_sem]) ?_
                          simp only [jw,jz,kj,jk,jq,jv,jy]
                          refine wpX_f _ (.pointer (some ⟨p,0,none⟩)) rfl rfl (fun X _=>by simp [go_sem]) ?_
                          simp only [jw,jz,kj,jk,jq,jv,jy]
                          refine wpX_f _ (.pointer (some ⟨p,3,none⟩)) rfl rfl (fun X _=>by simp [go_sem]) ?_
                          simp only [jw,jz,kj,jk,jq,jv,jy]
                          refine wpX_f _ (.int .i64 (q:Int)) rfl rfl (fun X hX=>by have m18:X.cell? ⟨p,3,none⟩ = some (.int .i64 (q:Int)):=(hP.out.carry hX).1 3 (by decide); simp [go_sem,m18]) ?_
                          simp only [jw,jz,kj,jk,jq,jv,jy]
                          refine wpX_f _ (.int .i64 (s:Int)) rfl rfl (fun X _=>by simp [go_sem,zq.out.1,zq.out.2]) ?_
                          simp only [jw,jz,kj,jk,jq,jv,jy]
                          refine wpX_f _ (.bool true) rfl rfl (fun X _=>by simp [go_sem,q1]) ?_
                          simp only [jw,jz,kj,jk,jq,jv,jy]
                          refine wpX_nil ?_
                          clear q1
                          go_upto_region 27 with (fail)
                          refine wp_region_lit ?_
                          refine xm [some (.pointer (some ⟨p,0,none⟩))] (by kernel_rfl) (by simp [xr,go_sem]) ?_
                          simp only [xw,p0,p1,p2,p3]
                          refine wpList_call rfl (by simp [go_sem]) ((rmem_page y1.heap.size p T M a q b (q * a) i e g k s (flA s a T F i e g k) wr.drew hP.out hR.out hpb.out hbB.out (Below.size hE.out) hq.out hs0.out het.out hkt.out hgt.out hsm.out.2.1 hkz.out).mono ?_)
                          rintro e y5 ⟨rfl,hP5,hR5,hB5⟩
                          refine ⟨_,rfl,?_⟩
                          simp only [jk,jq,jv,jy]
                          replace hP:=hideit hP5
                          replace hR:=hideit hR5
                          replace hE:=hideit (Below.trans hE.out hB5)
                          clear hP5 hR5 hB5
                          go_upto_region 28 with (fail)
                          refine wp_region_lit ?_
                          have m19:y5.cell? ⟨p,8,none⟩ = some (.int .i64 (k:Int)):=hP.out.1 8 (by decide)
                          refine xm [some (.pointer (some ⟨p,0,none⟩)),some (.pointer (some ⟨p,0,none⟩)),some (.pointer (some ⟨p,8,none⟩)),some (.int .i64 (k:Int)),some (.int .i64 ((k + 1:Nat):Int)),some (.pointer (some ⟨p,0,none⟩)),some (.pointer (some ⟨p,8,none⟩))] (by kernel_rfl) (by simp [xr,go_sem,m19,ek.out]) ?_
                          simp only [xw,p0,p1,p2,p3]
                          clear m19
                          have M0:y5.cell? ⟨p,8,none⟩ = some (.int .i64 (k:Int)):=hP.out.1 8 (by decide)
                          have M1:y5.frozen? ⟨p,8,none⟩ = false:=hP.out.2.1 8 (by decide)
                          have N0:Hid (RowAt p 9 (rmV T M a q b (q * a) i e g (k + 1:Nat)) (y5.setCell ⟨p,8,none⟩ (.int .i64 ((k + 1:Nat):Int)))):=(hP.out.set 8 (.int .i64 ((k + 1:Nat):Int))).congr fun j hj=>rm8 ((k + 1:Nat)) j hj
                          have N1:=hideit (hR.out.other ⟨p,8,none⟩ (.int .i64 ((k + 1:Nat):Int)) hpb.out)
                          have NE:=hideit (hE.out.setCell (p:=⟨p,8,none⟩) hpB.out (.int .i64 ((k + 1:Nat):Int)))
                          refine xst rfl (y5.setCell ⟨p,8,none⟩ (.int .i64 ((k + 1:Nat):Int))) (by simp [go_sem,M0,M1]) ?_
                          simp only [Act.put]
                          generalize y5.setCell ⟨p,8,none⟩ (.int .i64 ((k + 1:Nat):Int)) = k20 at N0 N1 NE ⊢
                          replace hP:=N0
                          replace hR:=N1
                          replace hE:=NE
                          clear M0 M1 N0 N1 NE
                          go_wp2
                          have cm:cN k20 p 8 = k + 1:=cN_of (hP.out.1 8 (by decide))
                          rw [cm]
                          refine ⟨⟨k + 1,hkt.out,fun h1 h2=>Nat.le_succ_of_le (hkz.out h1 h2),hP.out,?_,hE.out⟩,by have:=hkt.out; have:=hs0.out; omega⟩
                          rw [fl_step hs0.out.1 hkt.out het.out hkz.out huF.out]
                          exact hR.out
                        · obtain rfl:k = s:=by omega
                          have zq2:(q:Int) / 4 = (k:Int) ∧ IntKind.i64.wrap (k:Int) = (k:Int):=zq.out
                          go_upto_region 26 with (fail)
                          replace hP:=hideit hP.out.drew
                          replace hR:=hideit hR.out.drew
                          replace hE:=hideit (Ext.draw hE.out)
                          refine wp_region_lad (fun X=>Ext wr.drew X) [(false,0),(false,1),(false,2),(false,3),(false,4),(false,5),(false,6),(false,7),(false,8),(false,9)] (by kernel_rfl) (by kernel_rfl) (by decide +kernel) (by decide +kernel) (by decide +kernel) (by decide +kernel) (Ext.refl _) ?_
                          refine wpX_f _ (.pointer (some ⟨p,0,none⟩)) rfl rfl (fun X _=>by simp [go_sem]) ?_
                          simp only [List.getElem_toArray,List.getElem_cons_zero,Act.put,List.setIfInBounds_toArray,List.set_cons_zero,List.set_cons_succ]
                          refine wpX_f _ (.pointer (some ⟨p,0,none⟩)) rfl rfl (fun X _=>by simp [go_sem]) ?_
                          simp only [jw,jz,kj,jk,jq,jv,jy]
                          refine wpX_f _ (.pointer (some ⟨p,8,none⟩)) rfl rfl (fun X _=>by simp [go_sem]) ?_
                          simp only [jw,jz,kj,jk,jq,jv,jy]
                          refine wpX_f _ (.int .i64 (k:Int)) rfl rfl (fun X hX=>by have m17:X.cell? ⟨p,8,none⟩ = some (.int .i64 (k:Int)):=(hP.out.carry hX).1 8 (by decide); simp [go_sem,m17]) ?_
                          simp only [jw,jz,kj,jk,jq,jv,jy]
                          refine wpX_f _ (.pointer (some ⟨p,0,none⟩)) rfl rfl (fun X _=>by simp [go_sem]) ?_
                          simp only [jw,jz,kj,jk,jq,jv,jy]
                          refine wpX_f _ (.pointer (some ⟨p,0,none⟩)) rfl rfl (fun X _=>by simp [go_sem]) ?_
                          simp only [jw,jz,kj,jk,jq,jv,jy]
                          refine wpX_f _ (.pointer (some ⟨p,3,none⟩)) rfl rfl (fun X _=>by simp [go_sem]) ?_
                          simp only [jw,jz,kj,jk,jq,jv,jy]
                          refine wpX_f _ (.int .i64 (q:Int)) rfl rfl (fun X hX=>by have m18:X.cell? ⟨p,3,none⟩ = some (.int .i64 (q:Int)):=(hP.out.carry hX).1 3 (by decide); simp [go_sem,m18]) ?_
                          simp only [jw,jz,kj,jk,jq,jv,jy]
                          refine wpX_f _ (.int .i64 (k:Int)) rfl rfl (fun X _=>by simp [go_sem,zq2.1,zq2.2]) ?_
                          simp only [jw,jz,kj,jk,jq,jv,jy]
                          refine wpX_f _ (.bool false) rfl rfl (fun X _=>by simp [go_sem]) ?_
                          simp only [jw,jz,kj,jk,jq,jv,jy]
                          refine wpX_nil ?_
                          go_upto_region 22 with (fail)
                          refine wp_region_lit ?_
                          have m19:wr.drew.cell? ⟨p,7,none⟩ = some (.int .i64 (g:Int)):=hP.out.1 7 (by decide)
                          refine xm [some (.pointer (some ⟨p,0,none⟩)),some (.pointer (some ⟨p,0,none⟩)),some (.pointer (some ⟨p,7,none⟩)),some (.int .i64 (g:Int)),some (.int .i64 ((g + 1:Nat):Int)),some (.pointer (some ⟨p,0,none⟩)),some (.pointer (some ⟨p,7,none⟩))] (by kernel_rfl) (by simp [xr,go_sem,m19,eg.out]) ?_
                          simp only [xw,p0,p1,p2,p3]
                          clear m19
                          have M0:wr.drew.cell? ⟨p,7,none⟩ = some (.int .i64 (g:Int)):=hP.out.1 7 (by decide)
                          have M1:wr.drew.frozen? ⟨p,7,none⟩ = false:=hP.out.2.1 7 (by decide)
                          have N0:Hid (RowAt p 9 (rmV T M a q b (q * a) i e (g + 1:Nat) k) (wr.drew.setCell ⟨p,7,none⟩ (.int .i64 ((g + 1:Nat):Int)))):=(hP.out.set 7 (.int .i64 ((g + 1:Nat):Int))).congr fun j hj=>rm7 ((g + 1:Nat)) j hj
                          have N1:=hideit (hR.out.other ⟨p,7,none⟩ (.int .i64 ((g + 1:Nat):Int)) hpb.out)
                          have NE:=hideit (hE.out.setCell (p:=⟨p,7,none⟩) hpB.out (.int .i64 ((g + 1:Nat):Int)))
                          refine xst rfl (wr.drew.setCell ⟨p,7,none⟩ (.int .i64 ((g + 1:Nat):Int))) (by simp [go_sem,M0,M1]) ?_
                          simp only [Act.put]
                          generalize wr.drew.setCell ⟨p,7,none⟩ (.int .i64 ((g + 1:Nat):Int)) = k20 at N0 N1 NE ⊢
                          replace hP:=N0
                          replace hR:=N1
                          replace hE:=NE
                          clear M0 M1 N0 N1 NE
                          go_wp2
                          have cm:cN k20 p 7 = g + 1:=cN_of (hP.out.1 7 (by decide))
                          rw [cm]
                          refine ⟨⟨g + 1,k,hgt.out,hP.out,?_,hE.out⟩,by have:=hgt.out; have:=hsm.out; omega⟩
                          rw [hF.out] at hR
                          exact hR.out
                    · have b1:Hid (i = 0):=hi0
                      have b2:Hid (¬ e = 0):=he0
                      have hnz:Hid (i = 0 → ¬ e = 0):=fun _=>he0
                      clear hi0 he0
                      go_upto_region 24 with (fail)
                      refine wp_region_lit ?_
                      have m14:k13.cell? ⟨p,5,none⟩ = some (.int .i64 (i:Int)):=hP.out.1 5 (by decide)
                      have m15:k13.cell? ⟨p,6,none⟩ = some (.int .i64 (e:Int)):=hP.out.1 6 (by decide)
                      refine xm [some (.pointer (some ⟨p,0,none⟩)),some (.pointer (some ⟨p,0,none⟩)),some (.pointer (some ⟨p,5,none⟩)),some (.int .i64 (i:Int)),some (.bool true),some (.bool true),some (.pointer (some ⟨p,0,none⟩)),some (.pointer (some ⟨p,0,none⟩)),some (.pointer (some ⟨p,6,none⟩)),some (.int .i64 (e:Int)),some (.bool false),some (.bool false)] (by kernel_rfl) (by simp [xr,go_sem,m14,b1.out,m15,b2.out]) ?_
                      simp only [xw,p0,p1,p2,p3]
                      clear m14
                      clear m15
                      go_upto_region 26 with (fail)
                      go_loopw [159] (fun _ X=>∃ k:Nat,k ≤ s ∧ (i = 0 → e = 0 → 2 ≤ k) ∧ RowAt p 9 (rmV T M a q b (q * a) i e g k) X ∧ RowAt b (128 * (q * a)) (wv (flA s a T F i e g k)) X ∧ Ext y1 X) (fun _ X=>200 - cN X p 8)
                      case atStart=>exact ⟨0,by have:=hs0.out; omega,fun h1 h2=>absurd h2 (hnz.out h1),hP.out,hR.out,hE.out⟩
                      case round=>
                        clear hP hR hE
                        obtain ⟨k,hk2,hkz,hP,hR,hE⟩:=hrel
                        have cm:cN wr p 8 = k:=cN_of (hP.1 8 (by decide))
                        rw [cm]
                        clear cm
                        replace hP:=hideit hP
                        replace hR:=hideit hR
                        replace hE:=hideit hE
                        replace hkz:=hideit hkz
                        have zq:(q:Int) / 4 = (s:Int) ∧ IntKind.i64.wrap (s:Int) = (s:Int):=by have:=hq.out; have:=hs0.out; exact ⟨by omega,by rw [IntKind.wrap_i64]; omega⟩
                        replace zq:=hideit zq
                        by_cases hkt:k < s
                        · have q1:(k:Int) < (s:Int):=by omega
                          have ek:IntKind.i64.wrap ((k:Int) + 1) = ((k + 1:Nat):Int):=by have:=hs0.out; rw [IntKind.wrap_i64]; omega
                          replace ek:=hideit ek
                          replace hkt:=hideit hkt
                          go_upto_region 26 with (fail)
                          replace hP:=hideit hP.out.drew
                          replace hR:=hideit hR.out.drew
                          replace hE:=hideit (Ext.draw hE.out)
                          refine wp_region_lad (fun X=>Ext wr.drew X) [(false,0),(false,1),(false,2),(false,3),(false,4),(false,5),(false,6),(false,7),(false,8),(false,9)] (by kernel_rfl) (by kernel_rfl) (by decide +kernel) (by decide +kernel) (by decide +kernel) (by decide +kernel) (Ext.refl _) ?_
                          refine wpX_f _ (.pointer (some ⟨p,0,none⟩)) rfl rfl (fun X _=>by simp [go_sem]) ?_
                          simp only [List.getElem_toArray,List.getElem_cons_zero,Act.put,List.setIfInBounds_toArray,List.set_cons_zero,List.set_cons_succ]
                          refine wpX_f _ (.pointer (some ⟨p,0,none⟩)) rfl rfl (fun X _=>by simp [go_sem]) ?_
                          simp only [jw,jz,kj,jk,jq,jv,jy]
                          refine wpX_f _ (.pointer (some ⟨p,8,none⟩)) rfl rfl (fun X _=>by simp [go_sem]) ?_
                          simp only [jw,jz,kj,jk,jq,jv,jy]
                          refine wpX_f _ (.int .i64 (k:Int)) rfl rfl (fun X hX=>by have m16:X.cell? ⟨p,8,none⟩ = some (.int .i64 (k:Int)):=(hP.out.carry hX).1 8 (by decide); simp [go_sem,m16]) ?_
                          simp only [jw,jz,kj,jk,jq,jv,jy]
                          refine wpX_f _ (.pointer (some ⟨p,0,none⟩)) rfl rfl (fun X _=>by simp [go_sem]) ?_
                          simp only [jw,jz,kj,jk,jq,jv,jy]
                          refine wpX_f _ (.pointer (some ⟨p,0,none⟩)) rfl rfl (fun X _=>by simp [go_sem]) ?_
                          simp only [jw,jz,kj,jk,jq,jv,jy]
                          refine wpX_f _ (.pointer (some ⟨p,3,none⟩)) rfl rfl (fun X _=>by simp [go_sem]) ?_
                          simp only [jw,jz,kj,jk,jq,jv,jy]
                          refine wpX_f _ (.int .i64 (q:Int)) rfl rfl (fun X hX=>by have m17:X.cell? ⟨p,3,none⟩ = some (.int .i64 (q:Int)):=(hP.out.carry hX).1 3 (by decide); simp [go_sem,m17]) ?_
                          simp only [jw,jz,kj,jk,jq,jv,jy]
                          refine wpX_f _ (.int .i64 (s:Int)) rfl rfl (fun X _=>by simp [go_sem,zq.out.1,zq.out.2]) ?_
                          simp only [jw,jz,kj,jk,jq,jv,jy]
                          refine wpX_f _ (.bool true) rfl rfl (fun X _=>by simp [go_sem,q1]) ?_
                          simp only [jw,jz,kj,jk,jq,jv,jy]
                          refine wpX_nil ?_
                          clear q1
                          go_upto_region 27 with (fail)
                          refine wp_region_lit ?_
                          refine xm [some (.pointer (some ⟨p,0,none⟩))] (by kernel_rfl) (by simp [xr,go_sem]) ?_
                          simp only [xw,p0,p1,p2,p3]
                          refine wpList_call rfl (by simp [go_sem]) ((rmem_page y1.heap.size p T M a q b (q * a) i e g k s (flA s a T F i e g k) wr.drew hP.out hR.out hpb.out hbB.out (Below.size hE.out) hq.out hs0.out het.out hkt.out hgt.out hsm.out.2.1 hkz.out).mono ?_)
                          rintro e y5 ⟨rfl,hP5,hR5,hB5⟩
                          refine ⟨_,rfl,?_⟩
                          simp only [jk,jq,jv,jy]
                          replace hP:=hideit hP5
                          replace hR:=hideit hR5
                          replace hE:=hideit (Below.trans hE.out hB5)
                          clear hP5 hR5 hB5
                          go_upto_region 28 with (fail)
                          refine wp_region_lit ?_
                          have m18:y5.cell? ⟨p,8,none⟩ = some (.int .i64 (k:Int)):=hP.out.1 8 (by decide)
                          refine xm [some (.pointer (some ⟨p,0,none⟩)),some (.pointer (some ⟨p,0,none⟩)),some (.pointer (some ⟨p,8,none⟩)),some (.int .i64 (k:Int)),some (.int .i64 ((k + 1:Nat):Int)),some (.pointer (some ⟨p,0,none⟩)),some (.pointer (some ⟨p,8,none⟩))] (by kernel_rfl) (by simp [xr,go_sem,m18,ek.out]) ?_
                          simp only [xw,p0,p1,p2,p3]
                          clear m18
                          have M0:y5.cell? ⟨p,8,none⟩ = some (.int .i64 (k:Int)):=hP.out.1 8 (by decide)
                          have M1:y5.frozen? ⟨p,8,none⟩ = false:=hP.out.2.1 8 (by decide)
                          have N0:Hid (RowAt p 9 (rmV T M a q b (q * a) i e g (k + 1:Nat)) (y5.setCell ⟨p,8,none⟩ (.int .i64 ((k + 1:Nat):Int)))):=(hP.out.set 8 (.int .i64 ((k + 1:Nat):Int))).congr fun j hj=>rm8 ((k + 1:Nat)) j hj
                          have N1:=hideit (hR.out.other ⟨p,8,none⟩ (.int .i64 ((k + 1:Nat):Int)) hpb.out)
                          have NE:=hideit (hE.out.setCell (p:=⟨p,8,none⟩) hpB.out (.int .i64 ((k + 1:Nat):Int)))
                          refine xst rfl (y5.setCell ⟨p,8,none⟩ (.int .i64 ((k + 1:Nat):Int))) (by simp [go_sem,M0,M1]) ?_
                          simp only [Act.put]
                          generalize y5.setCell ⟨p,8,none⟩ (.int .i64 ((k + 1:Nat):Int)) = k19 at N0 N1 NE ⊢
                          replace hP:=N0
                          replace hR:=N1
                          replace hE:=NE
                          clear M0 M1 N0 N1 NE
                          go_wp2
                          have cm:cN k19 p 8 = k + 1:=cN_of (hP.out.1 8 (by decide))
                          rw [cm]
                          refine ⟨⟨k + 1,hkt.out,fun h1 h2=>Nat.le_succ_of_le (hkz.out h1 h2),hP.out,?_,hE.out⟩,by have:=hkt.out; have:=hs0.out; omega⟩
                          rw [fl_step hs0.out.1 hkt.out het.out hkz.out huF.out]
                          exact hR.out
                        · obtain rfl:k = s:=by omega
                          have zq2:(q:Int) / 4 = (k:Int) ∧ IntKind.i64.wrap (k:Int) = (k:Int):=zq.out
                          go_upto_region 26 with (fail)
                          replace hP:=hideit hP.out.drew
                          replace hR:=hideit hR.out.drew
                          replace hE:=hideit (Ext.draw hE.out)
                          refine wp_region_lad (fun X=>Ext wr.drew X) [(false,0),(false,1),(false,2),(false,3),(false,4),(false,5),(false,6),(false,7),(false,8),(false,9)] (by kernel_rfl) (by kernel_rfl) (by decide +kernel) (by decide +kernel) (by decide +kernel) (by decide +kernel) (Ext.refl _) ?_
                          refine wpX_f _ (.pointer (some ⟨p,0,none⟩)) rfl rfl (fun X _=>by simp [go_sem]) ?_
                          simp only [List.getElem_toArray,List.getElem_cons_zero,Act.put,List.setIfInBounds_toArray,List.set_cons_zero,List.set_cons_succ]
                          refine wpX_f _ (.pointer (some ⟨p,0,none⟩)) rfl rfl (fun X _=>by simp [go_sem]) ?_
                          simp only [jw,jz,kj,jk,jq,jv,jy]
                          refine wpX_f _ (.pointer (some ⟨p,8,none⟩)) rfl rfl (fun X _=>by simp [go_sem]) ?_
                          simp only [jw,jz,kj,jk,jq,jv,jy]
                          refine wpX_f _ (.int .i64 (k:Int)) rfl rfl (fun X hX=>by have m16:X.cell? ⟨p,8,none⟩ = some (.int .i64 (k:Int)):=(hP.out.carry hX).1 8 (by decide); simp [go_sem,m16]) ?_
                          simp only [jw,jz,kj,jk,jq,jv,jy]
                          refine wpX_f _ (.pointer (some ⟨p,0,none⟩)) rfl rfl (fun X _=>by simp [go_sem]) ?_
                          simp only [jw,jz,kj,jk,jq,jv,jy]
                          refine wpX_f _ (.pointer (some ⟨p,0,none⟩)) rfl rfl (fun X _=>by simp [go_sem]) ?_
                          simp only [jw,jz,kj,jk,jq,jv,jy]
                          refine wpX_f _ (.pointer (some ⟨p,3,none⟩)) rfl rfl (fun X _=>by simp [go_sem]) ?_
                          simp only [jw,jz,kj,jk,jq,jv,jy]
                          refine wpX_f _ (.int .i64 (q:Int)) rfl rfl (fun X hX=>by have m17:X.cell? ⟨p,3,none⟩ = some (.int .i64 (q:Int)):=(hP.out.carry hX).1 3 (by decide); simp [go_sem,m17]) ?_
                          simp only [jw,jz,kj,jk,jq,jv,jy]
                          refine wpX_f _ (.int .i64 (k:Int)) rfl rfl (fun X _=>by simp [go_sem,zq2.1,zq2.2]) ?_
                          simp only [jw,jz,kj,jk,jq,jv,jy]
                          refine wpX_f _ (.bool false) rfl rfl (fun X _=>by simp [go_sem]) ?_
                          simp only [jw,jz,kj,jk,jq,jv,jy]
                          refine wpX_nil ?_
                          go_upto_region 22 with (fail)
                          refine wp_region_lit ?_
                          have m18:wr.drew.cell? ⟨p,7,none⟩ = some (.int .i64 (g:Int)):=hP.out.1 7 (by decide)
                          refine xm [some (.pointer (some ⟨p,0,none⟩)),some (.pointer (some ⟨p,0,none⟩)),some (.pointer (some ⟨p,7,none⟩)),some (.int .i64 (g:Int)),some (.int .i64 ((g + 1:Nat):Int)),some (.pointer (some ⟨p,0,none⟩)),some (.pointer (some ⟨p,7,none⟩))] (by kernel_rfl) (by simp [xr,go_sem,m18,eg.out]) ?_
                          simp only [xw,p0,p1,p2,p3]
                          clear m18
                          have M0:wr.drew.cell? ⟨p,7,none⟩ = some (.int .i64 (g:Int)):=hP.out.1 7 (by decide)
                          have M1:wr.drew.frozen? ⟨p,7,none⟩ = false:=hP.out.2.1 7 (by decide)
                          have N0:Hid (RowAt p 9 (rmV T M a q b (q * a) i e (g + 1:Nat) k) (wr.drew.setCell ⟨p,7,none⟩ (.int .i64 ((g + 1:Nat):Int)))):=(hP.out.set 7 (.int .i64 ((g + 1:Nat):Int))).congr fun j hj=>rm7 ((g + 1:Nat)) j hj
                          have N1:=hideit (hR.out.other ⟨p,7,none⟩ (.int .i64 ((g + 1:Nat):Int)) hpb.out)
                          have NE:=hideit (hE.out.setCell (p:=⟨p,7,none⟩) hpB.out (.int .i64 ((g + 1:Nat):Int)))
                          refine xst rfl (wr.drew.setCell ⟨p,7,none⟩ (.int .i64 ((g + 1:Nat):Int))) (by simp [go_sem,M0,M1]) ?_
                          simp only [Act.put]
                          generalize wr.drew.setCell ⟨p,7,none⟩ (.int .i64 ((g + 1:Nat):Int)) = k19 at N0 N1 NE ⊢
                          replace hP:=N0
                          replace hR:=N1
                          replace hE:=NE
                          clear M0 M1 N0 N1 NE
                          go_wp2
                          have cm:cN k19 p 7 = g + 1:=cN_of (hP.out.1 7 (by decide))
                          rw [cm]
                          refine ⟨⟨g + 1,k,hgt.out,hP.out,?_,hE.out⟩,by have:=hgt.out; have:=hsm.out; omega⟩
                          rw [hF.out] at hR
                          exact hR.out
                  · have b1:Hid (¬ i = 0):=hi0
                    have hnz:Hid (i = 0 → ¬ e = 0):=fun h=>absurd h hi0
                    clear hi0
                    go_upto_region 24 with (fail)
                    refine wp_region_lit ?_
                    have m14:k13.cell? ⟨p,5,none⟩ = some (.int .i64 (i:Int)):=hP.out.1 5 (by decide)
                    refine xm [some (.pointer (some ⟨p,0,none⟩)),some (.pointer (some ⟨p,0,none⟩)),some (.pointer (some ⟨p,5,none⟩)),some (.int .i64 (i:Int)),some (.bool false),some (.bool false),none,none,none,none,none,some (.bool false)] (by kernel_rfl) (by simp [xr,go_sem,m14,b1.out]) ?_
                    simp only [xw,p0,p1,p2,p3]
                    clear m14
                    go_upto_region 26 with (fail)
                    go_loopw [159] (fun _ X=>∃ k:Nat,k ≤ s ∧ (i = 0 → e = 0 → 2 ≤ k) ∧ RowAt p 9 (rmV T M a q b (q * a) i e g k) X ∧ RowAt b (128 * (q * a)) (wv (flA s a T F i e g k)) X ∧ Ext y1 X) (fun _ X=>200 - cN X p 8)
                    case atStart=>exact ⟨0,by have:=hs0.out; omega,fun h1 h2=>absurd h2 (hnz.out h1),hP.out,hR.out,hE.out⟩
                    case round=>
                      clear hP hR hE
                      obtain ⟨k,hk2,hkz,hP,hR,hE⟩:=hrel
                      have cm:cN wr p 8 = k:=cN_of (hP.1 8 (by decide))
                      rw [cm]
                      clear cm
                      replace hP:=hideit hP
                      replace hR:=hideit hR
                      replace hE:=hideit hE
                      replace hkz:=hideit hkz
                      have zq:(q:Int) / 4 = (s:Int) ∧ IntKind.i64.wrap (s:Int) = (s:Int):=by have:=hq.out; have:=hs0.out; exact ⟨by omega,by rw [IntKind.wrap_i64]; omega⟩
                      replace zq:=hideit zq
                      by_cases hkt:k < s
                      · have q1:(k:Int) < (s:Int):=by omega
                        have ek:IntKind.i64.wrap ((k:Int) + 1) = ((k + 1:Nat):Int):=by have:=hs0.out; rw [IntKind.wrap_i64]; omega
                        replace ek:=hideit ek
                        replace hkt:=hideit hkt
                        go_upto_region 26 with (fail)
                        replace hP:=hideit hP.out.drew
                        replace hR:=hideit hR.out.drew
                        replace hE:=hideit (Ext.draw hE.out)
                        refine wp_region_lad (fun X=>Ext wr.drew X) [(false,0),(false,1),(false,2),(false,3),(false,4),(false,5),(false,6),(false,7),(false,8),(false,9)] (by kernel_rfl) (by kernel_rfl) (by decide +kernel) (by decide +kernel) (by decide +kernel) (by decide +kernel) (Ext.refl _) ?_
                        refine wpX_f _ (.pointer (some ⟨p,0,none⟩)) rfl rfl (fun X _=>by simp [go_sem]) ?_
                        simp only [List.getElem_toArray,List.getElem_cons_zero,Act.put,List.setIfInBounds_toArray,List.set_cons_zero,List.set_cons_succ]
                        refine wpX_f _ (.pointer (some ⟨p,0,none⟩)) rfl rfl (fun X _=>by simp [go_sem]) ?_
                        simp only [jw,jz,kj,jk,jq,jv,jy]
                        refine wpX_f _ (.pointer (some ⟨p,8,none⟩)) rfl rfl (fun X _=>by simp [go_sem]) ?_
                        simp only [jw,jz,kj,jk,jq,jv,jy]
                        refine wpX_f _ (.int .i64 (k:Int)) rfl rfl (fun X hX=>by have m15:X.cell? ⟨p,8,none⟩ = some (.int .i64 (k:Int)):=(hP.out.carry hX).1 8 (by decide); simp [go_sem,m15]) ?_
                        simp only [jw,jz,kj,jk,jq,jv,jy]
                        refine wpX_f _ (.pointer (some ⟨p,0,none⟩)) rfl rfl (fun X _=>by simp [go_sem]) ?_
                        simp only [jw,jz,kj,jk,jq,jv,jy]
                        refine wpX_f _ (.pointer (some ⟨p,0,none⟩)) rfl rfl (fun X _=>by simp [go_sem]) ?_
                        simp only [jw,jz,kj,jk,jq,jv,jy]
                        refine wpX_f _ (.pointer (some ⟨p,3,none⟩)) rfl rfl (fun X _=>by simp [go_sem]) ?_
                        simp only [jw,jz,kj,jk,jq,jv,jy]
                        refine wpX_f _ (.int .i64 (q:Int)) rfl rfl (fun X hX=>by have m16:X.cell? ⟨p,3,none⟩ = some (.int .i64 (q:Int)):=(hP.out.carry hX).1 3 (by decide); simp [go_sem,m16]) ?_
                        simp only [jw,jz,kj,jk,jq,jv,jy]
                        refine wpX_f _ (.int .i64 (s:Int)) rfl rfl (fun X _=>by simp [go_sem,zq.out.1,zq.out.2]) ?_
                        simp only [jw,jz,kj,jk,jq,jv,jy]
                        refine wpX_f _ (.bool true) rfl rfl (fun X _=>by simp [go_sem,q1]) ?_
                        simp only [jw,jz,kj,jk,jq,jv,jy]
                        refine wpX_nil ?_
                        clear q1
                        go_upto_region 27 with (fail)
                        refine wp_region_lit ?_
                        refine xm [some (.pointer (some ⟨p,0,none⟩))] (by kernel_rfl) (by simp [xr,go_sem]) ?_
                        simp only [xw,p0,p1,p2,p3]
                        refine wpList_call rfl (by simp [go_sem]) ((rmem_page y1.heap.size p T M a q b (q * a) i e g k s (flA s a T F i e g k) wr.drew hP.out hR.out hpb.out hbB.out (Below.size hE.out) hq.out hs0.out het.out hkt.out hgt.out hsm.out.2.1 hkz.out).mono ?_)
                        rintro e y5 ⟨rfl,hP5,hR5,hB5⟩
                        refine ⟨_,rfl,?_⟩
                        simp only [jk,jq,jv,jy]
                        replace hP:=hideit hP5
                        replace hR:=hideit hR5
                        replace hE:=hideit (Below.trans hE.out hB5)
                        clear hP5 hR5 hB5
                        go_upto_region 28 with (fail)
                        refine wp_region_lit ?_
                        have m17:y5.cell? ⟨p,8,none⟩ = some (.int .i64 (k:Int)):=hP.out.1 8 (by decide)
                        refine xm [some (.pointer (some ⟨p,0,none⟩)),some (.pointer (some ⟨p,0,none⟩)),some (.pointer (some ⟨p,8,none⟩)),some (.int .i64 (k:Int)),some (.int .i64 ((k + 1:Nat):Int)),some (.pointer (some ⟨p,0,none⟩)),some (.pointer (some ⟨p,8,none⟩))] (by kernel_rfl) (by simp [xr,go_sem,m17,ek.out]) ?_
                        simp only [xw,p0,p1,p2,p3]
                        clear m17
                        have M0:y5.cell? ⟨p,8,none⟩ = some (.int .i64 (k:Int)):=hP.out.1 8 (by decide)
                        have M1:y5.frozen? ⟨p,8,none⟩ = false:=hP.out.2.1 8 (by decide)
                        have N0:Hid (RowAt p 9 (rmV T M a q b (q * a) i e g (k + 1:Nat)) (y5.setCell ⟨p,8,none⟩ (.int .i64 ((k + 1:Nat):Int)))):=(hP.out.set 8 (.int .i64 ((k + 1:Nat):Int))).congr fun j hj=>rm8 ((k + 1:Nat)) j hj
                        have N1:=hideit (hR.out.other ⟨p,8,none⟩ (.int .i64 ((k + 1:Nat):Int)) hpb.out)
                        have NE:=hideit (hE.out.setCell (p:=⟨p,8,none⟩) hpB.out (.int .i64 ((k + 1:Nat):Int)))
                        refine xst rfl (y5.setCell ⟨p,8,none⟩ (.int .i64 ((k + 1:Nat):Int))) (by simp [go_sem,M0,M1]) ?_
                        simp only [Act.put]
                        generalize y5.setCell ⟨p,8,none⟩ (.int .i64 ((k + 1:Nat):Int)) = k18 at N0 N1 NE ⊢
                        replace hP:=N0
                        replace hR:=N1
                        replace hE:=NE
                        clear M0 M1 N0 N1 NE
                        go_wp2
                        have cm:cN k18 p 8 = k + 1:=cN_of (hP.out.1 8 (by decide))
                        rw [cm]
                        refine ⟨⟨k + 1,hkt.out,fun h1 h2=>Nat.le_succ_of_le (hkz.out h1 h2),hP.out,?_,hE.out⟩,by have:=hkt.out; have:=hs0.out; omega⟩
                        rw [fl_step hs0.out.1 hkt.out het.out hkz.out huF.out]
                        exact hR.out
                      · obtain rfl:k = s:=by omega
                        have zq2:(q:Int) / 4 = (k:Int) ∧ IntKind.i64.wrap (k:Int) = (k:Int):=zq.out
                        go_upto_region 26 with (fail)
                        replace hP:=hideit hP.out.drew
                        replace hR:=hideit hR.out.drew
                        replace hE:=hideit (Ext.draw hE.out)
                        refine wp_region_lad (fun X=>Ext wr.drew X) [(false,0),(false,1),(false,2),(false,3),(false,4),(false,5),(false,6),(false,7),(false,8),(false,9)] (by kernel_rfl) (by kernel_rfl) (by decide +kernel) (by decide +kernel) (by decide +kernel) (by decide +kernel) (Ext.refl _) ?_
                        refine wpX_f _ (.pointer (some ⟨p,0,none⟩)) rfl rfl (fun X _=>by simp [go_sem]) ?_
                        simp only [List.getElem_toArray,List.getElem_cons_zero,Act.put,List.setIfInBounds_toArray,List.set_cons_zero,List.set_cons_succ]
                        refine wpX_f _ (.pointer (some ⟨p,0,none⟩)) rfl rfl (fun X _=>by simp [go_sem]) ?_
                        simp only [jw,jz,kj,jk,jq,jv,jy]
                        refine wpX_f _ (.pointer (some ⟨p,8,none⟩)) rfl rfl (fun X _=>by simp [go_sem]) ?_
                        simp only [jw,jz,kj,jk,jq,jv,jy]
                        refine wpX_f _ (.int .i64 (k:Int)) rfl rfl (fun X hX=>by have m15:X.cell? ⟨p,8,none⟩ = some (.int .i64 (k:Int)):=(hP.out.carry hX).1 8 (by decide); simp [go_sem,m15]) ?_
                        simp only [jw,jz,kj,jk,jq,jv,jy]
                        refine wpX_f _ (.pointer (some ⟨p,0,none⟩)) rfl rfl (fun X _=>by simp [go_sem]) ?_
                        simp only [jw,jz,kj,jk,jq,jv,jy]
                        refine wpX_f _ (.pointer (some ⟨p,0,none⟩)) rfl rfl (fun X _=>by simp [go_sem]) ?_
                        simp only [jw,jz,kj,jk,jq,jv,jy]
                        refine wpX_f _ (.pointer (some ⟨p,3,none⟩)) rfl rfl (fun X _=>by simp [go_sem]) ?_
                        simp only [jw,jz,kj,jk,jq,jv,jy]
                        refine wpX_f _ (.int .i64 (q:Int)) rfl rfl (fun X hX=>by have m16:X.cell? ⟨p,3,none⟩ = some (.int .i64 (q:Int)):=(hP.out.carry hX).1 3 (by decide); simp [go_sem,m16]) ?_
                        simp only [jw,jz,kj,jk,jq,jv,jy]
                        refine wpX_f _ (.int .i64 (k:Int)) rfl rfl (fun X _=>by simp [go_sem,zq2.1,zq2.2]) ?_
                        simp only [jw,jz,kj,jk,jq,jv,jy]
                        refine wpX_f _ (.bool false) rfl rfl (fun X _=>by simp [go_sem]) ?_
                        simp only [jw,jz,kj,jk,jq,jv,jy]
                        refine wpX_nil ?_
                        go_upto_region 22 with (fail)
                        refine wp_region_lit ?_
                        have m17:wr.drew.cell? ⟨p,7,none⟩ = some (.int .i64 (g:Int)):=hP.out.1 7 (by decide)
                        refine xm [some (.pointer (some ⟨p,0,none⟩)),some (.pointer (some ⟨p,0,none⟩)),some (.pointer (some ⟨p,7,none⟩)),some (.int .i64 (g:Int)),some (.int .i64 ((g + 1:Nat):Int)),some (.pointer (some ⟨p,0,none⟩)),some (.pointer (some ⟨p,7,none⟩))] (by kernel_rfl) (by simp [xr,go_sem,m17,eg.out]) ?_
                        simp only [xw,p0,p1,p2,p3]
                        clear m17
                        have M0:wr.drew.cell? ⟨p,7,none⟩ = some (.int .i64 (g:Int)):=hP.out.1 7 (by decide)
                        have M1:wr.drew.frozen? ⟨p,7,none⟩ = false:=hP.out.2.1 7 (by decide)
                        have N0:Hid (RowAt p 9 (rmV T M a q b (q * a) i e (g + 1:Nat) k) (wr.drew.setCell ⟨p,7,none⟩ (.int .i64 ((g + 1:Nat):Int)))):=(hP.out.set 7 (.int .i64 ((g + 1:Nat):Int))).congr fun j hj=>rm7 ((g + 1:Nat)) j hj
                        have N1:=hideit (hR.out.other ⟨p,7,none⟩ (.int .i64 ((g + 1:Nat):Int)) hpb.out)
                        have NE:=hideit (hE.out.setCell (p:=⟨p,7,none⟩) hpB.out (.int .i64 ((g + 1:Nat):Int)))
                        refine xst rfl (wr.drew.setCell ⟨p,7,none⟩ (.int .i64 ((g + 1:Nat):Int))) (by simp [go_sem,M0,M1]) ?_
                        simp only [Act.put]
                        generalize wr.drew.setCell ⟨p,7,none⟩ (.int .i64 ((g + 1:Nat):Int)) = k18 at N0 N1 NE ⊢
                        replace hP:=N0
                        replace hR:=N1
                        replace hE:=NE
                        clear M0 M1 N0 N1 NE
                        go_wp2
                        have cm:cN k18 p 7 = g + 1:=cN_of (hP.out.1 7 (by decide))
                        rw [cm]
                        refine ⟨⟨g + 1,k,hgt.out,hP.out,?_,hE.out⟩,by have:=hgt.out; have:=hsm.out; omega⟩
                        rw [hF.out] at hR
                        exact hR.out
                · obtain rfl:g = a:=by omega
                  go_upto_region 21 with (fail)
                  replace hP:=hideit hP.out.drew
                  replace hR:=hideit hR.out.drew
                  replace H0:=hideit H0.out.drew
                  replace hE:=hideit (Ext.draw hE.out)
                  refine wp_region_lad (fun X=>Ext wr.drew X) [(false,0),(false,1),(false,2),(false,3),(false,4),(false,5),(false,6)] (by kernel_rfl) (by kernel_rfl) (by decide +kernel) (by decide +kernel) (by decide +kernel) (by decide +kernel) (Ext.refl _) ?_
                  refine wpX_f _ (.pointer (some ⟨p,0,none⟩)) rfl rfl (fun X _=>by simp [go_sem]) ?_
                  simp only [List.getElem_toArray,List.getElem_cons_zero,Act.put,List.setIfInBounds_toArray,List.set_cons_zero,List.set_cons_succ]
                  refine wpX_f _ (.pointer (some ⟨p,0,none⟩)) rfl rfl (fun X _=>by simp [go_sem]) ?_
                  simp only [jw,jz,kj,jk,jq,jv,jy]
                  refine wpX_f _ (.pointer (some ⟨p,7,none⟩)) rfl rfl (fun X _=>by simp [go_sem]) ?_
                  simp only [jw,jz,kj,jk,jq,jv,jy]
                  refine wpX_f _ (.int .i64 (g:Int)) rfl rfl (fun X hX=>by have m11:X.cell? ⟨p,7,none⟩ = some (.int .i64 (g:Int)):=(hP.out.carry hX).1 7 (by decide); simp [go_sem,m11]) ?_
                  simp only [jw,jz,kj,jk,jq,jv,jy]
                  refine wpX_f _ (.pointer (some ⟨c,2,none⟩)) rfl rfl (fun X _=>by simp [go_sem]) ?_
                  simp only [jw,jz,kj,jk,jq,jv,jy]
                  refine wpX_f _ (.int .i64 (g:Int)) rfl rfl (fun X hX=>by have m12:X.cell? ⟨c,2,none⟩ = some (.int .i64 (g:Int)):=(H0.out.carry hX).1 2 (by decide); simp [go_sem,m12]) ?_
                  simp only [jw,jz,kj,jk,jq,jv,jy]
                  refine wpX_f _ (.bool false) rfl rfl (fun X _=>by simp [go_sem]) ?_
                  simp only [jw,jz,kj,jk,jq,jv,jy]
                  refine wpX_nil ?_
                  clear H0
                  go_upto_region 19 with (fail)
                  refine wp_region_lit ?_
                  have m13:wr.drew.cell? ⟨p,6,none⟩ = some (.int .i64 (e:Int)):=hP.out.1 6 (by decide)
                  refine xm [some (.pointer (some ⟨p,0,none⟩)),some (.pointer (some ⟨p,0,none⟩)),some (.pointer (some ⟨p,6,none⟩)),some (.int .i64 (e:Int)),some (.int .i64 ((e + 1:Nat):Int)),some (.pointer (some ⟨p,0,none⟩)),some (.pointer (some ⟨p,6,none⟩))] (by kernel_rfl) (by simp [xr,go_sem,m13,ee.out]) ?_
                  simp only [xw,p0,p1,p2,p3]
                  clear m13
                  have M0:wr.drew.cell? ⟨p,6,none⟩ = some (.int .i64 (e:Int)):=hP.out.1 6 (by decide)
                  have M1:wr.drew.frozen? ⟨p,6,none⟩ = false:=hP.out.2.1 6 (by decide)
                  have N0:Hid (RowAt p 9 (rmV T M g q b (q * g) i (e + 1:Nat) g k2) (wr.drew.setCell ⟨p,6,none⟩ (.int .i64 ((e + 1:Nat):Int)))):=(hP.out.set 6 (.int .i64 ((e + 1:Nat):Int))).congr fun j hj=>rm6 ((e + 1:Nat)) j hj
                  have N1:=hideit (hR.out.other ⟨p,6,none⟩ (.int .i64 ((e + 1:Nat):Int)) hpb.out)
                  have NE:=hideit (hE.out.setCell (p:=⟨p,6,none⟩) hpB.out (.int .i64 ((e + 1:Nat):Int)))
                  refine xst rfl (wr.drew.setCell ⟨p,6,none⟩ (.int .i64 ((e + 1:Nat):Int))) (by simp [go_sem,M0,M1]) ?_
                  simp only [Act.put]
                  generalize wr.drew.setCell ⟨p,6,none⟩ (.int .i64 ((e + 1:Nat):Int)) = k14 at N0 N1 NE ⊢
                  replace hP:=N0
                  replace hR:=N1
                  replace hE:=NE
                  clear M0 M1 N0 N1 NE
                  go_wp2
                  have cm:cN k14 p 6 = e + 1:=cN_of (hP.out.1 6 (by decide))
                  rw [cm]
                  exact ⟨⟨e + 1,g,k2,het.out,hP.out,hR.out,hE.out⟩,by have:=het.out; omega⟩
            · obtain rfl:e = 4:=by omega
              go_upto_region 18 with (fail)
              refine wp_region_lit ?_
              have m9:wr.cell? ⟨p,6,none⟩ = some (.int .i64 ((4:Nat):Int)):=hP.out.1 6 (by decide)
              refine xm [some (.pointer (some ⟨p,0,none⟩)),some (.pointer (some ⟨p,0,none⟩)),some (.pointer (some ⟨p,6,none⟩)),some (.int .i64 ((4:Nat):Int)),some (.bool false)] (by kernel_rfl) (by simp [xr,go_sem,m9]) ?_
              simp only [xw,p0,p1,p2,p3]
              clear m9
              go_upto_region 16 with (fail)
              refine wp_region_lit ?_
              have m10:wr.cell? ⟨p,5,none⟩ = some (.int .i64 (i:Int)):=hP.out.1 5 (by decide)
              refine xm [some (.pointer (some ⟨p,0,none⟩)),some (.pointer (some ⟨p,0,none⟩)),some (.pointer (some ⟨p,5,none⟩)),some (.int .i64 (i:Int)),some (.int .i64 ((i + 1:Nat):Int)),some (.pointer (some ⟨p,0,none⟩)),some (.pointer (some ⟨p,5,none⟩))] (by kernel_rfl) (by simp [xr,go_sem,m10,ei.out]) ?_
              simp only [xw,p0,p1,p2,p3]
              clear m10
              have M0:wr.cell? ⟨p,5,none⟩ = some (.int .i64 (i:Int)):=hP.out.1 5 (by decide)
              have M1:wr.frozen? ⟨p,5,none⟩ = false:=hP.out.2.1 5 (by decide)
              have N0:Hid (RowAt p 9 (rmV T M a q b (q * a) (i + 1:Nat) (4:Nat) g1 k1) (wr.setCell ⟨p,5,none⟩ (.int .i64 ((i + 1:Nat):Int)))):=(hP.out.set 5 (.int .i64 ((i + 1:Nat):Int))).congr fun j hj=>rm5 ((i + 1:Nat)) j hj
              have N1:=hideit (hR.out.other ⟨p,5,none⟩ (.int .i64 ((i + 1:Nat):Int)) hpb.out)
              have NE:=hideit (hE.out.setCell (p:=⟨p,5,none⟩) hpB.out (.int .i64 ((i + 1:Nat):Int)))
              refine xst rfl (wr.setCell ⟨p,5,none⟩ (.int .i64 ((i + 1:Nat):Int))) (by simp [go_sem,M0,M1]) ?_
              simp only [Act.put]
              generalize wr.setCell ⟨p,5,none⟩ (.int .i64 ((i + 1:Nat):Int)) = k11 at N0 N1 NE ⊢
              replace hP:=N0
              replace hR:=N1
              replace hE:=NE
              clear M0 M1 N0 N1 NE
              go_wp2
              have cm:cN k11 p 5 = i + 1:=cN_of (hP.out.1 5 (by decide))
              rw [cm]
              exact ⟨⟨i + 1,4,g1,k1,hit.out,hP.out,hR.out,hE.out⟩,by have:=hit.out; have:=hsm.out; omega⟩
        · obtain rfl:T = i:=by omega
          go_upto_region 15 with (fail)
          replace hP:=hideit hP.out.drew
          replace hR:=hideit hR.out.drew
          replace H0:=hideit H0.out.drew
          replace hE:=hideit (Ext.draw hE.out)
          refine wp_region_lad (fun X=>Ext wr.drew X) [(false,0),(false,1),(false,2),(false,3),(false,4),(false,5),(false,6)] (by kernel_rfl) (by kernel_rfl) (by decide +kernel) (by decide +kernel) (by decide +kernel) (by decide +kernel) (Ext.refl _) ?_
          refine wpX_f _ (.pointer (some ⟨p,0,none⟩)) rfl rfl (fun X _=>by simp [go_sem]) ?_
          simp only [List.getElem_toArray,List.getElem_cons_zero,Act.put,List.setIfInBounds_toArray,List.set_cons_zero,List.set_cons_succ]
          refine wpX_f _ (.pointer (some ⟨p,0,none⟩)) rfl rfl (fun X _=>by simp [go_sem]) ?_
          simp only [jw,jz,kj,jk,jq,jv,jy]
          refine wpX_f _ (.pointer (some ⟨p,5,none⟩)) rfl rfl (fun X _=>by simp [go_sem]) ?_
          simp only [jw,jz,kj,jk,jq,jv,jy]
          refine wpX_f _ (.int .i64 (T:Int)) rfl rfl (fun X hX=>by have m9:X.cell? ⟨p,5,none⟩ = some (.int .i64 (T:Int)):=(hP.out.carry hX).1 5 (by decide); simp [go_sem,m9]) ?_
          simp only [jw,jz,kj,jk,jq,jv,jy]
          refine wpX_f _ (.pointer (some ⟨c,0,none⟩)) rfl rfl (fun X _=>by simp [go_sem]) ?_
          simp only [jw,jz,kj,jk,jq,jv,jy]
          refine wpX_f _ (.int .i64 (T:Int)) rfl rfl (fun X hX=>by have m10:X.cell? ⟨c,0,none⟩ = some (.int .i64 (T:Int)):=(H0.out.carry hX).1 0 (by decide); simp [go_sem,m10]) ?_
          simp only [jw,jz,kj,jk,jq,jv,jy]
          refine wpX_f _ (.bool false) rfl rfl (fun X _=>by simp [go_sem]) ?_
          simp only [jw,jz,kj,jk,jq,jv,jy]
          refine wpX_nil ?_
          clear H0
          obtain ⟨FF,hFF⟩:∃ F,F = paA s a T Z T:=⟨_,rfl⟩
          rw [← hFF] at hR
          replace hFF:=hideit hFF
          go_upto_region 29 with (fail)
          refine wp_region_lit ?_
          have A0:=hideit (RowAt.new wr.drew 128 (wv fun _=>0#64) 24)
          have XB:Ext wr.drew (wr.drew.alloc (.cells (row 128 (wv fun _=>0#64)).toArray 24)):=(Below.refl _ _).alloc (Nat.le_refl _) _
          have A1:=hideit (hP.out.alloc (.cells (row 128 (wv fun _=>0#64)).toArray 24))
          have A2:=hideit (hR.out.alloc (.cells (row 128 (wv fun _=>0#64)).toArray 24))
          have AE:=hideit (Below.alloc hE.out (Below.size hE.out) (.cells (row 128 (wv fun _=>0#64)).toArray 24))
          have AB:=hideit (Below.size hE.out)
          have D0:Hid (p ≠ wr.drew.heap.size):=Nat.ne_of_lt hP.out.2.2
          have D1:Hid (b ≠ wr.drew.heap.size):=Nat.ne_of_lt hR.out.2.2
          clear XB
          refine wpList_to rfl (.pointer (some ⟨wr.drew.heap.size,0,none⟩)) (wr.drew.alloc (.cells (row 128 (wv fun _=>0#64)).toArray 24)) (xalloc 24 _ rfl (zero31p _)) ?_
          simp only [jk,jq,jv,jy]
          generalize wr.drew.alloc (.cells (row 128 (wv fun _=>0#64)).toArray 24) = x12 at A0 A1 A2 AE ⊢
          obtain ⟨z11,ez11⟩:∃ b,b = wr.drew.heap.size:=⟨_,rfl⟩
          have ABz11:Hid (y1.heap.size ≤ z11):=by rw [ez11]; exact AB.out
          clear AB
          rw [← ez11] at A0 D0 D1 ⊢
          clear ez11
          have Hz11:=A0
          clear A0
          replace hP:=A1
          clear A1
          replace hR:=A2
          clear A2
          replace hE:=AE
          clear AE
          have Dz11_0:=D0
          clear D0
          have Dz11_1:=D1
          clear D1
          go_upto_region 30 with (fail)
          refine wp_region_lit ?_
          refine xm [some (.int .i64 0)] (by kernel_rfl) (by simp [xr,go_sem]) ?_
          simp only [xw,p0,p1,p2,p3]
          have hblB:=ABz11
          have hpbl:Hid (p ≠ z11):=hideit (Dz11_0.out)
          have hbbl:Hid (b ≠ z11):=hideit (Dz11_1.out)
          go_upto_region 31 with (fail)
          go_loopw [16] (fun v X=>∃ x:Nat,x ≤ a ∧ v = .int .i64 (x:Int) ∧ RowAt p 9 (rmV T M a q b (q * a) T e0 g0 k0) X ∧ RowAt b (128 * (q * a)) (wv FF) X ∧ RowAt z11 128 (wv (enA s FF x)) X ∧ Ext y1 X) (fun v _=>100 - (intOf v).toNat)
          case atStart=>exact ⟨0,Nat.zero_le _,rfl,hP.out,hR.out,Hz11.out,hE.out⟩
          case round=>
            clear hP hR Hz11 hE
            obtain ⟨x,hx,rfl,hP,hR,Hl,hE⟩:=hrel
            replace hP:=hideit hP
            replace hR:=hideit hR
            replace Hl:=hideit Hl
            replace hE:=hideit hE
            have H0:=hideit (H01.out.carry hE.out)
            by_cases hxt:x < a
            · have k1:(x:Int) < (a:Int):=by omega
              have ex:IntKind.i64.wrap ((x:Int) + 1) = ((x + 1:Nat):Int):=by have:=hsm.out; rw [IntKind.wrap_i64]; omega
              replace ex:=hideit ex
              obtain ⟨qx,hqx⟩:∃ z,z = q * x:=⟨_,rfl⟩
              have hqb:qx + q ≤ q * a:=by rw [hqx,← Nat.mul_succ]; exact Nat.mul_le_mul_left _ hxt
              have hNa:=hN.out
              have hN3:=hN2.out
              have z5:IntKind.i64.wrap ((q:Int) * (x:Int)) = (qx:Int):=by
                have e:(q:Int) * (x:Int) = (qx:Int):=by rw [hqx]; exact (Int.natCast_mul _ _).symm
                rw [e,IntKind.wrap_i64]; omega
              obtain ⟨q2,hq2⟩:∃ z,z = qx + q:=⟨_,rfl⟩
              obtain ⟨pg,hpg⟩:∃ z,z = q2 - 1:=⟨_,rfl⟩
              have z6:IntKind.i64.wrap ((qx:Int) + (q:Int)) = (q2:Int):=by rw [IntKind.wrap_i64]; omega
              have z7:IntKind.i64.wrap ((q2:Int) - 1) = (pg:Int):=by rw [IntKind.wrap_i64]; omega
              have hpgl:pg < q * a:=by omega
              have z8:(pg:Int) < (q:Int) * (a:Int):=by rw [show (q:Int) * (a:Int) = ((q * a:Nat):Int) from (Int.natCast_mul _ _).symm]; omega
              have epg:4 * s * x + (4 * s - 1) = pg:=by have:=hq.out; rw [← this,← hqx]; omega
              clear hNa hN3 hqb hq2 hpg hqx
              replace z5:=hideit z5
              replace z6:=hideit z6
              replace z7:=hideit z7
              replace z8:=hideit z8
              replace hpgl:=hideit hpgl
              replace epg:=hideit epg
              replace hxt:=hideit hxt
              go_upto_region 31 with (fail)
              refine wp_region_lit ?_
              have m13:wr.cell? ⟨c,2,none⟩ = some (.int .i64 (a:Int)):=H0.out.1 2 (by decide)
              refine xm [some (.int .i64 (x:Int)),some (.pointer (some ⟨c,2,none⟩)),some (.int .i64 (a:Int)),some (.bool true)] (by kernel_rfl) (by simp [xr,go_sem,m13,k1]) ?_
              simp only [xw,p0,p1,p2,p3]
              clear m13
              clear k1 H0
              go_upto_region 33 with (fail)
              refine wp_region_ladm Ext (fun X=>Ext wr X) (mkA wr.heap.size) [19] [] [(0,0),(0,1),(0,2),(0,3),(0,4),(0,5),(0,6),(0,7),(0,8),(0,9),(0,10),(0,11),(0,12),(0,13),(0,14),(0,15),(0,16),(0,17),(2,18),(1,19)] (by kernel_rfl) (by kernel_rfl) (by decide +kernel) (by decide +kernel) (by decide +kernel) (by decide +kernel) (mkA_cl _) (ext_clA wr) ((Ext.refl wr).draw) ?_
              refine wpQ_f _ (.pointer (some ⟨p,0,none⟩)) rfl rfl (fun X hX=>by simp [go_sem]) ?_
              simp only [List.getElem_toArray,List.getElem_cons_zero,Act.put,List.setIfInBounds_toArray,List.set_cons_zero,List.set_cons_succ]
              refine wpQ_f _ (.pointer (some ⟨p,0,none⟩)) rfl rfl (fun X hX=>by simp [go_sem]) ?_
              simp only [jw,jz,kj,jk,jq,jv,jy]
              refine wpQ_f _ (.pointer (some ⟨p,4,none⟩)) rfl rfl (fun X hX=>by simp [go_sem]) ?_
              simp only [jw,jz,kj,jk,jq,jv,jy]
              refine wpQ_f _ (.slice (some ⟨b,0,none⟩) (q * a) (q * a)) rfl rfl (fun X hX=>by have e:X.cell? ⟨p,4,none⟩ = some (.slice (some ⟨b,0,none⟩) (q * a) (q * a)):=(hP.out.carry hX).1 4 (by decide); simp [go_sem,e]) ?_
              simp only [jw,jz,kj,jk,jq,jv,jy]
              refine wpQ_f _ (.pointer (some ⟨p,0,none⟩)) rfl rfl (fun X hX=>by simp [go_sem]) ?_
              simp only [jw,jz,kj,jk,jq,jv,jy]
              refine wpQ_f _ (.pointer (some ⟨p,0,none⟩)) rfl rfl (fun X hX=>by simp [go_sem]) ?_
              simp only [jw,jz,kj,jk,jq,jv,jy]
              refine wpQ_f _ (.pointer (some ⟨p,3,none⟩)) rfl rfl (fun X hX=>by simp [go_sem]) ?_
              simp only [jw,jz,kj,jk,jq,jv,jy]
              refine wpQ_f _ (.int .i64 (q:Int)) rfl rfl (fun X hX=>by have e:X.cell? ⟨p,3,none⟩ = some (.int .i64 (q:Int)):=(hP.out.carry hX).1 3 (by decide); simp [go_sem,e]) ?_
              simp only [jw,jz,kj,jk,jq,jv,jy]
              refine wpQ_f _ (.int .i64 (x:Int)) rfl rfl (fun X hX=>by simp [go_sem]) ?_
              simp only [jw,jz,kj,jk,jq,jv,jy]
              refine wpQ_f _ (.int .i64 (qx:Int)) rfl rfl (fun X hX=>by simp [go_sem,z5.out]) ?_
              simp only [jw,jz,kj,jk,jq,jv,jy]
              refine wpQ_f _ (.pointer (some ⟨p,0,none⟩)) rfl rfl (fun X hX=>by simp [go_sem]) ?_
              simp only [jw,jz,kj,jk,jq,jv,jy]
              refine wpQ_f _ (.pointer (some ⟨p,0,none⟩)) rfl rfl (fun X hX=>by simp [go_sem]) ?_
              simp only [jw,jz,kj,jk,jq,jv,jy]
              refine wpQ_f _ (.pointer (some ⟨p,3,none⟩)) rfl rfl (fun X hX=>by simp [go_sem]) ?_
              simp only [jw,jz,kj,jk,jq,jv,jy]
              refine wpQ_f _ (.int .i64 (q:Int)) rfl rfl (fun X hX=>by have e:X.cell? ⟨p,3,none⟩ = some (.int .i64 (q:Int)):=(hP.out.carry hX).1 3 (by decide); simp [go_sem,e]) ?_
              simp only [jw,jz,kj,jk,jq,jv,jy]
              refine wpQ_f _ (.int .i64 (q2:Int)) rfl rfl (fun X hX=>by simp [go_sem,z6.out]) ?_
              simp only [jw,jz,kj,jk,jq,jv,jy]
              refine wpQ_f _ (.int .i64 (pg:Int)) rfl rfl (fun X hX=>by simp [go_sem,z7.out]) ?_
              simp only [jw,jz,kj,jk,jq,jv,jy]
              refine wpQ_f _ (.pointer (some ⟨b,pg * 128,none⟩)) rfl rfl (fun X hX=>by simp [go_sem,z8.out,add00]) ?_
              simp only [jw,jz,kj,jk,jq,jv,jy]
              refine wpQ_f _ (.agg (row 128 (wv (pgA FF pg))).toArray) rfl rfl (fun X hX=>xload 24 (.tmp 197) rfl b (pg * 128) 128 _ rfl (rm_range (hR.out.carry hX) pg hpgl.out) Tryd.underlying24 rfl infoPg) ?_
              simp only [jw,jz,kj,jk,jq,jv,jy]
              refine wpQ_m _ rfl rfl (fun X hX=>⟨.pointer (some ⟨X.heap.size,0,none⟩),X.alloc (.cells (row 128 (wv fun _=>0#64)).toArray 24),xalloc 24 _ rfl (zero31p _),⟨X.heap.size,rfl,Below.size hX,RowAt.new X 128 (wv fun _=>0#64) 24⟩,(Below.refl _ _).alloc (Nat.le_refl _) _⟩) ?_
              rintro v5 ⟨_,_,bo,rfl,hbob,_⟩
              simp only [jw,jz,kj,jk,jq,jv,jy]
              refine wpQ_st _ rfl rfl fun X hX=>?_
              obtain ⟨hX1,b',f5,_,R5⟩:=hX
              injection f5 with f5
              injection f5 with f5
              injection f5 with f5
              subst f5
              have N0:=hideit (R5.cells (g':=wv (pgA FF pg)))
              have NE:=hideit (below_setCells bo hbob (row 128 (wv (pgA FF pg))) 0 _ hX1)
              refine ⟨X.setCells bo 0 (row 128 (wv (pgA FF pg))),xstore 24 (.tmp 17) (.tmp 198) rfl bo 128 _ (wv (pgA FF pg)) rfl rfl R5 infoPg (fun _ _=>rfl),fun Y=>Y = X.setCells bo 0 (row 128 (wv (pgA FF pg))),rfl,.inl (by simp),?_⟩
              simp only [List.getElem_toArray,List.getElem_cons_zero,List.getElem_cons_succ,Act.put]
              refine wpQ_nil fun Y14 hY=>?_
              rw [← hY] at N0 NE
              clear hY R5 hX1
              have Dbo_p:Hid (p ≠ bo):=Nat.ne_of_lt (Nat.lt_of_lt_of_le hP.out.2.2 hbob)
              replace hP:=hideit (hP.out.carry NE.out)
              have Dbo_b:Hid (b ≠ bo):=Nat.ne_of_lt (Nat.lt_of_lt_of_le hR.out.2.2 hbob)
              replace hR:=hideit (hR.out.carry NE.out)
              have Dbo_z11:Hid (z11 ≠ bo):=Nat.ne_of_lt (Nat.lt_of_lt_of_le Hl.out.2.2 hbob)
              replace Hl:=hideit (Hl.out.carry NE.out)
              have hszbo:Hid (y1.heap.size ≤ bo):=Nat.le_trans (Below.size hE.out) hbob
              have Hbo:=N0
              replace hE:=hideit (Ext.trans hE.out NE.out)
              clear N0 NE hbob
              go_upto_region 34 with (fail)
              refine wp_region_lit ?_
              refine xm [some (.int .i64 0)] (by kernel_rfl) (by simp [xr,go_sem]) ?_
              simp only [xw,p0,p1,p2,p3]
              have hbol:Hid (bo ≠ z11):=Ne.symm (Dbo_z11.out)
              go_upto_region 35 with (fail)
              go_loopw [18] (fun v X=>∃ n:Nat,n ≤ 128 ∧ v = .int .i64 (n:Int) ∧ RowAt p 9 (rmV T M a q b (q * a) T e0 g0 k0) X ∧ RowAt b (128 * (q * a)) (wv FF) X ∧ RowAt z11 128 (wv (lpX (enA s FF x) (pgA FF pg) n)) X ∧ RowAt bo 128 (wv (pgA FF pg)) X ∧ Ext y1 X) (fun v _=>200 - (intOf v).toNat)
              case atStart=>exact ⟨0,Nat.zero_le _,rfl,hP.out,hR.out,Hl.out.congr (fun j _=>by unfold wv lpX; rw [if_neg (Nat.not_lt_zero _)]),Hbo.out,hE.out⟩
              case round=>
                clear hP hR Hl Hbo hE
                obtain ⟨U,hU⟩:∃ U,U = wr:=⟨_,rfl⟩
                rw [← hU] at hrel ⊢
                clear hU
                obtain ⟨n',hn',rfl,hP,hR,Hl,Hbo,hE⟩:=hrel
                replace hP:=hideit hP
                replace hR:=hideit hR
                replace Hl:=hideit Hl
                replace Hbo:=hideit Hbo
                replace hE:=hideit hE
                by_cases hlt:n' < 128
                · have k1:(n':Int) < 128:=by omega
                  have en:IntKind.i64.wrap ((n':Int) + 1) = ((n' + 1:Nat):Int):=by rw [IntKind.wrap_i64]; omega
                  replace en:=hideit en
                  go_upto_region 35 with (fail)
                  refine wp_region_lit ?_
                  refine xm [some (.int .i64 (n':Int)),some (.bool true)] (by kernel_rfl) (by simp [xr,go_sem,k1]) ?_
                  simp only [xw,p0,p1,p2,p3]
                  go_upto_region 37 with (fail)
                  replace hP:=hideit hP.out.drew
                  replace hR:=hideit hR.out.drew
                  replace Hl:=hideit Hl.out.drew
                  replace Hbo:=hideit Hbo.out.drew
                  replace hE:=hideit (Ext.draw hE.out)
                  refine wp_region_ladz (fun X=>Ext U.drew X) [9] [(false,0),(false,1),(false,2),(false,3),(false,4),(false,5),(false,6),(false,7),(false,8),(true,9)] (by kernel_rfl) (by kernel_rfl) (by decide +kernel) (by decide +kernel) (by decide +kernel) (by decide +kernel) (Ext.refl _) ?_
                  refine wpZ_f _ (.int .i64 (n':Int)) rfl rfl (fun X _=>by simp [go_sem]) ?_
                  simp only [List.getElem_toArray,List.getElem_cons_zero,Act.put,List.setIfInBounds_toArray,List.set_cons_zero,List.set_cons_succ]
                  refine wpZ_f _ (.int .i64 (n':Int)) rfl rfl (fun X _=>by simp [go_sem]) ?_
                  simp only [jw,jz,kj,jk,jq,jv,jy]
                  refine wpZ_f _ (.pointer (some ⟨z11,n',none⟩)) rfl rfl (fun X _=>by simp [go_sem,k1]) ?_
                  simp only [jw,jz,kj,jk,jq,jv,jy]
                  refine wpZ_f _ (.int .u64 ((((enA s FF x) n')).toNat:Int)) rfl rfl (fun X hX=>(by have e:X.cell? ⟨z11,n',none⟩ = some (.int .u64 ((((enA s FF x) n')).toNat:Int)):=(by have e:=(Hl.out.carry hX).1 n' hlt; unfold wv lpX at e; rw [if_neg (Nat.lt_irrefl _)] at e; exact e); simp [go_sem,e])) ?_
                  simp only [jw,jz,kj,jk,jq,jv,jy]
                  refine wpZ_f _ (.int .i64 (n':Int)) rfl rfl (fun X _=>by simp [go_sem]) ?_
                  simp only [jw,jz,kj,jk,jq,jv,jy]
                  refine wpZ_f _ (.pointer (some ⟨bo,n',none⟩)) rfl rfl (fun X _=>by simp [go_sem,k1]) ?_
                  simp only [jw,jz,kj,jk,jq,jv,jy]
                  refine wpZ_f _ (.int .u64 ((((pgA FF pg) n')).toNat:Int)) rfl rfl (fun X hX=>(by have e:X.cell? ⟨bo,n',none⟩ = some (.int .u64 ((((pgA FF pg) n')).toNat:Int)):=(Hbo.out.carry hX).1 n' hlt; simp [go_sem,e])) ?_
                  simp only [jw,jz,kj,jk,jq,jv,jy]
                  refine wpZ_f _ (.int .u64 ((xW ((enA s FF x) n') ((pgA FF pg) n')).toNat:Int)) rfl rfl (fun X _=>by simp [go_sem,xW_fact ((enA s FF x) n') ((pgA FF pg) n')]) ?_
                  simp only [jw,jz,kj,jk,jq,jv,jy]
                  refine wpZ_f _ (.pointer (some ⟨z11,n',none⟩)) rfl rfl (fun X _=>by simp [go_sem,k1]) ?_
                  simp only [jw,jz,kj,jk,jq,jv,jy]
                  have N0:=hideit (lpX_step Hl.out)
                  have N1:=hideit (Hbo.out.other ⟨z11,n',none⟩ (.int .u64 ((xW ((enA s FF x) n') ((pgA FF pg) n')).toNat:Int)) (Ne.symm hbol.out))
                  have N2:=hideit (hP.out.other ⟨z11,n',none⟩ (.int .u64 ((xW ((enA s FF x) n') ((pgA FF pg) n')).toNat:Int)) (Ne.symm hpbl.out))
                  have N3:=hideit (hR.out.other ⟨z11,n',none⟩ (.int .u64 ((xW ((enA s FF x) n') ((pgA FF pg) n')).toNat:Int)) (Ne.symm hbbl.out))
                  have NE:=hideit (hE.out.setCell (p:=⟨z11,n',none⟩) hblB.out (.int .u64 ((xW ((enA s FF x) n') ((pgA FF pg) n')).toNat:Int)))
                  have M0:U.drew.cell? ⟨z11,n',none⟩ = some (.int .u64 (((enA s FF x) n').toNat:Int)):=(by have e:=Hl.out.1 n' hlt; unfold wv lpX at e; rw [if_neg (Nat.lt_irrefl _)] at e; exact e)
                  have M1:U.drew.frozen? ⟨z11,n',none⟩ = false:=Hl.out.2.1 n' hlt
                  refine wpZ_st _ (U.drew.setCell ⟨z11,n',none⟩ (.int .u64 ((xW ((enA s FF x) n') ((pgA FF pg) n')).toNat:Int))) rfl rfl (by simp [go_sem,M0,M1]) (fun _=>True) (.inl (by simp)) trivial ?_
                  simp only [List.getElem_toArray,List.getElem_cons_zero,List.getElem_cons_succ,Act.put]
                  generalize U.drew.setCell ⟨z11,n',none⟩ (.int .u64 ((xW ((enA s FF x) n') ((pgA FF pg) n')).toNat:Int)) = x9 at N0 N1 N2 N3 NE ⊢
                  clear M0 M1
                  replace Hl:=N0
                  replace Hbo:=N1
                  replace hP:=N2
                  replace hR:=N3
                  replace hE:=NE
                  clear N0 N1 N2 N3 NE
                  refine wpZ_nil ?_
                  go_upto_region 36 with (fail)
                  refine wp_region_lit ?_
                  refine xm [some (.int .i64 (n':Int)),some (.int .i64 ((n' + 1:Nat):Int)),some (.int .i64 ((n' + 1:Nat):Int))] (by kernel_rfl) (by simp [xr,go_sem,en.out]) ?_
                  simp only [xw,p0,p1,p2,p3]
                  go_wp2
                  refine ⟨⟨n' + 1,by omega,rfl,hP.out,hR.out,Hl.out,Hbo.out,hE.out⟩,by simp [intOf]; omega⟩
                · obtain rfl:n' = 128:=by omega
                  go_upto_region 35 with (fail)
                  refine wp_region_lit ?_
                  refine xm [some (.int .i64 ((128:Nat):Int)),some (.bool false)] (by kernel_rfl) (by simp [xr,go_sem]) ?_
                  simp only [xw,p0,p1,p2,p3]
                  go_upto_region 32 with (fail)
                  refine wp_region_lit ?_
                  refine xm [some (.int .i64 (x:Int)),some (.int .i64 ((x + 1:Nat):Int)),some (.int .i64 ((x + 1:Nat):Int))] (by kernel_rfl) (by simp [xr,go_sem,ex.out]) ?_
                  simp only [xw,p0,p1,p2,p3]
                  go_wp2
                  refine ⟨⟨x + 1,hxt.out,rfl,hP.out,hR.out,?_,hE.out⟩,by have:=hxt.out; have:=hsm.out; simp [intOf]; omega⟩
                  exact Hl.out.congr fun j hj=>by unfold wv lpX; rw [if_pos hj,show enA s FF (x + 1) = xrF (enA s FF x) (pgA FF (4 * s * x + (4 * s - 1))) from rfl,epg.out]; rfl
            · obtain rfl:x = a:=by omega
              go_upto_region 31 with (fail)
              refine wp_region_lit ?_
              have m13:wr.cell? ⟨c,2,none⟩ = some (.int .i64 (x:Int)):=H0.out.1 2 (by decide)
              refine xm [some (.int .i64 (x:Int)),some (.pointer (some ⟨c,2,none⟩)),some (.int .i64 (x:Int)),some (.bool false)] (by kernel_rfl) (by simp [xr,go_sem,m13]) ?_
              simp only [xw,p0,p1,p2,p3]
              clear m13
              go_upto_region 38 with (fail)
              refine wp_region_lit ?_
              refine xm [some (.int .i64 (n:Int))] (by kernel_rfl) (by simp [xr,go_sem]) ?_
              simp only [xw,p0,p1,p2,p3]
              refine wpList_run rfl (.agg (row 128 (wv (enA s FF x))).toArray) (xload 24 (.tmp 15) rfl z11 0 128 _ rfl Hl.out.range Tryd.underlying24 rfl infoPg) ?_
              simp only [jk,jq,jv,jy]
              refine wpList_call rfl (by simp [go_sem]) ((rbytes_any (enA s FF x) wr).mono ?_)
              rintro e v1 ⟨vb,rfl,hO3,hX3⟩
              refine ⟨_,rfl,?_⟩
              simp only [jk,jq,jv,jy]
              replace Hl:=hideit (Hl.out.carry hX3)
              replace H0:=hideit (H0.out.carry hX3)
              replace hE:=hideit (Ext.trans hE.out hX3)
              obtain ⟨bg,bc,rfl,_,hbc,_,hRb⟩:=hO3.lies (by decide)
              have hbB2:Hid (BV (.slice (some ⟨bg,0,none⟩) 1024 bc) 1024 (digF (enA s FF x)) v1):=.inr ⟨_,_,rfl,hbc,hRb.lie 1024 (Nat.le_refl _)⟩
              clear hO3 hRb hX3
              have hsy:=hideit (Below.size hE.out)
              refine wpList_call rfl (by simp [go_sem]) ((rlong_any n 1024 hn0.out.1 (by have:=hn0.out; omega) (.slice (some ⟨bg,0,none⟩) 1024 bc) (digF (enA s FF x)) v1 hbB2.out (by decide)).mono ?_)
              rintro e v2 ⟨lv,rfl,hO6,hX6⟩
              refine ⟨_,rfl,?_⟩
              simp only [jk,jq,jv,jy]
              replace Hl:=hideit (Hl.out.carry hX6)
              replace H0:=hideit (H0.out.carry hX6)
              replace hE:=hideit (Ext.trans hE.out hX6)
              have hO7:=hideit (hO6.down (Nat.le_trans (Below.size hE1.out) hsy.out))
              clear hO6 hX6
              refine xm [some (lv),some (.int .i64 0),some (lv),some (.int .i64 0)] (by kernel_rfl) (by simp [xr,go_sem]) ?_
              simp only [xw,p0,p1,p2,p3]
              go_wp2
              refine bodyPost_ret (res2 rfl _ _ _) rfl ?_
              refine ⟨lv,rfl,?_,Ext.trans hE1.out hE.out⟩
              rw [hFF.out,hZ.out] at hO7
              exact hO7.out
end Go.Proofs.YtfbmeclpcgdmhabDoor
