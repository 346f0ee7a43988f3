/-
  Pages as bytes, and bytes as a page. Pages: added; their lines stirred.
-/
import Derived.Test.YtfbmeclpcgdmhabDoorQk1
import Derived.Test.YtfbmeclpcgdmhabDoorQk21
import Derived.Test.YtfbmeclpcgdmhabDoorQk11
namespace Go.Proofs.YtfbmeclpcgdmhabDoor
set_option maxRecDepth 20000
open Go.RowKit Go.BigFrame
theorem infoPg:(Tryd.prog.info? 24).map (·.size) = some 128:=by kernel_rfl
theorem zero31p (w:World):Sem.run Tryd.prog (zeroValue 24) w = .ok (.agg (row 128 (wv fun _=>0#64)).toArray) w:=by kernel_rfl
theorem ret_row2 {P:Program} {F:Func} {tmps:Array Value} {k k2:Nat} {t:TypeId} {b n:Nat} {g:Nat → Value} {X:World} {d:TypeDesc} (hF:F.results = #[.cell k t,.tmp k2]) (ht:tmps.getD k undef = .pointer (some ⟨b,0,none⟩)) (h:RowAt b n g X)
    (hu:P.underlying t = some d) (hd:d.isRow = true) (hi:(P.info? t).map (·.size) = some n):Sem.run P (results F tmps) X = .ok (.tuple #[.agg (row n g).toArray,tmps.getD k2 undef]) X:=by
  have hl:=run_loadVar_mid (P:=P) X b 0 t (row n g) d h.range hu hd (by rw [row_length]; exact hi)
  unfold results
  rw [hF]
  simp only [List.mapM_toArray,List.mapM_cons,List.mapM_nil,ht]
  simp [asAddr,hl]
set_option maxRecDepth 20000 in
set_option maxHeartbeats 1000000 in
theorem bytes_any (p:Nat → BitVec 64) (w:World):
    Calls Tryd.prog 24 #[.agg (row 128 (wv p)).toArray] w fun e w'=>∃ v,e = .returned v ∧ OwnB w.heap.size 5 v 1024 (yv (digF p)) w' ∧ Ext w w':=by
  have H0:Hid (RowAt w.heap.size 128 (wv p) (w.alloc (.cells (row 128 (wv p)).toArray 24))):=RowAt.new w 128 (wv p) 24
  have hE0:Hid (Ext w (w.alloc (.cells (row 128 (wv p)).toArray 24))):=(Below.refl _ _).alloc (Nat.le_refl _) _
  go_enter Tryd.func24,Tryd.ntmps24
  go_upto_region 1 with (fail)
  obtain ⟨w1,hw1⟩:∃ w1,w1 = w.alloc (.cells (row 128 (wv p)).toArray 24):=⟨_,rfl⟩
  rw [← hw1] at H0 hE0 ⊢
  clear hw1
  obtain ⟨c,hc⟩:∃ c,c = w.heap.size:=⟨_,rfl⟩
  rw [← hc] at H0 ⊢
  refine wp_region_lit ?_
  refine wpList_made w1 Tryd.underlying32 (by kernel_rfl) rfl (.const (.int .i64 1024)) (.const (.int .i64 1024)) rfl 1024 rfl rfl (by omega) ?_
  intro w2 hO2 hE2
  have H2:=hideit (H0.out.carry hE2)
  have hE3:=hideit (Ext.trans hE0.out hE2)
  obtain ⟨b,hb⟩:∃ b,b = w1.heap.size:=⟨_,rfl⟩
  have hcb:c < b:=by rw [hb]; exact H0.out.2.2
  rw [← hb] at hO2 ⊢
  have hwb:w.heap.size ≤ b:=by omega
  replace hO2:=hideit hO2
  clear H0 hE0 hE2 hb hc
  simp only [jk,jq,jv,jy]
  go_wp2
  go_loopw [8] (fun iv wr=>∃ i:Nat,i ≤ 1024 ∧ iv = .int .i64 (i:Int) ∧ OwnB w.heap.size 5 (.slice (some ⟨b,0,none⟩) 1024 1024) 1024 (yv fun j=>if j < i then digF p j else 0#8) wr ∧ RowAt c 128 (wv p) wr ∧ Ext w wr) (fun iv _=>1024 - (intOf iv).toNat)
  case atStart=>exact ⟨0,by omega,rfl,(hO2.out.down hwb).congr fun j _=>by simp [yv],H2.out,hE3.out⟩
  case round=>
    clear hO2 H2 hE3
    obtain ⟨i,hi,rfl,hO,hS,hE⟩:=hrel
    have HO:=hideit hO
    have HS:=hideit hS
    have HE:=hideit hE
    clear hO hS hE
    by_cases hlt:i < 1024
    · have i0:(0:Int) ≤ (i:Int):=by omega
      have i1:(i:Int) < 1024:=by omega
      obtain ⟨g,cp9,hv,hg1,hg2,hg3,hRow⟩:=HO.out.lies (by omega)
      injection hv with q1 q2 q3
      injection q1 with q1
      injection q1 with q1
      subst q1
      have ec:=hRow.1 i hlt
      have gc:=hRow.2.1 i hlt
      have es:=HS.out.1 (i / 8) (by omega)
      simp only [wv] at es
      clear hRow hg1 hg2 hg3 q2 q3
      have i2:(0:Int) ≤ (i:Int) / 8:=by omega
      have i3:(i:Int) / 8 < 128:=by omega
      have b1:=(p (i / 8)).isLt
      go_wp2
      rw [dig_fact]
      refine ⟨⟨i + 1,by omega,by go_num,(HO.out.set (b:=b) rfl i hlt (yv (digF p) i)).congr fun j _=>?_,HS.out.other _ _ (by show b ≠ c; omega),HE.out.setCell (by show w.heap.size ≤ b; omega) _⟩,by simp [intOf]; omega⟩
      simp only [yv]
      by_cases e:j = i
      · subst e; rw [if_pos rfl,if_pos (by omega)]
      · rw [if_neg e]
        by_cases h:j < i
        · rw [if_pos h,if_pos (by omega)]
        · rw [if_neg h,if_neg (by omega)]
    · have i1:¬ (i:Int) < 1024:=by omega
      have HR:=hideit (HO.out.congr (g':=yv (digF p)) fun j hj=>by simp only [yv]; rw [if_pos (by omega)])
      go_wp2
      go_ret
      exact ⟨_,rfl,HR.out,HE.out⟩
def pgW (p:Nat → BitVec 8):Nat → BitVec 64:=wK p 1024
set_option maxRecDepth 20000 in
set_option maxHeartbeats 2000000 in
theorem page_any (v:Value) (p:Nat → BitVec 8) (w:World) (hv:BV v 1024 p w):
    Calls Tryd.prog 22 #[v] w fun e w'=>e = .returned (.tuple #[.agg (row 128 (wv (pgW p))).toArray,.int .i64 0]) ∧ Ext w w':=by
  have hz:=zero31p
  obtain ⟨F,hF⟩:∃ F,F = pgW p:=⟨_,rfl⟩
  rw [← hF]
  replace hF:=hideit hF
  rcases hv with ⟨_,h0⟩ | ⟨a,cap,rfl,_,hL⟩
  · omega
  replace hL:=hideit hL
  have H0:Hid (RowAt w.heap.size 128 (wv fun _=>0#64) (w.alloc (.cells (row 128 (wv fun _=>0#64)).toArray 24))):=RowAt.new w 128 _ 24
  go_enter Tryd.func22,Tryd.ntmps22
  go_upto_region 4 with (fail)
  have H1:RowAt w.heap.size 128 (wv fun _=>0#64) ((w.alloc (.cells (row 128 (wv fun _=>0#64)).toArray 24)).alloc (.cells (row 128 (wv fun _=>0#64)).toArray 24)):=H0.out.alloc _
  have H2:RowAt (w.heap.size + 1) 128 (wv fun _=>0#64) ((w.alloc (.cells (row 128 (wv fun _=>0#64)).toArray 24)).alloc (.cells (row 128 (wv fun _=>0#64)).toArray 24)):=by
    have:=RowAt.new (w.alloc (.cells (row 128 (wv fun _=>0#64)).toArray 24)) 128 (wv fun _=>0#64) 24
    simpa using this
  have HB:Ext w ((w.alloc (.cells (row 128 (wv fun _=>0#64)).toArray 24)).alloc (.cells (row 128 (wv fun _=>0#64)).toArray 24)):=((Below.refl _ _).alloc (Nat.le_refl _) _).alloc (by simp) _
  replace H1:=hideit H1
  replace H2:=hideit H2
  replace HB:=hideit HB
  generalize (w.alloc (.cells (row 128 (wv fun _=>0#64)).toArray 24)).alloc (.cells (row 128 (wv fun _=>0#64)).toArray 24) = w1 at *
  clear H0
  go_wp2
  go_loopw [13] (fun i wr=>∃ n:Nat,n ≤ 1024 ∧ i = .int .i64 n ∧ RowAt w.heap.size 128 (wv fun _=>0#64) wr ∧ RowAt (w.heap.size + 1) 128 (wv (wK p n)) wr ∧ Ext w wr) (fun i _=>1024 - (intOf i).toNat)
  case atStart=>exact ⟨0,by omega,rfl,H1.out,H2.out,HB.out⟩
  case round=>
    clear H1 H2 HB
    obtain ⟨n,hn,rfl,h2,h3,h4⟩:=hrel
    have H2:=hideit h2
    have H3:=hideit h3
    have H4:=hideit h4
    clear h2 h3 h4
    by_cases hlt:n < 1024
    · have i0:(0:Int) ≤ (n:Int):=by omega
      have i1:(n:Int) < 1024:=by omega
      have ea:=(hL.out.carry H4.out).1 n hlt
      simp only [yv] at ea
      go_upto_region 7 with (fail)
      clear ea
      have hne:=kept_ne wr.drew
      have e3:∀ k:Kept (Ext wr.drew),k.w.cell? ⟨w.heap.size + 1,n / 8,none⟩ = some (.int .u64 ((wK p n (n / 8)).toNat:Int)):=fun k=>H3.out.kept (n / 8) (by omega) k
      have hsh:=shB_wrap (p n) (8 * (n % 8))
      have hor:=oW_fact (wK p n (n / 8)) (shB (p n) (8 * (n % 8)))
      refine wp_region_late 11 (by kernel_rfl) (by kernel_rfl) (by decide) ?_
      simp only [List.take_succ_cons,List.take_zero,List.drop_succ_cons,List.drop_zero]
      refine wpStrong_run 11 rfl ?_
      simp only [List.take_succ_cons,List.take_zero,List.drop_succ_cons,List.drop_zero]
      repeat (go_big_quiet_step (fail))
      refine wpQuiet_nil ?_
      refine wpStrong_nil ?_
      intro X hX
      have hwX:Ext wr X:=Ext.trans (Below.refl _ _).drew hX
      have H2':=hideit (H2.out.carry hwX)
      have H3':=hideit (H3.out.carry hwX)
      have H4':=hideit (Ext.trans H4.out hwX)
      have eX:=H3'.out.1 (n / 8) (by omega)
      have gX:=H3'.out.2.1 (n / 8) (by omega)
      clear hwX hX H2 H3 H4 hne e3 hsh hor
      have q0:(0:Int) ≤ (n:Int) / 8:=by omega
      have q1:(n:Int) / 8 < 128:=by omega
      simp only [wv] at eX
      have HF:RowAt (w.heap.size + 1) 128 (wv (wK p (n + 1))) (X.setCell ⟨w.heap.size + 1,n / 8,none⟩ (.int .u64 ((oW (wK p n (n / 8)) (shB (p n) (8 * (n % 8)))).toNat:Int))):=(H3'.out.set (n / 8) (.int .u64 ((oW (wK p n (n / 8)) (shB (p n) (8 * (n % 8)))).toNat:Int))).congr fun j _=>by
        simp only [wv,wK]
        by_cases e:j = n / 8
        · subst e; rw [if_pos rfl,if_pos rfl]
        · rw [if_neg e,if_neg e]
      replace HF:=hideit HF
      go_wp2
      refine ⟨⟨n + 1,by omega,by go_num,H2'.out.other _ _ (by simp),HF.out,H4'.out.setCell (by simp) _⟩,by simp [intOf]; omega⟩
    · have i1:¬ (n:Int) < 1024:=by omega
      have HR:=H3
      have HR0:=H2
      have hB:=H4
      have hW:wK p n = F:=by rw [show n = 1024 by omega]; exact hF.out.symm
      rw [hW] at HR
      clear H2 H3 H4 hW
      go_upto_region 9 with (fail)
      refine wp_region_lit ?_
      refine wpList_load_mid rfl 24 (.tmp 4) rfl _ 0 rfl (row 128 (wv F)) _ HR.out.range Tryd.underlying24 rfl (by rw [row_length]; exact infoPg) ?_
      simp only [jk,jq,jv,jy]
      refine wpList_store_mid rfl 24 (.tmp 2) (.tmp 31) rfl _ 0 (row 128 (wv F)).toArray rfl rfl (by rw [row_size]; exact HR0.out.there) (by rw [row_size]; exact infoPg) (row_one fun _ _=>rfl) ?_
      have h9:Hid (RowAt w.heap.size 128 (wv F) (wr.setCells w.heap.size 0 (row 128 (wv F)))):=HR0.out.cells
      have hE9:Hid (Ext w (wr.setCells w.heap.size 0 (row 128 (wv F)))):=below_setCells _ (Nat.le_refl _) _ _ _ hB.out
      rw [show (row 128 (wv F)).toArray.toList = row 128 (wv F) from rfl]
      generalize wr.setCells w.heap.size 0 (row 128 (wv F)) = w9 at *
      simp only [Act.put]
      clear HR HR0 hB
      go_wp2
      exact bodyPost_ret (ret_row2 Tryd.results22 rfl h9.out Tryd.underlying24 rfl infoPg) rfl ⟨rfl,hE9.out⟩
end Go.Proofs.YtfbmeclpcgdmhabDoor
namespace Go.Proofs.YtfbmeclpcgdmhabDoor
set_option maxRecDepth 20000
open Go.RowKit Go.BigFrame
theorem exec_allocP {P:Program} {o:Oper} {a:Act} {w:World} (t:TypeId) (Z:Array Value) (ho:o.op = .alloc t) (hz:(zeroValue t).run P w = .ok (.agg Z) w):(execOp a.eval o).run P w = .ok (.value (.pointer (some ⟨w.heap.size,0,none⟩))) (w.alloc (.cells Z t)):=by
  unfold execOp
  simp [ho,Instr.alloc,hz,newVar,newRow,Value.cells]
set_option maxRecDepth 20000 in
set_option maxHeartbeats 4000000 in
theorem pplus_any (x y:Nat → BitVec 64) (w:World):
    Calls Tryd.prog 25 #[.agg (row 128 (wv x)).toArray,.agg (row 128 (wv y)).toArray] w fun e w'=>e = .returned (.agg (row 128 (wv (xrF x y))).toArray) ∧ Ext w w':=by
  obtain ⟨G,hG⟩:∃ G,G = xrF x y:=⟨_,rfl⟩
  rw [← hG]
  replace hG:=hideit hG
  have A1:=hideit (RowAt.new w 128 (wv x) 24)
  have X1:Ext w (w.alloc (.cells (row 128 (wv x)).toArray 24)):=(Below.refl _ _).alloc (Nat.le_refl _) _
  go_enter Tryd.func25,Tryd.ntmps25
  go_upto_region 0 with (fail)
  refine wp_region_lit ?_
  refine wpList_to rfl (.pointer (some ⟨w.heap.size,0,none⟩)) (w.alloc (.cells (row 128 (wv x)).toArray 24)) (by simp [go_sem]) ?_
  simp only [jk,jq,jv,jy]
  generalize w.alloc (.cells (row 128 (wv x)).toArray 24) = w1 at *
  obtain ⟨b,hb⟩:∃ b,b = w.heap.size:=⟨_,rfl⟩
  have hwb:Hid (w.heap.size ≤ b):=hideit (by omega)
  rw [← hb] at A1 ⊢
  clear hb
  have B2:=hideit (RowAt.new w1 128 (wv y) 24)
  have X2:Ext w1 (w1.alloc (.cells (row 128 (wv y)).toArray 24)):=(Below.refl _ _).alloc (Nat.le_refl _) _
  have A2:=hideit (A1.out.carry X2)
  have hE2:=hideit (Ext.trans X1 X2)
  have hbc:Hid (b < w1.heap.size):=hideit A1.out.2.2
  clear A1 X1 X2
  refine wpList_to rfl (.pointer (some ⟨w1.heap.size,0,none⟩)) (w1.alloc (.cells (row 128 (wv y)).toArray 24)) (by simp [go_sem]) ?_
  simp only [jk,jq,jv,jy]
  generalize w1.alloc (.cells (row 128 (wv y)).toArray 24) = w2 at *
  generalize w1.heap.size = c at *
  have R3:=hideit (RowAt.new w2 128 (wv fun _=>0#64) 24)
  have X3:Ext w2 (w2.alloc (.cells (row 128 (wv fun _=>0#64)).toArray 24)):=(Below.refl _ _).alloc (Nat.le_refl _) _
  have A3:=hideit (A2.out.carry X3)
  have B3:=hideit (B2.out.carry X3)
  have hE3:=hideit (Ext.trans hE2.out X3)
  have hbd:Hid (b < w2.heap.size):=hideit A2.out.2.2
  clear A2 B2 hE2 X3
  refine wpList_to rfl (.pointer (some ⟨w2.heap.size,0,none⟩)) (w2.alloc (.cells (row 128 (wv fun _=>0#64)).toArray 24)) (exec_allocP 24 _ rfl (zero31p _)) ?_
  simp only [jk,jq,jv,jy]
  generalize w2.alloc (.cells (row 128 (wv fun _=>0#64)).toArray 24) = w3 at *
  generalize w2.heap.size = d at *
  go_upto_region 1 with (fail)
  refine wp_region_lit ?_
  refine wpList_load_mid rfl 24 (.tmp 3) rfl c 0 rfl (row 128 (wv y)) _ B3.out.range Tryd.underlying24 rfl (by rw [row_length]; exact infoPg) ?_
  simp only [jk,jq,jv,jy]
  obtain ⟨TB,hTB⟩:∃ TB,TB = (Value.agg (row 128 (wv y)).toArray):=⟨_,rfl⟩
  have hidx:Hid (∀ k:Nat,k < 128 → ∀ X:World,(Instr.index 24 TB (.int .i64 (k:Int))).run Tryd.prog X = .ok (.int .u64 ((y k).toNat:Int)) X):=hideit fun k hk X=>by rw [hTB]; exact idxPg y k hk X
  rw [← hTB]
  clear hTB B3
  go_wp2
  go_loopw [8] (fun i X=>∃ k:Nat,k ≤ 128 ∧ i = .int .i64 k ∧ RowAt b 128 (wv (upX x y k)) X ∧ RowAt d 128 (wv fun _=>0#64) X ∧ Ext w X) (fun i _=>128 - (intOf i).toNat)
  case atStart=>exact ⟨0,by omega,rfl,A3.out.congr (fun j _=>by simp only [wv,upX]; rw [if_neg (Nat.not_lt_zero _)]),R3.out,hE3.out⟩
  case round=>
    clear A3 R3 hE3
    obtain ⟨k,hk,rfl,hA,hR,hE⟩:=hrel
    have A4:=hideit hA
    have R4:=hideit hR
    have hE4:=hideit hE
    clear hA hR hE
    by_cases hlt:k < 128
    · have i0:(0:Int) ≤ (k:Int):=by omega
      have i1:(k:Int) < 128:=by omega
      have hix:=hidx.out k hlt
      have e1:wr.cell? ⟨b,k,none⟩ = some (.int .u64 ((x k).toNat:Int)):=(A4.out.1 k hlt).trans (by simp only [wv,upX]; rw [if_neg (Nat.lt_irrefl _)])
      have g1:wr.frozen? ⟨b,k,none⟩ = false:=A4.out.2.1 k hlt
      have f1:=xW_fact (x k) (y k)
      go_wp2
      exact ⟨⟨k + 1,by omega,by go_num,(A4.out.set k (.int .u64 ((xW (x k) (y k)).toNat:Int))).congr (fun j _=>by
        simp only [wv,upX]
        by_cases h1:j = k
        · rw [if_pos h1,if_pos (by omega),h1]
        · rw [if_neg h1]
          by_cases h2:j < k
          · rw [if_pos h2,if_pos (by omega)]
          · rw [if_neg h2,if_neg (by omega)]),R4.out.other _ _ (by show b ≠ d; have:=hbd.out; omega),Below.setCell hE4.out (by show w.heap.size ≤ b; exact hwb.out) _⟩,by simp [intOf]; omega⟩
    · obtain rfl:k = 128:=by omega
      have A5:Hid (RowAt b 128 (wv G) wr):=hideit (A4.out.congr fun j hj=>by rw [hG.out]; simp only [wv,upX,xrF]; rw [if_pos hj])
      clear A4 hG
      have i1:¬ ((128:Nat):Int) < 128:=by decide
      go_upto_region 6 with (fail)
      refine wp_region_lit ?_
      refine wpList_load_mid rfl 24 (.tmp 2) rfl b 0 rfl (row 128 (wv G)) _ A5.out.range Tryd.underlying24 rfl (by rw [row_length]; exact infoPg) ?_
      simp only [jk,jq,jv,jy]
      refine wpList_store_mid rfl 24 (.tmp 4) (.tmp 19) rfl d 0 (row 128 (wv G)).toArray rfl rfl (by rw [row_size]; exact R4.out.there) (by rw [row_size]; exact infoPg) (row_one fun _ _=>rfl) ?_
      rw [show (row 128 (wv G)).toArray.toList = row 128 (wv G) from rfl]
      have h9:=hideit (R4.out.cells (g':=wv G))
      have hE9:=hideit (below_setCells d (by have:=hwb.out; have:=hbd.out; omega) (row 128 (wv G)) 0 _ hE4.out)
      generalize wr.setCells d 0 (row 128 (wv G)) = w9 at *
      clear A5 R4 hE4
      simp only [Act.put]
      go_wp2
      exact bodyPost_ret (ret_row Tryd.results25 rfl h9.out Tryd.underlying24 rfl infoPg) rfl ⟨rfl,hE9.out⟩
def plcR (r i:Nat):Nat:=16 * r + i
def plcC (c i:Nat):Nat:=16 * (i / 2) + 2 * c + i % 2
set_option maxRecDepth 20000 in
set_option maxHeartbeats 4000000 in
theorem inRow_any (r i:Nat) (hr:r < 8) (hi:i < 16) (w:World):Calls Tryd.prog 27 #[.int .i64 (r:Int),.int .i64 (i:Int)] w fun e w'=>e = .returned (.int .i64 ((plcR r i:Nat):Int)) ∧ w' = w:=by
  have f1:IntKind.i64.wrap (16 * (r:Int)) = 16 * (r:Int):=by rw [IntKind.wrap_i64]; omega
  have f2:IntKind.i64.wrap (16 * (r:Int) + (i:Int)) = ((plcR r i:Nat):Int):=by unfold plcR; rw [IntKind.wrap_i64]; omega
  go_enter Tryd.func27,Tryd.ntmps27
  go_upto_region 1 with (fail)
  refine wp_region_lit ?_
  refine wpList_run rfl (.int .i64 (r:Int)) (by simp [go_sem]) ?_
  simp only [jk,jq,jv,jy]
  refine wpList_run rfl (.int .i64 (16 * (r:Int))) (by simp [go_sem,f1]) ?_
  simp only [jk,jq,jv,jy]
  refine wpList_run rfl (.int .i64 (i:Int)) (by simp [go_sem]) ?_
  simp only [jk,jq,jv,jy]
  refine wpList_run rfl (.int .i64 ((plcR r i:Nat):Int)) (by simp [go_sem,f2]) ?_
  simp only [jk,jq,jv,jy]
  go_wp2
  go_ret
  exact ⟨rfl,rfl⟩
set_option maxRecDepth 20000 in
set_option maxHeartbeats 4000000 in
theorem inColumn_any (c i:Nat) (hc:c < 8) (hi:i < 16) (w:World):Calls Tryd.prog 28 #[.int .i64 (c:Int),.int .i64 (i:Int)] w fun e w'=>e = .returned (.int .i64 ((plcC c i:Nat):Int)) ∧ w' = w:=by
  obtain ⟨h,hh⟩:∃ h,h = i / 2:=⟨_,rfl⟩
  obtain ⟨o,ho⟩:∃ o,o = i % 2:=⟨_,rfl⟩
  have hP:plcC c i = 16 * h + 2 * c + o:=by unfold plcC; rw [hh,ho]
  rw [hP]
  have f0:((i:Int)).tdiv 2 = (h:Int):=by rw [hh,Int.tdiv_eq_ediv_of_nonneg (by omega)]; omega
  have f1:IntKind.i64.wrap (16 * (h:Int)) = 16 * (h:Int):=by rw [IntKind.wrap_i64]; omega
  have f2:IntKind.i64.wrap (2 * (c:Int)) = 2 * (c:Int):=by rw [IntKind.wrap_i64]; omega
  have f3:IntKind.i64.wrap (16 * (h:Int) + 2 * (c:Int)) = 16 * (h:Int) + 2 * (c:Int):=by rw [IntKind.wrap_i64]; omega
  have f4:((i:Int)).tmod 2 = (o:Int):=by rw [ho,Int.tmod_eq_emod_of_nonneg (by omega)]; omega
  have f5:IntKind.i64.wrap (16 * (h:Int) + 2 * (c:Int) + (o:Int)) = ((16 * h + 2 * c + o:Nat):Int):=by rw [IntKind.wrap_i64]; omega
  have fh:IntKind.i64.wrap (h:Int) = (h:Int):=by rw [IntKind.wrap_i64]; omega
  have i0:(0:Int) ≤ (i:Int):=by omega
  clear hh ho hP
  go_enter Tryd.func28,Tryd.ntmps28
  go_upto_region 1 with (fail)
  refine wp_region_lit ?_
  refine wpList_run rfl (.int .i64 (i:Int)) (by simp [go_sem]) ?_
  simp only [jk,jq,jv,jy]
  refine wpList_run rfl (.int .i64 (h:Int)) (by simp [go_sem,f0,fh]) ?_
  simp only [jk,jq,jv,jy]
  refine wpList_run rfl (.int .i64 (16 * (h:Int))) (by simp [go_sem,f1]) ?_
  simp only [jk,jq,jv,jy]
  refine wpList_run rfl (.int .i64 (c:Int)) (by simp [go_sem]) ?_
  simp only [jk,jq,jv,jy]
  refine wpList_run rfl (.int .i64 (2 * (c:Int))) (by simp [go_sem,f2]) ?_
  simp only [jk,jq,jv,jy]
  refine wpList_run rfl (.int .i64 (16 * (h:Int) + 2 * (c:Int))) (by simp [go_sem,f3]) ?_
  simp only [jk,jq,jv,jy]
  refine wpList_run rfl (.int .i64 (i:Int)) (by simp [go_sem]) ?_
  simp only [jk,jq,jv,jy]
  refine wpList_run rfl (.int .i64 (o:Int)) (by simp [go_sem,f4]) ?_
  simp only [jk,jq,jv,jy]
  refine wpList_run rfl (.int .i64 ((16 * h + 2 * c + o:Nat):Int)) (by simp [go_sem,f5]) ?_
  simp only [jk,jq,jv,jy]
  go_wp2
  go_ret
  exact ⟨rfl,rfl⟩
end Go.Proofs.YtfbmeclpcgdmhabDoor
