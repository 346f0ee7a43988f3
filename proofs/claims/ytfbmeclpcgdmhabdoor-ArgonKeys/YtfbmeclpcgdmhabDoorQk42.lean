/-
  Two pages mixed: the document's answer. The document's word, by addresses.
-/
import Derived.Test.YtfbmeclpcgdmhabDoorQk1
import Derived.Test.YtfbmeclpcgdmhabDoorQk24
import Derived.Test.YtfbmeclpcgdmhabDoorQk41
namespace Go.Proofs.YtfbmeclpcgdmhabDoor
open Go.RowKit Go.BigFrame
set_option maxRecDepth 20000 in
set_option maxHeartbeats 9000000 in
theorem rpages_core (x y r z g:Nat → BitVec 64) (F H:Nat → Nat → BitVec 64) (hr:Hid (r = xrF x y)) (hF0:Hid (F 0 = r)) (Fs:Hid (∀ k,F (k + 1) = putF (F k) (plcR k) (stK (fun i=>F k (plcR k i)) 8) 16)) (hH0:Hid (H 0 = F 8)) (Hs:Hid (∀ k,H (k + 1) = putF (H k) (plcC k) (stK (fun i=>H k (plcC k i)) 8) 16)) (hzz:Hid (z = H 8)) (hg:Hid (g = xrF z r)) (w0:World):
    Calls Tryd.prog 55 #[.agg (row 128 (wv x)).toArray,.agg (row 128 (wv y)).toArray] w0 fun e w'=>e = .returned (.agg (row 128 (wv g)).toArray) ∧ Ext w0 w':=by
  have hz46:=zero46
  have hE0:=hideit (Ext.refl w0)
  go_enter Tryd.func55,Tryd.ntmps55
  go_upto_region 0 with (fail)
  refine wp_region_lit ?_
  have A1:=hideit (RowAt.new w0 128 (wv x) 24)
  have M3:Ext w0 (w0.alloc (.cells (row 128 (wv x)).toArray 24)):=(Below.refl _ _).alloc (Nat.le_refl _) _
  have hE1:=hideit (Ext.trans hE0.out M3)
  clear M3 hE0
  refine wpList_to rfl (.pointer (some ⟨w0.heap.size,0,none⟩)) (w0.alloc (.cells (row 128 (wv x)).toArray 24)) (by simp [go_sem]) ?_
  simp only [jk,jq,jv,jy]
  generalize w0.alloc (.cells (row 128 (wv x)).toArray 24) = w1 at *
  generalize w0.heap.size = a at A1 ⊢
  have B2:=hideit (RowAt.new w1 128 (wv y) 24)
  have M3:Ext w1 (w1.alloc (.cells (row 128 (wv y)).toArray 24)):=(Below.refl _ _).alloc (Nat.le_refl _) _
  have A2:=hideit (A1.out.carry M3)
  have hE2:=hideit (Ext.trans hE1.out M3)
  clear M3 hE1 A1
  refine wpList_to rfl (.pointer (some ⟨w1.heap.size,0,none⟩)) (w1.alloc (.cells (row 128 (wv y)).toArray 24)) (by simp [go_sem]) ?_
  simp only [jk,jq,jv,jy]
  generalize w1.alloc (.cells (row 128 (wv y)).toArray 24) = w2 at *
  generalize w1.heap.size = b at *
  have R3:=hideit (RowAt.new w2 128 (wv fun _=>0#64) 24)
  have M3:Ext w2 (w2.alloc (.cells (row 128 (wv fun _=>0#64)).toArray 24)):=(Below.refl _ _).alloc (Nat.le_refl _) _
  have hdw:Hid (w0.heap.size ≤ w2.heap.size):=hideit (Below.size hE2.out)
  have A3:=hideit (A2.out.carry M3)
  have B3:=hideit (B2.out.carry M3)
  have hE3:=hideit (Ext.trans hE2.out M3)
  clear M3 hE2 A2 B2
  refine wpList_to rfl (.pointer (some ⟨w2.heap.size,0,none⟩)) (w2.alloc (.cells (row 128 (wv fun _=>0#64)).toArray 24)) (exec_allocP 24 _ rfl (zero31p _)) ?_
  simp only [jk,jq,jv,jy]
  generalize w2.alloc (.cells (row 128 (wv fun _=>0#64)).toArray 24) = w3 at *
  generalize w2.heap.size = d at *
  go_upto_region 1 with (fail)
  refine wp_region_lit ?_
  have Q4:=hideit (RowAt.new w3 128 (wv fun _=>0#64) 24)
  have M3:Ext w3 (w3.alloc (.cells (row 128 (wv fun _=>0#64)).toArray 24)):=(Below.refl _ _).alloc (Nat.le_refl _) _
  have hq1:Hid (a < w3.heap.size):=hideit A3.out.2.2
  have hq2:Hid (b < w3.heap.size):=hideit B3.out.2.2
  have hq3:Hid (d < w3.heap.size):=hideit R3.out.2.2
  have hqw:Hid (w0.heap.size ≤ w3.heap.size):=hideit (Below.size hE3.out)
  have A4:=hideit (A3.out.carry M3)
  have B4:=hideit (B3.out.carry M3)
  have R4:=hideit (R3.out.carry M3)
  have hE4:=hideit (Ext.trans hE3.out M3)
  clear M3 hE3 A3 B3 R3
  refine wpList_to rfl (.pointer (some ⟨w3.heap.size,0,none⟩)) (w3.alloc (.cells (row 128 (wv fun _=>0#64)).toArray 24)) (exec_allocP 24 _ rfl (zero31p _)) ?_
  simp only [jk,jq,jv,jy]
  generalize w3.alloc (.cells (row 128 (wv fun _=>0#64)).toArray 24) = w4 at *
  generalize w3.heap.size = q at *
  go_wp2
  go_loopw [6] (fun iv X=>∃ i:Nat,i ≤ 128 ∧ iv = .int .i64 i ∧ RowAt a 128 (wv x) X ∧ RowAt b 128 (wv y) X ∧ RowAt q 128 (wv (upW r i)) X ∧ RowAt d 128 (wv fun _=>0#64) X ∧ Ext w0 X) (fun iv _=>128 - (intOf iv).toNat)
  case atStart=>exact ⟨0,by omega,rfl,A4.out,B4.out,Q4.out.congr (fun j _=>by simp only [wv,upW]; rw [if_neg (Nat.not_lt_zero _)]),R4.out,hE4.out⟩
  case round=>
    clear A4 B4 Q4 R4 hE4
    obtain ⟨i,hi,rfl,hA,hB,hQ,hR,hE⟩:=hrel
    have A5:=hideit hA
    have B5:=hideit hB
    have Q5:=hideit hQ
    have R5:=hideit hR
    have hE5:=hideit hE
    clear hA hB hQ hR hE
    by_cases hlt:i < 128
    · have i0:(0:Int) ≤ (i:Int):=by omega
      have i1:(i:Int) < 128:=by omega
      go_upto_region 5 with (fail)
      have hne:=kept_ne wr.drew
      have e1:∀ q:Kept (Ext wr.drew),q.w.cell? ⟨a,i,none⟩ = some (.int .u64 ((x i).toNat:Int)):=fun q=>(A5.out.kept i hlt q).trans rfl
      have e2:∀ q:Kept (Ext wr.drew),q.w.cell? ⟨b,i,none⟩ = some (.int .u64 ((y i).toNat:Int)):=fun q=>(B5.out.kept i hlt q).trans rfl
      have f1:=xW_fact (x i) (y i)
      refine wp_region_late 8 (by kernel_rfl) (by kernel_rfl) (by decide) ?_
      simp only [List.take_succ_cons,List.take_zero,List.drop_succ_cons,List.drop_zero]
      refine wpStrong_run 8 rfl ?_
      simp only [List.take_succ_cons,List.take_zero,List.drop_succ_cons,List.drop_zero]
      repeat (go_big_quiet_step (fail))
      refine wpQuiet_nil ?_
      refine wpStrong_nil ?_
      intro X hX
      have hwX:Ext wr X:=Ext.trans (Below.refl _ _).drew hX
      clear hX hne e1 e2
      have hri:Hid (xW (x i) (y i) = r i):=hideit (by rw [hr.out]; rfl)
      rw [hri.out] at f1 ⊢
      clear f1
      have A6:=hideit (A5.out.carry hwX)
      have B6:=hideit (B5.out.carry hwX)
      have Q6:=hideit (Q5.out.carry hwX)
      have R6:=hideit (R5.out.carry hwX)
      have hE6:=hideit (Ext.trans hE5.out hwX)
      clear A5 B5 Q5 R5 hE5 hwX
      have e3:=Q6.out.1 i hlt
      have g3:=Q6.out.2.1 i hlt
      simp only [wv] at e3
      go_wp2
      exact ⟨⟨i + 1,by omega,by go_num,A6.out.other _ _ (by show q ≠ a; have:=hq1.out; omega),B6.out.other _ _ (by show q ≠ b; have:=hq2.out; omega),(Q6.out.set i (.int .u64 ((r i).toNat:Int))).congr (fun j _=>by
        simp only [wv]
        rw [← upW_set r i j]
        split <;> rfl),R6.out.other _ _ (by show q ≠ d; have:=hq3.out; omega),Below.setCell hE6.out (by show w0.heap.size ≤ q; exact hqw.out) _⟩,by simp [intOf]; omega⟩
    · obtain rfl:i = 128:=by omega
      have i1:¬ ((128:Nat):Int) < 128:=by decide
      have Q6:Hid (RowAt q 128 (wv r) wr):=hideit (Q5.out.congr fun j hj=>by simp only [wv,upW]; rw [if_pos hj])
      clear A5 B5 Q5 hr hlt hi
      go_upto_region 6 with (fail)
      refine wp_region_lit ?_
      generalize wr = w6 at *
      have R6:=R5
      have hE6:=hE5
      clear R5 hE5
      refine wpList_load_mid rfl 24 (.tmp 5) rfl q 0 rfl (row 128 (wv r)) _ Q6.out.range Tryd.underlying24 rfl (by rw [row_length]; exact infoPg) ?_
      simp only [jk,jq,jv,jy]
      have hv1:Hid (q < w6.heap.size):=hideit Q6.out.2.2
      have hv2:Hid (d < w6.heap.size):=hideit R6.out.2.2
      have hvw:Hid (w0.heap.size ≤ w6.heap.size):=hideit (Below.size hE6.out)
      have M1:=hideit (RowAt.new w6 128 (wv fun _=>0#64) 24)
      have M3:Ext w6 ((w6.alloc (.cells (row 128 (wv fun _=>0#64)).toArray 24)).setCells w6.heap.size 0 (row 128 (wv r))):=below_setCells w6.heap.size (Nat.le_refl _) _ 0 _ ((Below.refl _ _).alloc (Nat.le_refl _) _)
      have Z7:=hideit (M1.out.cells (g':=wv r))
      refine wpList_to rfl (.pointer (some ⟨w6.heap.size,0,none⟩)) (w6.alloc (.cells (row 128 (wv fun _=>0#64)).toArray 24)) (exec_allocP 24 _ rfl (zero31p _)) ?_
      simp only [jk,jq,jv,jy]
      refine wpList_store_mid rfl 24 (.tmp 7) (.tmp 30) rfl w6.heap.size 0 (row 128 (wv r)).toArray rfl rfl (by rw [row_size]; exact M1.out.there) (by rw [row_size]; exact infoPg) (row_one fun _ _=>rfl) ?_
      rw [show (row 128 (wv r)).toArray.toList = row 128 (wv r) from rfl]
      have Q7:=hideit (Q6.out.carry M3)
      have R7:=hideit (R6.out.carry M3)
      have hE7:=hideit (Ext.trans hE6.out M3)
      clear M3 hE6 Q6 R6
      generalize (w6.alloc (.cells (row 128 (wv fun _=>0#64)).toArray 24)).setCells w6.heap.size 0 (row 128 (wv r)) = w7 at *
      generalize w6.heap.size = v at *
      clear M1
      simp only [Act.put]
      go_wp2
      go_loopw [8] (fun iv X=>∃ k:Nat,k ≤ 8 ∧ iv = .int .i64 k ∧ RowAt v 128 (wv (F k)) X ∧ RowAt q 128 (wv r) X ∧ RowAt d 128 (wv fun _=>0#64) X ∧ Ext w0 X) (fun iv _=>8 - (intOf iv).toNat)
      case atStart=>exact ⟨0,by omega,rfl,by rw [hF0.out]; exact Z7.out,Q7.out,R7.out,hE7.out⟩
      case round=>
        clear Z7 Q7 R7 hE7
        obtain ⟨k,hk,rfl,hZ,hQ,hR,hE⟩:=hrel
        have Z8:=hideit hZ
        have Q8:=hideit hQ
        have R8:=hideit hR
        have hE8:=hideit hE
        clear hZ hQ hR hE
        by_cases hlt:k < 8
        · have k0:(0:Int) ≤ (k:Int):=by omega
          have k1:(k:Int) < 8:=by omega
          have kf:IntKind.i64.wrap (16 * (k:Int)) = 16 * (k:Int):=by rw [IntKind.wrap_i64]; omega
          obtain ⟨P,hP⟩:∃ P:Nat → BitVec 64,P = fun i=>F k (plcR k i):=⟨_,rfl⟩
          obtain ⟨V,hV⟩:∃ V,V = F k:=⟨_,rfl⟩
          rw [← hV] at Z8
          have hPe:Hid (∀ i,V (plcR k i) = P i):=hideit fun i=>by rw [hV,hP]
          have hFk:Hid (F (k + 1) = putF V (plcR k) (stK P 8) 16):=hideit (by rw [hV,hP]; exact Fs.out k)
          clear hP hV
          have C9:=hideit (RowAt.new wr 16 (wv fun _=>0#64) 25)
          have X9:Ext wr (wr.alloc (.cells (row 16 (wv fun _=>0#64)).toArray 25)):=(Below.refl _ _).alloc (Nat.le_refl _) _
          have Z9:=hideit (Z8.out.carry X9)
          have Q9:=hideit (Q8.out.carry X9)
          have R9:=hideit (R8.out.carry X9)
          have hE9:=hideit (Ext.trans hE8.out X9)
          have hc1:Hid (v < wr.heap.size):=hideit Z8.out.2.2
          have hc2:Hid (q < wr.heap.size):=hideit Q8.out.2.2
          have hc3:Hid (d < wr.heap.size):=hideit R8.out.2.2
          have hcw:Hid (w0.heap.size ≤ wr.heap.size):=hideit (Below.size hE8.out)
          clear Z8 Q8 R8 hE8 X9
          go_upto_region 10 with (fail)
          refine wp_region_lit ?_
          refine wpList_to rfl (.pointer (some ⟨wr.heap.size,0,none⟩)) (wr.alloc (.cells (row 16 (wv fun _=>0#64)).toArray 25)) (by simp [go_sem,hz46]) ?_
          simp only [jk,jq,jv,jy]
          generalize wr.alloc (.cells (row 16 (wv fun _=>0#64)).toArray 25) = w9 at *
          generalize wr.heap.size = c at *
          go_wp2
          go_loopw [10] (fun iv X=>∃ m:Nat,m ≤ 16 ∧ iv = .int .i64 m ∧ RowAt c 16 (wv (upW P m)) X ∧ RowAt v 128 (wv V) X ∧ RowAt q 128 (wv r) X ∧ RowAt d 128 (wv fun _=>0#64) X ∧ Ext w0 X) (fun iv _=>16 - (intOf iv).toNat)
          case atStart=>exact ⟨0,by omega,rfl,C9.out.congr (fun j _=>by simp only [wv,upW]; rw [if_neg (Nat.not_lt_zero _)]),Z9.out,Q9.out,R9.out,hE9.out⟩
          case round=>
            clear C9 Z9 Q9 R9 hE9
            obtain ⟨m,hm,rfl,hC,hZ,hQ,hR,hE⟩:=hrel
            have C10:=hideit hC
            have Z10:=hideit hZ
            have Q10:=hideit hQ
            have R10:=hideit hR
            have hE10:=hideit hE
            clear hC hZ hQ hR hE
            by_cases hlm:m < 16
            · have m0:(0:Int) ≤ (m:Int):=by omega
              have m1:(m:Int) < 16:=by omega
              have hpl:=plcR_lt k m hlt hlm
              have e1:wr.cell? ⟨v,plcR k m,none⟩ = some (.int .u64 ((P m).toNat:Int)):=(Z10.out.1 _ hpl).trans (by simp only [wv]; rw [hPe.out])
              obtain ⟨Z,hZe⟩:∃ Z,Z = plcR k m:=⟨_,rfl⟩
              rw [← hZe] at e1 hpl
              have f5:IntKind.i64.wrap (16 * (k:Int) + (m:Int)) = (Z:Int):=by rw [hZe]; unfold plcR; rw [IntKind.wrap_i64]; omega
              clear hZe
              have z0:(0:Int) ≤ (Z:Int):=by omega
              have z1:(Z:Int) < 128:=by omega
              have e2:=C10.out.1 m hlm
              have g2:=C10.out.2.1 m hlm
              simp only [wv] at e2
              go_upto_region 14 with (fail)
              refine wp_region_lit ?_
              refine wpList_run rfl (.int .i64 (m:Int)) (by simp [go_sem]) ?_
              simp only [jk,jq,jv,jy]
              refine wpList_run rfl (.int .i64 (k:Int)) (by simp [go_sem]) ?_
              simp only [jk,jq,jv,jy]
              refine wpList_run rfl (.int .i64 (16 * (k:Int))) (by simp [go_sem,kf]) ?_
              simp only [jk,jq,jv,jy]
              refine wpList_run rfl (.int .i64 (m:Int)) (by simp [go_sem]) ?_
              simp only [jk,jq,jv,jy]
              refine wpList_run rfl (.int .i64 (Z:Int)) (by simp [go_sem,f5]) ?_
              simp only [jk,jq,jv,jy]
              refine wpList_run rfl (.pointer (some ⟨v,Z,none⟩)) (by simp [go_sem,z0,z1]) ?_
              simp only [jk,jq,jv,jy]
              refine wpList_run rfl (.int .u64 ((P m).toNat:Int)) (by simp [go_sem,e1]) ?_
              simp only [jk,jq,jv,jy]
              refine wpList_run rfl (.pointer (some ⟨c,m,none⟩)) (by simp [go_sem,m0,m1]) ?_
              simp only [jk,jq,jv,jy]
              go_wp2
              exact ⟨⟨m + 1,by omega,by go_num,(C10.out.set m (.int .u64 ((P m).toNat:Int))).congr (fun j _=>by
                simp only [wv]
                rw [← upW_set P m j]
                split <;> rfl),Z10.out.other _ _ (by show c ≠ v; have:=hc1.out; omega),Q10.out.other _ _ (by show c ≠ q; have:=hc2.out; omega),R10.out.other _ _ (by show c ≠ d; have:=hc3.out; omega),Below.setCell hE10.out (by show w0.heap.size ≤ c; exact hcw.out) _⟩,by simp [intOf]; omega⟩
            · obtain rfl:m = 16:=by omega
              have m1:¬ ((16:Nat):Int) < 16:=by decide
              have C11:Hid (RowAt c 16 (wv P) wr):=hideit (C10.out.congr fun j hj=>by simp only [wv,upW]; rw [if_pos hj])
              have kc:=hideit (rStir_any P wr)
              clear C10 hlm hm
              go_upto_region 15 with (fail)
              refine wp_region_lit ?_
              refine wpList_load_mid rfl 25 (.tmp 9) rfl c 0 rfl (row 16 (wv P)) _ C11.out.range Tryd.underlying25 rfl (by rw [row_length]; exact info46) ?_
              simp only [jk,jq,jv,jy]
              refine wpList_call rfl (by simp [go_sem]; exact ⟨rfl,rfl⟩) ?_
              refine (kc.out).mono ?_
              rintro e w12 ⟨rfl,hX⟩
              refine ⟨_,rfl,?_⟩
              simp only [jk,jq,jv,jy]
              obtain ⟨s,hs⟩:∃ s,s = stK P 8:=⟨_,rfl⟩
              have hFs2:Hid (F (k + 1) = putF V (plcR k) s 16):=hideit (by rw [hs]; exact hFk.out)
              rw [← hs]
              clear hs hFk
              have C12:=hideit (C11.out.carry hX)
              have Z12:=hideit (Z10.out.carry hX)
              have Q12:=hideit (Q10.out.carry hX)
              have R12:=hideit (R10.out.carry hX)
              have hE12:=hideit (Ext.trans hE10.out hX)
              clear C11 Z10 Q10 R10 hE10 hX kc hPe
              refine wpList_store_mid rfl 25 (.tmp 9) (.tmp 48) rfl c 0 (row 16 (wv s)).toArray rfl rfl (by rw [row_size]; exact C12.out.there) (by rw [row_size]; exact info46) (row_one fun _ _=>rfl) ?_
              rw [show (row 16 (wv s)).toArray.toList = row 16 (wv s) from rfl]
              have C13:=hideit (C12.out.cells (g':=wv s))
              have Z13:=hideit (Z12.out.cellsOther (c:=c) (by have:=hc1.out; omega) (row 16 (wv s)) 0)
              have Q13:=hideit (Q12.out.cellsOther (c:=c) (by have:=hc2.out; omega) (row 16 (wv s)) 0)
              have R13:=hideit (R12.out.cellsOther (c:=c) (by have:=hc3.out; omega) (row 16 (wv s)) 0)
              have hE13:=hideit (below_setCells c hcw.out (row 16 (wv s)) 0 _ hE12.out)
              clear C12 Z12 Q12 R12 hE12
              generalize w12.setCells c 0 (row 16 (wv s)) = w13 at *
              simp only [Act.put]
              go_wp2
              go_loopw [11] (fun iv X=>∃ n:Nat,n ≤ 16 ∧ iv = .int .i64 n ∧ RowAt c 16 (wv s) X ∧ RowAt v 128 (wv (putF V (plcR k) s n)) X ∧ RowAt q 128 (wv r) X ∧ RowAt d 128 (wv fun _=>0#64) X ∧ Ext w0 X) (fun iv _=>16 - (intOf iv).toNat)
              case atStart=>exact ⟨0,by omega,rfl,C13.out,Z13.out,Q13.out,R13.out,hE13.out⟩
              case round=>
                clear C13 Z13 Q13 R13 hE13
                obtain ⟨n,hn,rfl,hC,hZ,hQ,hR,hE⟩:=hrel
                have C14:=hideit hC
                have Z14:=hideit hZ
                have Q14:=hideit hQ
                have R14:=hideit hR
                have hE14:=hideit hE
                clear hC hZ hQ hR hE
                by_cases hln:n < 16
                · have n0:(0:Int) ≤ (n:Int):=by omega
                  have n1:(n:Int) < 16:=by omega
                  have hpl:=plcR_lt k n hlt hln
                  have e1:wr.cell? ⟨c,n,none⟩ = some (.int .u64 ((s n).toNat:Int)):=C14.out.1 n hln
                  have hsc:Hid (∀ j,(if j = plcR k n then s n else putF V (plcR k) s n j) = putF V (plcR k) s (n + 1) j):=hideit fun j=>rfl
                  obtain ⟨Z,hZe⟩:∃ Z,Z = plcR k n:=⟨_,rfl⟩
                  rw [← hZe] at hsc hpl
                  have f5:IntKind.i64.wrap (16 * (k:Int) + (n:Int)) = (Z:Int):=by rw [hZe]; unfold plcR; rw [IntKind.wrap_i64]; omega
                  clear hZe
                  have z0:(0:Int) ≤ (Z:Int):=by omega
                  have z1:(Z:Int) < 128:=by omega
                  have e2:=Z14.out.1 Z hpl
                  have g2:=Z14.out.2.1 Z hpl
                  simp only [wv] at e2
                  go_upto_region 19 with (fail)
                  refine wp_region_lit ?_
                  refine wpList_run rfl (.int .i64 (k:Int)) (by simp [go_sem]) ?_
                  simp only [jk,jq,jv,jy]
                  refine wpList_run rfl (.int .i64 (16 * (k:Int))) (by simp [go_sem,kf]) ?_
                  simp only [jk,jq,jv,jy]
                  refine wpList_run rfl (.int .i64 (n:Int)) (by simp [go_sem]) ?_
                  simp only [jk,jq,jv,jy]
                  refine wpList_run rfl (.int .i64 (Z:Int)) (by simp [go_sem,f5]) ?_
                  simp only [jk,jq,jv,jy]
                  refine wpList_run rfl (.int .i64 (n:Int)) (by simp [go_sem]) ?_
                  simp only [jk,jq,jv,jy]
                  refine wpList_run rfl (.pointer (some ⟨c,n,none⟩)) (by simp [go_sem,n0,n1]) ?_
                  simp only [jk,jq,jv,jy]
                  refine wpList_run rfl (.int .u64 ((s n).toNat:Int)) (by simp [go_sem,e1]) ?_
                  simp only [jk,jq,jv,jy]
                  refine wpList_run rfl (.pointer (some ⟨v,Z,none⟩)) (by simp [go_sem,z0,z1]) ?_
                  simp only [jk,jq,jv,jy]
                  go_wp2
                  exact ⟨⟨n + 1,by omega,by go_num,C14.out.other _ _ (by show v ≠ c; have:=hc1.out; omega),(Z14.out.set Z (.int .u64 ((s n).toNat:Int))).congr (fun j _=>by
                    simp only [wv]
                    rw [← hsc.out j]
                    split <;> rfl),Q14.out.other _ _ (by show v ≠ q; have:=hv1.out; omega),R14.out.other _ _ (by show v ≠ d; have:=hv2.out; omega),Below.setCell hE14.out (by show w0.heap.size ≤ v; exact hvw.out) _⟩,by simp [intOf]; omega⟩
                · obtain rfl:n = 16:=by omega
                  have n1:¬ ((16:Nat):Int) < 16:=by decide
                  rw [← hFs2.out] at Z14
                  go_wp2
                  exact ⟨⟨k + 1,by omega,by go_num,Z14.out,Q14.out,R14.out,hE14.out⟩,by simp [intOf]; omega⟩
        · obtain rfl:k = 8:=by omega
          have k1:¬ ((8:Nat):Int) < 8:=by decide
          clear hlt hk
          have Z7:Hid (RowAt v 128 (wv (H 0)) wr):=hideit (by rw [hH0.out]; exact Z8.out)
          have Q7:=Q8
          have R7:=R8
          have hE7:=hE8
          clear Z8 Q8 R8 hE8
          go_wp2
          go_loopw [12] (fun iv X=>∃ k:Nat,k ≤ 8 ∧ iv = .int .i64 k ∧ RowAt v 128 (wv (H k)) X ∧ RowAt q 128 (wv r) X ∧ RowAt d 128 (wv fun _=>0#64) X ∧ Ext w0 X) (fun iv _=>8 - (intOf iv).toNat)
          case atStart=>exact ⟨0,by omega,rfl,Z7.out,Q7.out,R7.out,hE7.out⟩
          case round=>
            clear Z7 Q7 R7 hE7
            obtain ⟨k,hk,rfl,hZ,hQ,hR,hE⟩:=hrel
            have Z8:=hideit hZ
            have Q8:=hideit hQ
            have R8:=hideit hR
            have hE8:=hideit hE
            clear hZ hQ hR hE
            by_cases hlt:k < 8
            · have k0:(0:Int) ≤ (k:Int):=by omega
              have k1:(k:Int) < 8:=by omega
              have kf:IntKind.i64.wrap (2 * (k:Int)) = 2 * (k:Int):=by rw [IntKind.wrap_i64]; omega
              obtain ⟨P,hP⟩:∃ P:Nat → BitVec 64,P = fun i=>H k (plcC k i):=⟨_,rfl⟩
              obtain ⟨V,hV⟩:∃ V,V = H k:=⟨_,rfl⟩
              rw [← hV] at Z8
              have hPe:Hid (∀ i,V (plcC k i) = P i):=hideit fun i=>by rw [hV,hP]
              have hFk:Hid (H (k + 1) = putF V (plcC k) (stK P 8) 16):=hideit (by rw [hV,hP]; exact Hs.out k)
              clear hP hV
              have C9:=hideit (RowAt.new wr 16 (wv fun _=>0#64) 25)
              have X9:Ext wr (wr.alloc (.cells (row 16 (wv fun _=>0#64)).toArray 25)):=(Below.refl _ _).alloc (Nat.le_refl _) _
              have Z9:=hideit (Z8.out.carry X9)
              have Q9:=hideit (Q8.out.carry X9)
              have R9:=hideit (R8.out.carry X9)
              have hE9:=hideit (Ext.trans hE8.out X9)
              have hc1:Hid (v < wr.heap.size):=hideit Z8.out.2.2
              have hc2:Hid (q < wr.heap.size):=hideit Q8.out.2.2
              have hc3:Hid (d < wr.heap.size):=hideit R8.out.2.2
              have hcw:Hid (w0.heap.size ≤ wr.heap.size):=hideit (Below.size hE8.out)
              clear Z8 Q8 R8 hE8 X9
              go_upto_region 23 with (fail)
              refine wp_region_lit ?_
              refine wpList_to rfl (.pointer (some ⟨wr.heap.size,0,none⟩)) (wr.alloc (.cells (row 16 (wv fun _=>0#64)).toArray 25)) (by simp [go_sem,hz46]) ?_
              simp only [jk,jq,jv,jy]
              generalize wr.alloc (.cells (row 16 (wv fun _=>0#64)).toArray 25) = w9 at *
              generalize wr.heap.size = c at *
              go_wp2
              go_loopw [14] (fun iv X=>∃ m:Nat,m ≤ 16 ∧ iv = .int .i64 m ∧ RowAt c 16 (wv (upW P m)) X ∧ RowAt v 128 (wv V) X ∧ RowAt q 128 (wv r) X ∧ RowAt d 128 (wv fun _=>0#64) X ∧ Ext w0 X) (fun iv _=>16 - (intOf iv).toNat)
              case atStart=>exact ⟨0,by omega,rfl,C9.out.congr (fun j _=>by simp only [wv,upW]; rw [if_neg (Nat.not_lt_zero _)]),Z9.out,Q9.out,R9.out,hE9.out⟩
              case round=>
                clear C9 Z9 Q9 R9 hE9
                obtain ⟨m,hm,rfl,hC,hZ,hQ,hR,hE⟩:=hrel
                have C10:=hideit hC
                have Z10:=hideit hZ
                have Q10:=hideit hQ
                have R10:=hideit hR
                have hE10:=hideit hE
                clear hC hZ hQ hR hE
                by_cases hlm:m < 16
                · have m0:(0:Int) ≤ (m:Int):=by omega
                  have m1:(m:Int) < 16:=by omega
                  have hpl:=plcC_lt k m hlt hlm
                  have e1:wr.cell? ⟨v,plcC k m,none⟩ = some (.int .u64 ((P m).toNat:Int)):=(Z10.out.1 _ hpl).trans (by simp only [wv]; rw [hPe.out])
                  obtain ⟨Z,hZe⟩:∃ Z,Z = plcC k m:=⟨_,rfl⟩
                  rw [← hZe] at e1 hpl
                  obtain ⟨h,hh⟩:∃ h,h = m / 2:=⟨_,rfl⟩
                  obtain ⟨o,ho⟩:∃ o,o = m % 2:=⟨_,rfl⟩
                  have f0:((m:Int)).tdiv 2 = (h:Int):=by rw [hh,Int.tdiv_eq_ediv_of_nonneg (by omega)]; omega
                  have fh:IntKind.i64.wrap (h:Int) = (h:Int):=by rw [IntKind.wrap_i64]; omega
                  have f2:IntKind.i64.wrap (16 * (h:Int)) = 16 * (h:Int):=by rw [IntKind.wrap_i64]; omega
                  have f3:IntKind.i64.wrap (16 * (h:Int) + 2 * (k:Int)) = 16 * (h:Int) + 2 * (k:Int):=by rw [IntKind.wrap_i64]; omega
                  have f4:((m:Int)).tmod 2 = (o:Int):=by rw [ho,Int.tmod_eq_emod_of_nonneg (by omega)]; omega
                  have f5:IntKind.i64.wrap (16 * (h:Int) + 2 * (k:Int) + (o:Int)) = (Z:Int):=by rw [hZe,hh,ho]; unfold plcC; rw [IntKind.wrap_i64]; omega
                  clear hZe hh ho
                  have z0:(0:Int) ≤ (Z:Int):=by omega
                  have z1:(Z:Int) < 128:=by omega
                  have e2:=C10.out.1 m hlm
                  have g2:=C10.out.2.1 m hlm
                  simp only [wv] at e2
                  go_upto_region 27 with (fail)
                  refine wp_region_lit ?_
                  refine wpList_run rfl (.int .i64 (m:Int)) (by simp [go_sem]) ?_
                  simp only [jk,jq,jv,jy]
                  refine wpList_run rfl (.int .i64 (m:Int)) (by simp [go_sem]) ?_
                  simp only [jk,jq,jv,jy]
                  refine wpList_run rfl (.int .i64 (h:Int)) (by simp [go_sem,f0,fh]) ?_
                  simp only [jk,jq,jv,jy]
                  refine wpList_run rfl (.int .i64 (16 * (h:Int))) (by simp [go_sem,f2]) ?_
                  simp only [jk,jq,jv,jy]
                  refine wpList_run rfl (.int .i64 (k:Int)) (by simp [go_sem]) ?_
                  simp only [jk,jq,jv,jy]
                  refine wpList_run rfl (.int .i64 (2 * (k:Int))) (by simp [go_sem,kf]) ?_
                  simp only [jk,jq,jv,jy]
                  refine wpList_run rfl (.int .i64 (16 * (h:Int) + 2 * (k:Int))) (by simp [go_sem,f3]) ?_
                  simp only [jk,jq,jv,jy]
                  refine wpList_run rfl (.int .i64 (m:Int)) (by simp [go_sem]) ?_
                  simp only [jk,jq,jv,jy]
                  refine wpList_run rfl (.int .i64 (o:Int)) (by simp [go_sem,f4]) ?_
                  simp only [jk,jq,jv,jy]
                  refine wpList_run rfl (.int .i64 (Z:Int)) (by simp [go_sem,f5]) ?_
                  simp only [jk,jq,jv,jy]
                  refine wpList_run rfl (.pointer (some ⟨v,Z,none⟩)) (by simp [go_sem,z0,z1]) ?_
                  simp only [jk,jq,jv,jy]
                  refine wpList_run rfl (.int .u64 ((P m).toNat:Int)) (by simp [go_sem,e1]) ?_
                  simp only [jk,jq,jv,jy]
                  refine wpList_run rfl (.pointer (some ⟨c,m,none⟩)) (by simp [go_sem,m0,m1]) ?_
                  simp only [jk,jq,jv,jy]
                  go_wp2
                  exact ⟨⟨m + 1,by omega,by go_num,(C10.out.set m (.int .u64 ((P m).toNat:Int))).congr (fun j _=>by
                    simp only [wv]
                    rw [← upW_set P m j]
                    split <;> rfl),Z10.out.other _ _ (by show c ≠ v; have:=hc1.out; omega),Q10.out.other _ _ (by show c ≠ q; have:=hc2.out; omega),R10.out.other _ _ (by show c ≠ d; have:=hc3.out; omega),Below.setCell hE10.out (by show w0.heap.size ≤ c; exact hcw.out) _⟩,by simp [intOf]; omega⟩
                · obtain rfl:m = 16:=by omega
                  have m1:¬ ((16:Nat):Int) < 16:=by decide
                  have C11:Hid (RowAt c 16 (wv P) wr):=hideit (C10.out.congr fun j hj=>by simp only [wv,upW]; rw [if_pos hj])
                  have kc:=hideit (rStir_any P wr)
                  clear C10 hlm hm
                  go_upto_region 28 with (fail)
                  refine wp_region_lit ?_
                  refine wpList_load_mid rfl 25 (.tmp 13) rfl c 0 rfl (row 16 (wv P)) _ C11.out.range Tryd.underlying25 rfl (by rw [row_length]; exact info46) ?_
                  simp only [jk,jq,jv,jy]
                  refine wpList_call rfl (by simp [go_sem]; exact ⟨rfl,rfl⟩) ?_
                  refine (kc.out).mono ?_
                  rintro e w12 ⟨rfl,hX⟩
                  refine ⟨_,rfl,?_⟩
                  simp only [jk,jq,jv,jy]
                  obtain ⟨s,hs⟩:∃ s,s = stK P 8:=⟨_,rfl⟩
                  have hFs2:Hid (H (k + 1) = putF V (plcC k) s 16):=hideit (by rw [hs]; exact hFk.out)
                  rw [← hs]
                  clear hs hFk
                  have C12:=hideit (C11.out.carry hX)
                  have Z12:=hideit (Z10.out.carry hX)
                  have Q12:=hideit (Q10.out.carry hX)
                  have R12:=hideit (R10.out.carry hX)
                  have hE12:=hideit (Ext.trans hE10.out hX)
                  clear C11 Z10 Q10 R10 hE10 hX kc hPe
                  refine wpList_store_mid rfl 25 (.tmp 13) (.tmp 83) rfl c 0 (row 16 (wv s)).toArray rfl rfl (by rw [row_size]; exact C12.out.there) (by rw [row_size]; exact info46) (row_one fun _ _=>rfl) ?_
                  rw [show (row 16 (wv s)).toArray.toList = row 16 (wv s) from rfl]
                  have C13:=hideit (C12.out.cells (g':=wv s))
                  have Z13:=hideit (Z12.out.cellsOther (c:=c) (by have:=hc1.out; omega) (row 16 (wv s)) 0)
                  have Q13:=hideit (Q12.out.cellsOther (c:=c) (by have:=hc2.out; omega) (row 16 (wv s)) 0)
                  have R13:=hideit (R12.out.cellsOther (c:=c) (by have:=hc3.out; omega) (row 16 (wv s)) 0)
                  have hE13:=hideit (below_setCells c hcw.out (row 16 (wv s)) 0 _ hE12.out)
                  clear C12 Z12 Q12 R12 hE12
                  generalize w12.setCells c 0 (row 16 (wv s)) = w13 at *
                  simp only [Act.put]
                  go_wp2
                  go_loopw [15] (fun iv X=>∃ n:Nat,n ≤ 16 ∧ iv = .int .i64 n ∧ RowAt c 16 (wv s) X ∧ RowAt v 128 (wv (putF V (plcC k) s n)) X ∧ RowAt q 128 (wv r) X ∧ RowAt d 128 (wv fun _=>0#64) X ∧ Ext w0 X) (fun iv _=>16 - (intOf iv).toNat)
                  case atStart=>exact ⟨0,by omega,rfl,C13.out,Z13.out,Q13.out,R13.out,hE13.out⟩
                  case round=>
                    clear C13 Z13 Q13 R13 hE13
                    obtain ⟨n,hn,rfl,hC,hZ,hQ,hR,hE⟩:=hrel
                    have C14:=hideit hC
                    have Z14:=hideit hZ
                    have Q14:=hideit hQ
                    have R14:=hideit hR
                    have hE14:=hideit hE
                    clear hC hZ hQ hR hE
                    by_cases hln:n < 16
                    · have n0:(0:Int) ≤ (n:Int):=by omega
                      have n1:(n:Int) < 16:=by omega
                      have hpl:=plcC_lt k n hlt hln
                      have e1:wr.cell? ⟨c,n,none⟩ = some (.int .u64 ((s n).toNat:Int)):=C14.out.1 n hln
                      have hsc:Hid (∀ j,(if j = plcC k n then s n else putF V (plcC k) s n j) = putF V (plcC k) s (n + 1) j):=hideit fun j=>rfl
                      obtain ⟨Z,hZe⟩:∃ Z,Z = plcC k n:=⟨_,rfl⟩
                      rw [← hZe] at hsc hpl
                      obtain ⟨h,hh⟩:∃ h,h = n / 2:=⟨_,rfl⟩
                      obtain ⟨o,ho⟩:∃ o,o = n % 2:=⟨_,rfl⟩
                      have f0:((n:Int)).tdiv 2 = (h:Int):=by rw [hh,Int.tdiv_eq_ediv_of_nonneg (by omega)]; omega
                      have fh:IntKind.i64.wrap (h:Int) = (h:Int):=by rw [IntKind.wrap_i64]; omega
                      have f2:IntKind.i64.wrap (16 * (h:Int)) = 16 * (h:Int):=by rw [IntKind.wrap_i64]; omega
                      have f3:IntKind.i64.wrap (16 * (h:Int) + 2 * (k:Int)) = 16 * (h:Int) + 2 * (k:Int):=by rw [IntKind.wrap_i64]; omega
                      have f4:((n:Int)).tmod 2 = (o:Int):=by rw [ho,Int.tmod_eq_emod_of_nonneg (by omega)]; omega
                      have f5:IntKind.i64.wrap (16 * (h:Int) + 2 * (k:Int) + (o:Int)) = (Z:Int):=by rw [hZe,hh,ho]; unfold plcC; rw [IntKind.wrap_i64]; omega
                      clear hZe hh ho
                      have z0:(0:Int) ≤ (Z:Int):=by omega
                      have z1:(Z:Int) < 128:=by omega
                      have e2:=Z14.out.1 Z hpl
                      have g2:=Z14.out.2.1 Z hpl
                      simp only [wv] at e2
                      go_upto_region 32 with (fail)
                      refine wp_region_lit ?_
                      refine wpList_run rfl (.int .i64 (n:Int)) (by simp [go_sem]) ?_
                      simp only [jk,jq,jv,jy]
                      refine wpList_run rfl (.int .i64 (h:Int)) (by simp [go_sem,f0,fh]) ?_
                      simp only [jk,jq,jv,jy]
                      refine wpList_run rfl (.int .i64 (16 * (h:Int))) (by simp [go_sem,f2]) ?_
                      simp only [jk,jq,jv,jy]
                      refine wpList_run rfl (.int .i64 (k:Int)) (by simp [go_sem]) ?_
                      simp only [jk,jq,jv,jy]
                      refine wpList_run rfl (.int .i64 (2 * (k:Int))) (by simp [go_sem,kf]) ?_
                      simp only [jk,jq,jv,jy]
                      refine wpList_run rfl (.int .i64 (16 * (h:Int) + 2 * (k:Int))) (by simp [go_sem,f3]) ?_
                      simp only [jk,jq,jv,jy]
                      refine wpList_run rfl (.int .i64 (n:Int)) (by simp [go_sem]) ?_
                      simp only [jk,jq,jv,jy]
                      refine wpList_run rfl (.int .i64 (o:Int)) (by simp [go_sem,f4]) ?_
                      simp only [jk,jq,jv,jy]
                      refine wpList_run rfl (.int .i64 (Z:Int)) (by simp [go_sem,f5]) ?_
                      simp only [jk,jq,jv,jy]
                      refine wpList_run rfl (.int .i64 (n:Int)) (by simp [go_sem]) ?_
                      simp only [jk,jq,jv,jy]
                      refine wpList_run rfl (.pointer (some ⟨c,n,none⟩)) (by simp [go_sem,n0,n1]) ?_
                      simp only [jk,jq,jv,jy]
                      refine wpList_run rfl (.int .u64 ((s n).toNat:Int)) (by simp [go_sem,e1]) ?_
                      simp only [jk,jq,jv,jy]
                      refine wpList_run rfl (.pointer (some ⟨v,Z,none⟩)) (by simp [go_sem,z0,z1]) ?_
                      simp only [jk,jq,jv,jy]
                      go_wp2
                      exact ⟨⟨n + 1,by omega,by go_num,C14.out.other _ _ (by show v ≠ c; have:=hc1.out; omega),(Z14.out.set Z (.int .u64 ((s n).toNat:Int))).congr (fun j _=>by
                        simp only [wv]
                        rw [← hsc.out j]
                        split <;> rfl),Q14.out.other _ _ (by show v ≠ q; have:=hv1.out; omega),R14.out.other _ _ (by show v ≠ d; have:=hv2.out; omega),Below.setCell hE14.out (by show w0.heap.size ≤ v; exact hvw.out) _⟩,by simp [intOf]; omega⟩
                    · obtain rfl:n = 16:=by omega
                      have n1:¬ ((16:Nat):Int) < 16:=by decide
                      rw [← hFs2.out] at Z14
                      go_wp2
                      exact ⟨⟨k + 1,by omega,by go_num,Z14.out,Q14.out,R14.out,hE14.out⟩,by simp [intOf]; omega⟩
            · obtain rfl:k = 8:=by omega
              have k1:¬ ((8:Nat):Int) < 8:=by decide
              clear hlt hk
              have Z7:Hid (RowAt v 128 (wv z) wr):=hideit (by rw [hzz.out]; exact Z8.out)
              have Q7:=Q8
              have R7:=R8
              have hE7:=hE8
              clear Z8 Q8 R8 hE8
              go_wp2
              go_loopw [16] (fun iv X=>∃ i:Nat,i ≤ 128 ∧ iv = .int .i64 i ∧ RowAt v 128 (wv (upX z r i)) X ∧ RowAt q 128 (wv r) X ∧ RowAt d 128 (wv fun _=>0#64) X ∧ Ext w0 X) (fun iv _=>128 - (intOf iv).toNat)
              case atStart=>exact ⟨0,by omega,rfl,Z7.out.congr (fun j _=>by simp only [wv,upX]; rw [if_neg (Nat.not_lt_zero _)]),Q7.out,R7.out,hE7.out⟩
              case round=>
                clear Z7 Q7 R7 hE7
                obtain ⟨i,hi,rfl,hZ,hQ,hR,hE⟩:=hrel
                have Z5:=hideit hZ
                have Q5:=hideit hQ
                have R5:=hideit hR
                have hE5:=hideit hE
                clear hZ hQ hR hE
                by_cases hlt:i < 128
                · have i0:(0:Int) ≤ (i:Int):=by omega
                  have i1:(i:Int) < 128:=by omega
                  have hzi:Hid (upX z r i i = z i):=hideit (by unfold upX; rw [if_neg (Nat.lt_irrefl _)])
                  go_upto_region 36 with (fail)
                  have hne:=kept_ne wr.drew
                  have e1:∀ q9:Kept (Ext wr.drew),q9.w.cell? ⟨v,i,none⟩ = some (.int .u64 ((z i).toNat:Int)):=fun q9=>(Z5.out.kept i hlt q9).trans (by simp only [wv]; rw [hzi.out])
                  have e2:∀ q9:Kept (Ext wr.drew),q9.w.cell? ⟨q,i,none⟩ = some (.int .u64 ((r i).toNat:Int)):=fun q9=>Q5.out.kept i hlt q9
                  have f1:=xW_fact (z i) (r i)
                  refine wp_region_late 8 (by kernel_rfl) (by kernel_rfl) (by decide) ?_
                  simp only [List.take_succ_cons,List.take_zero,List.drop_succ_cons,List.drop_zero]
                  refine wpStrong_run 8 rfl ?_
                  simp only [List.take_succ_cons,List.take_zero,List.drop_succ_cons,List.drop_zero]
                  repeat (go_big_quiet_step (fail))
                  refine wpQuiet_nil ?_
                  refine wpStrong_nil ?_
                  intro X hX
                  have hwX:Ext wr X:=Ext.trans (Below.refl _ _).drew hX
                  clear hX hne e1 e2
                  have Z6:=hideit (Z5.out.carry hwX)
                  have Q6:=hideit (Q5.out.carry hwX)
                  have R6:=hideit (R5.out.carry hwX)
                  have hE6:=hideit (Ext.trans hE5.out hwX)
                  clear Z5 Q5 R5 hE5 hwX f1
                  have e3:=Z6.out.1 i hlt
                  have g3:=Z6.out.2.1 i hlt
                  simp only [wv] at e3
                  go_wp2
                  exact ⟨⟨i + 1,by omega,by go_num,(Z6.out.set i (.int .u64 ((xW (z i) (r i)).toNat:Int))).congr (fun j _=>by
                    simp only [wv,upX]
                    by_cases h1:j = i
                    · rw [if_pos h1,if_pos (by omega),h1]
                    · rw [if_neg h1]
                      by_cases h2:j < i
                      · rw [if_pos h2,if_pos (by omega)]
                      · rw [if_neg h2,if_neg (by omega)]),Q6.out.other _ _ (by show v ≠ q; have:=hv1.out; omega),R6.out.other _ _ (by show v ≠ d; have:=hv2.out; omega),Below.setCell hE6.out (by show w0.heap.size ≤ v; exact hvw.out) _⟩,by simp [intOf]; omega⟩
                · obtain rfl:i = 128:=by omega
                  have i1:¬ ((128:Nat):Int) < 128:=by decide
                  have Z6:Hid (RowAt v 128 (wv g) wr):=hideit (Z5.out.congr fun j hj=>by rw [hg.out]; simp only [wv,upX,xrF]; rw [if_pos hj])
                  clear Z5 Q5 hlt hi
                  go_upto_region 37 with (fail)
                  refine wp_region_lit ?_
                  refine wpList_load_mid rfl 24 (.tmp 7) rfl v 0 rfl (row 128 (wv g)) _ Z6.out.range Tryd.underlying24 rfl (by rw [row_length]; exact infoPg) ?_
                  simp only [jk,jq,jv,jy]
                  refine wpList_store_mid rfl 24 (.tmp 4) (.tmp 114) rfl d 0 (row 128 (wv g)).toArray rfl rfl (by rw [row_size]; exact R5.out.there) (by rw [row_size]; exact infoPg) (row_one fun _ _=>rfl) ?_
                  rw [show (row 128 (wv g)).toArray.toList = row 128 (wv g) from rfl]
                  have h9:=hideit (R5.out.cells (g':=wv g))
                  have hE10:=hideit (below_setCells d hdw.out (row 128 (wv g)) 0 _ hE5.out)
                  generalize wr.setCells d 0 (row 128 (wv g)) = w20 at *
                  clear Z6 R5 hE5
                  simp only [Act.put]
                  go_wp2
                  exact bodyPost_ret (ret_row Tryd.results55 rfl h9.out Tryd.underlying24 rfl infoPg) rfl ⟨rfl,hE10.out⟩
theorem rpages_any (x y:Nat → BitVec 64) (w:World):
    Calls Tryd.prog 55 #[.agg (row 128 (wv x)).toArray,.agg (row 128 (wv y)).toArray] w fun e w'=>e = .returned (.agg (row 128 (wv (pagesF x y))).toArray) ∧ Ext w w':=
  rpages_core x y _ _ _ (linesK plcR (xrF x y)) (linesK plcC (linesK plcR (xrF x y) 8)) rfl rfl (fun _=>rfl) rfl (fun _=>rfl) rfl rfl w
end Go.Proofs.YtfbmeclpcgdmhabDoor
set_option linter.unusedSimpArgs false
namespace Go.Proofs.YtfbmeclpcgdmhabDoor
open Go.RowKit Go.BigFrame
set_option linter.unusedVariables false
theorem zAK_step {z ps sl ln tot T n:Nat} {X:World} (h:RowAt z 128 (wv (zAK ps sl ln tot T n)) X) (_:Nat) (hn:n < 128):RowAt z 128 (wv (zAK ps sl ln tot T (n + 1))) (X.setCell ⟨z,n,none⟩ (.int .u64 ((zA ps sl ln tot T n).toNat:Int))):=(h.set n _).congr fun i hi=>by
  unfold wv zAK
  by_cases e:i = n
  · rw [if_pos e,if_pos (by omega),e]
  · rw [if_neg e]
    by_cases e2:i < n
    · rw [if_pos e2,if_pos (by omega)]
    · rw [if_neg e2,if_neg (by omega)]
theorem ext_clA (W:World):Cl Ext fun X=>Ext W X:=fun _ _ h k=>Ext.trans h k
def mkA (B:Nat) (_:Nat) (v:Value) (X:World):Prop:=∃ b,v = .pointer (some ⟨b,0,none⟩) ∧ B ≤ b ∧ RowAt b 128 (wv fun _=>0#64) X
theorem mkA_cl (B:Nat) (i:Nat) (v:Value):Cl Ext (mkA B i v):=fun X Y h k=>by
  obtain ⟨b,h1,h2,h3⟩:=h
  exact ⟨b,h1,h2,h3.carry k⟩
set_option maxRecDepth 20000 in
set_option maxHeartbeats 4000000 in
theorem rword_a (p T M L q b c ps sl ln k tot:Nat) (y:Nat → BitVec 64) (w:World) (hM:RowAt p 9 (rmV T M L q b c ps sl ln k) w) (h1:¬ 0 < ps) (h2:¬ 1 < sl) (u0:Hid (IntKind.u64.wrap (ps:Int) = ((zA ps sl ln tot T 0).toNat:Int))) (u1:Hid (IntKind.u64.wrap (ln:Int) = ((zA ps sl ln tot T 1).toNat:Int))) (u2:Hid (IntKind.u64.wrap (sl:Int) = ((zA ps sl ln tot T 2).toNat:Int))) (u3:Hid (IntKind.u64.wrap (tot:Int) = ((zA ps sl ln tot T 3).toNat:Int))) (u4:Hid (IntKind.u64.wrap (T:Int) = ((zA ps sl ln tot T 4).toNat:Int))) (u6:Hid (IntKind.u64.wrap 1 = ((zA ps sl ln tot T 6).toNat:Int))) (u5:Hid (((zA ps sl ln tot T 5).toNat:Int) = 2)) (m0:Hid (IntKind.i64.wrap ((q:Int) * (L:Int)) = (tot:Int))) (m1:Hid ((k:Int) / 128 = 0)) (m2:Hid ((k:Int).tmod 128 = (k:Int))) (kl:Hid (k < 128)):Calls Tryd.prog 54 #[.pointer (some ⟨p,0,none⟩),.agg (row 128 (wv y)).toArray] w fun e w'=>e = .returned (.int .u64 ((adA ps sl ln tot T k).toNat:Int)) ∧ Ext w w':=by
  have c0:Hid (IntKind.i64.wrap 0 = 0):=by show _ = _; rw [IntKind.wrap_i64] <;> omega
  have c1:Hid (IntKind.i64.wrap 1 = 1):=by show _ = _; rw [IntKind.wrap_i64] <;> omega
  have a1:Hid (¬ 0 < ps):=h1
  have a2:Hid (¬ (1:Int) < (sl:Int)):=by show ¬ _; omega
  replace hM:=hideit hM
  have hE:=hideit (Ext.refl w)
  go_enter Tryd.func54,Tryd.ntmps54
  go_upto_region 0 with (fail)
  refine wp_region_lit ?_
  have A0:=hideit (RowAt.new w 128 (wv y) 24)
  have XB:Ext w (w.alloc (.cells (row 128 (wv y)).toArray 24)):=(Below.refl _ _).alloc (Nat.le_refl _) _
  have A1:=hideit (hM.out.alloc (.cells (row 128 (wv y)).toArray 24))
  have AE:=hideit (Below.alloc hE.out (Below.size hE.out) (.cells (row 128 (wv y)).toArray 24))
  have AB:=hideit (Below.size hE.out)
  have D0:Hid (p ≠ w.heap.size):=Nat.ne_of_lt hM.out.2.2
  clear XB
  refine wpList_to rfl (.pointer (some ⟨w.heap.size,0,none⟩)) (w.alloc (.cells (row 128 (wv y)).toArray 24)) (by simp [go_sem]) ?_
  simp only [jk,jq,jv,jy]
  generalize w.alloc (.cells (row 128 (wv y)).toArray 24) = x2 at A0 A1 AE ⊢
  obtain ⟨z1,ez1⟩:∃ b,b = w.heap.size:=⟨_,rfl⟩
  have ABz1:Hid (w.heap.size ≤ z1):=by rw [ez1]; exact AB.out
  clear AB
  rw [← ez1] at A0 D0 ⊢
  clear ez1
  have Hz1:=A0
  clear A0
  replace hM:=A1
  clear A1
  replace hE:=AE
  clear AE
  have Dz1_0:=D0
  clear D0
  refine xm [some (.int .u64 0)] (by kernel_rfl) (by simp [xr,go_sem]) ?_
  simp only [xw,p0,p1,p2,p3]
  go_upto_region 1 with (fail)
  refine wp_region_lit ?_
  have m3:x2.cell? ⟨p,5,none⟩ = some (.int .i64 (ps:Int)):=hM.out.1 5 (by decide)
  have m4:x2.cell? ⟨p,6,none⟩ = some (.int .i64 (sl:Int)):=hM.out.1 6 (by decide)
  refine xm [some (.pointer (some ⟨p,0,none⟩)),some (.pointer (some ⟨p,0,none⟩)),some (.pointer (some ⟨p,5,none⟩)),some (.int .i64 (ps:Int)),some (.bool false),some (.bool false),some (.pointer (some ⟨p,0,none⟩)),some (.pointer (some ⟨p,0,none⟩)),some (.pointer (some ⟨p,6,none⟩)),some (.int .i64 (sl:Int)),some (.bool false),some (.bool false)] (by kernel_rfl) (by simp [xr,go_sem,m3,a1.out,m4,a2.out]) ?_
  simp only [xw,p0,p1,p2,p3]
  clear m3
  clear m4
  go_upto_region 3 with (fail)
  refine wp_region_lit ?_
  have A0:=hideit (RowAt.new x2 128 (wv fun _=>0#64) 24)
  have XB:Ext x2 (x2.alloc (.cells (row 128 (wv fun _=>0#64)).toArray 24)):=(Below.refl _ _).alloc (Nat.le_refl _) _
  have A1:=hideit (hM.out.alloc (.cells (row 128 (wv fun _=>0#64)).toArray 24))
  have A2:=hideit (Hz1.out.alloc (.cells (row 128 (wv fun _=>0#64)).toArray 24))
  have AE:=hideit (Below.alloc hE.out (Below.size hE.out) (.cells (row 128 (wv fun _=>0#64)).toArray 24))
  have AB:=hideit (Below.size hE.out)
  have D0:Hid (p ≠ x2.heap.size):=Nat.ne_of_lt hM.out.2.2
  have D1:Hid (z1 ≠ x2.heap.size):=Nat.ne_of_lt Hz1.out.2.2
  clear XB
  refine wpList_to rfl (.pointer (some ⟨x2.heap.size,0,none⟩)) (x2.alloc (.cells (row 128 (wv fun _=>0#64)).toArray 24)) (xalloc 24 _ rfl (zero31p _)) ?_
  simp only [jk,jq,jv,jy]
  generalize x2.alloc (.cells (row 128 (wv fun _=>0#64)).toArray 24) = x6 at A0 A1 A2 AE ⊢
  obtain ⟨z5,ez5⟩:∃ b,b = x2.heap.size:=⟨_,rfl⟩
  have ABz5:Hid (w.heap.size ≤ z5):=by rw [ez5]; exact AB.out
  clear AB
  rw [← ez5] at A0 D0 D1 ⊢
  clear ez5
  have Hz5:=A0
  clear A0
  replace hM:=A1
  clear A1
  replace Hz1:=A2
  clear A2
  replace hE:=AE
  clear AE
  have Dz5_0:=D0
  clear D0
  have Dz5_1:=D1
  clear D1
  have A0:=hideit (RowAt.new x6 128 (wv fun _=>0#64) 24)
  have XB:Ext x6 (x6.alloc (.cells (row 128 (wv fun _=>0#64)).toArray 24)):=(Below.refl _ _).alloc (Nat.le_refl _) _
  have A1:=hideit (hM.out.alloc (.cells (row 128 (wv fun _=>0#64)).toArray 24))
  have A2:=hideit (Hz1.out.alloc (.cells (row 128 (wv fun _=>0#64)).toArray 24))
  have A3:=hideit (Hz5.out.alloc (.cells (row 128 (wv fun _=>0#64)).toArray 24))
  have AE:=hideit (Below.alloc hE.out (Below.size hE.out) (.cells (row 128 (wv fun _=>0#64)).toArray 24))
  have AB:=hideit (Below.size hE.out)
  have D0:Hid (p ≠ x6.heap.size):=Nat.ne_of_lt hM.out.2.2
  have D1:Hid (z1 ≠ x6.heap.size):=Nat.ne_of_lt Hz1.out.2.2
  have D2:Hid (z5 ≠ x6.heap.size):=Nat.ne_of_lt Hz5.out.2.2
  clear XB
  refine wpList_to rfl (.pointer (some ⟨x6.heap.size,0,none⟩)) (x6.alloc (.cells (row 128 (wv fun _=>0#64)).toArray 24)) (xalloc 24 _ rfl (zero31p _)) ?_
  simp only [jk,jq,jv,jy]
  generalize x6.alloc (.cells (row 128 (wv fun _=>0#64)).toArray 24) = x8 at A0 A1 A2 A3 AE ⊢
  obtain ⟨z7,ez7⟩:∃ b,b = x6.heap.size:=⟨_,rfl⟩
  have ABz7:Hid (w.heap.size ≤ z7):=by rw [ez7]; exact AB.out
  clear AB
  rw [← ez7] at A0 D0 D1 D2 ⊢
  clear ez7
  have Hz7:=A0
  clear A0
  replace hM:=A1
  clear A1
  replace Hz1:=A2
  clear A2
  replace Hz5:=A3
  clear A3
  replace hE:=AE
  clear AE
  have Dz7_0:=D0
  clear D0
  have Dz7_1:=D1
  clear D1
  have Dz7_2:=D2
  clear D2
  have Z0:Hid (RowAt z5 128 (wv (zAK ps sl ln tot T 0)) x8.drew):=Hz5.out.drew.congr fun j _=>by unfold wv zAK; rw [if_neg (Nat.not_lt_zero _)]
  have O0:Hid (RowAt z7 128 (wv fun _=>0#64) x8.drew):=Hz7.out.drew
  have E0:Hid (Ext w x8.drew):=Ext.draw hE.out
  have P0:Hid (RowAt p 9 (rmV T M L q b c ps sl ln k) x8.drew):=hM.out.drew
  go_upto_region 4 with (fail)
  refine wp_region_lad (fun X=>RowAt p 9 (rmV T M L q b c ps sl ln k) X) [(false,0),(false,1),(false,2),(false,3),(false,4),(false,5),(false,6),(false,7),(false,8),(false,9),(false,10),(false,11),(false,12),(false,13),(false,14),(false,15),(false,16),(false,17),(false,18),(false,19),(false,20),(false,21),(false,22),(false,23),(false,24),(false,25),(false,26),(false,27),(false,28),(false,29),(false,30),(false,31),(false,32),(false,33),(false,34),(false,35),(false,36),(false,37),(false,38),(false,39),(true,40),(false,41),(true,42),(false,43),(true,44),(false,45),(true,46),(false,47),(true,48),(false,49),(true,50),(false,51),(true,52)] (by kernel_rfl) (by kernel_rfl) (by decide +kernel) (by decide +kernel) (by decide +kernel) (by decide +kernel) P0.out ?_
  refine wpX_f _ (.pointer (some ⟨p,0,none⟩)) rfl rfl (fun X hX=>by simp [go_sem]) ?_
  simp only [List.getElem_toArray,List.getElem_cons_zero,Act.put,List.setIfInBounds_toArray,List.set_cons_zero,List.set_cons_succ]
  refine wpX_f _ (.pointer (some ⟨p,0,none⟩)) rfl rfl (fun X hX=>by simp [go_sem]) ?_
  simp only [jw,jz,kj,jk,jq,jv,jy]
  refine wpX_f _ (.pointer (some ⟨p,5,none⟩)) rfl rfl (fun X hX=>by simp [go_sem]) ?_
  simp only [jw,jz,kj,jk,jq,jv,jy]
  refine wpX_f _ (.int .i64 (ps:Int)) rfl rfl (fun X hX=>by have e:X.cell? ⟨p,5,none⟩ = some (.int .i64 (ps:Int)):=hX.1 5 (by decide); simp [go_sem,e]) ?_
  simp only [jw,jz,kj,jk,jq,jv,jy]
  refine wpX_f _ (.int .u64 ((zA ps sl ln tot T 0).toNat:Int)) rfl rfl (fun X hX=>by simp [go_sem,u0.out]) ?_
  simp only [jw,jz,kj,jk,jq,jv,jy]
  refine wpX_f _ (.pointer (some ⟨p,0,none⟩)) rfl rfl (fun X hX=>by simp [go_sem]) ?_
  simp only [jw,jz,kj,jk,jq,jv,jy]
  refine wpX_f _ (.pointer (some ⟨p,0,none⟩)) rfl rfl (fun X hX=>by simp [go_sem]) ?_
  simp only [jw,jz,kj,jk,jq,jv,jy]
  refine wpX_f _ (.pointer (some ⟨p,7,none⟩)) rfl rfl (fun X hX=>by simp [go_sem]) ?_
  simp only [jw,jz,kj,jk,jq,jv,jy]
  refine wpX_f _ (.int .i64 (ln:Int)) rfl rfl (fun X hX=>by have e:X.cell? ⟨p,7,none⟩ = some (.int .i64 (ln:Int)):=hX.1 7 (by decide); simp [go_sem,e]) ?_
  simp only [jw,jz,kj,jk,jq,jv,jy]
  refine wpX_f _ (.int .u64 ((zA ps sl ln tot T 1).toNat:Int)) rfl rfl (fun X hX=>by simp [go_sem,u1.out]) ?_
  simp only [jw,jz,kj,jk,jq,jv,jy]
  refine wpX_f _ (.pointer (some ⟨p,0,none⟩)) rfl rfl (fun X hX=>by simp [go_sem]) ?_
  simp only [jw,jz,kj,jk,jq,jv,jy]
  refine wpX_f _ (.pointer (some ⟨p,0,none⟩)) rfl rfl (fun X hX=>by simp [go_sem]) ?_
  simp only [jw,jz,kj,jk,jq,jv,jy]
  refine wpX_f _ (.pointer (some ⟨p,6,none⟩)) rfl rfl (fun X hX=>by simp [go_sem]) ?_
  simp only [jw,jz,kj,jk,jq,jv,jy]
  refine wpX_f _ (.int .i64 (sl:Int)) rfl rfl (fun X hX=>by have e:X.cell? ⟨p,6,none⟩ = some (.int .i64 (sl:Int)):=hX.1 6 (by decide); simp [go_sem,e]) ?_
  simp only [jw,jz,kj,jk,jq,jv,jy]
  refine wpX_f _ (.int .u64 ((zA ps sl ln tot T 2).toNat:Int)) rfl rfl (fun X hX=>by simp [go_sem,u2.out]) ?_
  simp only [jw,jz,kj,jk,jq,jv,jy]
  refine wpX_f _ (.pointer (some ⟨p,0,none⟩)) rfl rfl (fun X hX=>by simp [go_sem]) ?_
  simp only [jw,jz,kj,jk,jq,jv,jy]
  refine wpX_f _ (.pointer (some ⟨p,0,none⟩)) rfl rfl (fun X hX=>by simp [go_sem]) ?_
  simp only [jw,jz,kj,jk,jq,jv,jy]
  refine wpX_f _ (.pointer (some ⟨p,3,none⟩)) rfl rfl (fun X hX=>by simp [go_sem]) ?_
  simp only [jw,jz,kj,jk,jq,jv,jy]
  refine wpX_f _ (.int .i64 (q:Int)) rfl rfl (fun X hX=>by have e:X.cell? ⟨p,3,none⟩ = some (.int .i64 (q:Int)):=hX.1 3 (by decide); simp [go_sem,e]) ?_
  simp only [jw,jz,kj,jk,jq,jv,jy]
  refine wpX_f _ (.pointer (some ⟨p,0,none⟩)) rfl rfl (fun X hX=>by simp [go_sem]) ?_
  simp only [jw,jz,kj,jk,jq,jv,jy]
  refine wpX_f _ (.pointer (some ⟨p,0,none⟩)) rfl rfl (fun X hX=>by simp [go_sem]) ?_
  simp only [jw,jz,kj,jk,jq,jv,jy]
  refine wpX_f _ (.pointer (some ⟨p,0,none⟩)) rfl rfl (fun X hX=>by simp [go_sem]) ?_
  simp only [jw,jz,kj,jk,jq,jv,jy]
  refine wpX_f _ (.pointer (some ⟨p,2,none⟩)) rfl rfl (fun X hX=>by simp [go_sem]) ?_
  simp only [jw,jz,kj,jk,jq,jv,jy]
  refine wpX_f _ (.int .i64 (L:Int)) rfl rfl (fun X hX=>by have e:X.cell? ⟨p,2,none⟩ = some (.int .i64 (L:Int)):=hX.1 2 (by decide); simp [go_sem,e]) ?_
  simp only [jw,jz,kj,jk,jq,jv,jy]
  refine wpX_f _ (.int .i64 (tot:Int)) rfl rfl (fun X hX=>by simp [go_sem,m0.out]) ?_
  simp only [jw,jz,kj,jk,jq,jv,jy]
  refine wpX_f _ (.int .u64 ((zA ps sl ln tot T 3).toNat:Int)) rfl rfl (fun X hX=>by simp [go_sem,u3.out]) ?_
  simp only [jw,jz,kj,jk,jq,jv,jy]
  refine wpX_f _ (.pointer (some ⟨p,0,none⟩)) rfl rfl (fun X hX=>by simp [go_sem]) ?_
  simp only [jw,jz,kj,jk,jq,jv,jy]
  refine wpX_f _ (.pointer (some ⟨p,0,none⟩)) rfl rfl (fun X hX=>by simp [go_sem]) ?_
  simp only [jw,jz,kj,jk,jq,jv,jy]
  refine wpX_f _ (.pointer (some ⟨p,0,none⟩)) rfl rfl (fun X hX=>by simp [go_sem]) ?_
  simp only [jw,jz,kj,jk,jq,jv,jy]
  refine wpX_f _ (.pointer (some ⟨p,0,none⟩)) rfl rfl (fun X hX=>by simp [go_sem]) ?_
  simp only [jw,jz,kj,jk,jq,jv,jy]
  refine wpX_f _ (.int .i64 (T:Int)) rfl rfl (fun X hX=>by have e:X.cell? ⟨p,0,none⟩ = some (.int .i64 (T:Int)):=hX.1 0 (by decide); simp [go_sem,e]) ?_
  simp only [jw,jz,kj,jk,jq,jv,jy]
  refine wpX_f _ (.int .u64 ((zA ps sl ln tot T 4).toNat:Int)) rfl rfl (fun X hX=>by simp [go_sem,u4.out]) ?_
  simp only [jw,jz,kj,jk,jq,jv,jy]
  refine wpX_f _ (.pointer (some ⟨p,0,none⟩)) rfl rfl (fun X hX=>by simp [go_sem]) ?_
  simp only [jw,jz,kj,jk,jq,jv,jy]
  refine wpX_f _ (.pointer (some ⟨p,0,none⟩)) rfl rfl (fun X hX=>by simp [go_sem]) ?_
  simp only [jw,jz,kj,jk,jq,jv,jy]
  refine wpX_f _ (.pointer (some ⟨p,8,none⟩)) rfl rfl (fun X hX=>by simp [go_sem]) ?_
  simp only [jw,jz,kj,jk,jq,jv,jy]
  refine wpX_f _ (.int .i64 (k:Int)) rfl rfl (fun X hX=>by have e:X.cell? ⟨p,8,none⟩ = some (.int .i64 (k:Int)):=hX.1 8 (by decide); simp [go_sem,e]) ?_
  simp only [jw,jz,kj,jk,jq,jv,jy]
  refine wpX_f _ (.int .i64 0) rfl rfl (fun X hX=>by simp [go_sem,m1.out,c0.out]) ?_
  simp only [jw,jz,kj,jk,jq,jv,jy]
  refine wpX_f _ (.int .i64 1) rfl rfl (fun X hX=>by simp [go_sem,c1.out]) ?_
  simp only [jw,jz,kj,jk,jq,jv,jy]
  refine wpX_f _ (.int .u64 ((zA ps sl ln tot T 6).toNat:Int)) rfl rfl (fun X hX=>by simp [go_sem,u6.out]) ?_
  simp only [jw,jz,kj,jk,jq,jv,jy]
  refine wpX_f _ (.pointer (some ⟨z5,0,none⟩)) rfl rfl (fun X hX=>by simp [go_sem]) ?_
  simp only [jw,jz,kj,jk,jq,jv,jy]
  have M0:x8.drew.cell? ⟨z5,0,none⟩ = some (wv (zAK ps sl ln tot T 0) 0):=Z0.out.1 0 (by decide)
  have M1:x8.drew.frozen? ⟨z5,0,none⟩ = false:=Z0.out.2.1 0 (by decide)
  have Z1:Hid (RowAt z5 128 (wv (zAK ps sl ln tot T 1)) (x8.drew.setCell ⟨z5,0,none⟩ (.int .u64 ((zA ps sl ln tot T 0).toNat:Int)))):=zAK_step Z0.out 0 (by decide)
  have O1:=hideit (O0.out.other ⟨z5,0,none⟩ (.int .u64 ((zA ps sl ln tot T 0).toNat:Int)) (Dz7_2.out))
  have E1:=hideit (E0.out.setCell (p:=⟨z5,0,none⟩) (ABz5.out) (.int .u64 ((zA ps sl ln tot T 0).toNat:Int)))
  have P1:=hideit (P0.out.other ⟨z5,0,none⟩ (.int .u64 ((zA ps sl ln tot T 0).toNat:Int)) (Ne.symm (Dz5_0.out)))
  refine wpX_st _ (x8.drew.setCell ⟨z5,0,none⟩ (.int .u64 ((zA ps sl ln tot T 0).toNat:Int))) rfl rfl (by simp [go_sem,M0,M1]) (fun X=>RowAt p 9 (rmV T M L q b c ps sl ln k) X) (fun X hX=>hX) P1.out ?_
  simp only [List.getElem_toArray,List.getElem_cons_zero,List.getElem_cons_succ,Act.put]
  generalize x8.drew.setCell ⟨z5,0,none⟩ (.int .u64 ((zA ps sl ln tot T 0).toNat:Int)) = v1 at Z1 O1 E1 P1 ⊢
  clear M0 M1 Z0 O0 E0 P0
  refine wpX_f _ (.pointer (some ⟨z5,1,none⟩)) rfl rfl (fun X hX=>by simp [go_sem]) ?_
  simp only [jw,jz,kj,jk,jq,jv,jy]
  have M0:v1.cell? ⟨z5,1,none⟩ = some (wv (zAK ps sl ln tot T 1) 1):=Z1.out.1 1 (by decide)
  have M1:v1.frozen? ⟨z5,1,none⟩ = false:=Z1.out.2.1 1 (by decide)
  have Z2:Hid (RowAt z5 128 (wv (zAK ps sl ln tot T 2)) (v1.setCell ⟨z5,1,none⟩ (.int .u64 ((zA ps sl ln tot T 1).toNat:Int)))):=zAK_step Z1.out 1 (by decide)
  have O2:=hideit (O1.out.other ⟨z5,1,none⟩ (.int .u64 ((zA ps sl ln tot T 1).toNat:Int)) (Dz7_2.out))
  have E2:=hideit (E1.out.setCell (p:=⟨z5,1,none⟩) (ABz5.out) (.int .u64 ((zA ps sl ln tot T 1).toNat:Int)))
  have P2:=hideit (P1.out.other ⟨z5,1,none⟩ (.int .u64 ((zA ps sl ln tot T 1).toNat:Int)) (Ne.symm (Dz5_0.out)))
  refine wpX_st _ (v1.setCell ⟨z5,1,none⟩ (.int .u64 ((zA ps sl ln tot T 1).toNat:Int))) rfl rfl (by simp [go_sem,M0,M1]) (fun X=>RowAt p 9 (rmV T M L q b c ps sl ln k) X) (fun X hX=>hX) P2.out ?_
  simp only [List.getElem_toArray,List.getElem_cons_zero,List.getElem_cons_succ,Act.put]
  generalize v1.setCell ⟨z5,1,none⟩ (.int .u64 ((zA ps sl ln tot T 1).toNat:Int)) = v2 at Z2 O2 E2 P2 ⊢
  clear M0 M1 Z1 O1 E1 P1
  refine wpX_f _ (.pointer (some ⟨z5,2,none⟩)) rfl rfl (fun X hX=>by simp [go_sem]) ?_
  simp only [jw,jz,kj,jk,jq,jv,jy]
  have M0:v2.cell? ⟨z5,2,none⟩ = some (wv (zAK ps sl ln tot T 2) 2):=Z2.out.1 2 (by decide)
  have M1:v2.frozen? ⟨z5,2,none⟩ = false:=Z2.out.2.1 2 (by decide)
  have Z3:Hid (RowAt z5 128 (wv (zAK ps sl ln tot T 3)) (v2.setCell ⟨z5,2,none⟩ (.int .u64 ((zA ps sl ln tot T 2).toNat:Int)))):=zAK_step Z2.out 2 (by decide)
  have O3:=hideit (O2.out.other ⟨z5,2,none⟩ (.int .u64 ((zA ps sl ln tot T 2).toNat:Int)) (Dz7_2.out))
  have E3:=hideit (E2.out.setCell (p:=⟨z5,2,none⟩) (ABz5.out) (.int .u64 ((zA ps sl ln tot T 2).toNat:Int)))
  have P3:=hideit (P2.out.other ⟨z5,2,none⟩ (.int .u64 ((zA ps sl ln tot T 2).toNat:Int)) (Ne.symm (Dz5_0.out)))
  refine wpX_st _ (v2.setCell ⟨z5,2,none⟩ (.int .u64 ((zA ps sl ln tot T 2).toNat:Int))) rfl rfl (by simp [go_sem,M0,M1]) (fun X=>RowAt p 9 (rmV T M L q b c ps sl ln k) X) (fun X hX=>hX) P3.out ?_
  simp only [List.getElem_toArray,List.getElem_cons_zero,List.getElem_cons_succ,Act.put]
  generalize v2.setCell ⟨z5,2,none⟩ (.int .u64 ((zA ps sl ln tot T 2).toNat:Int)) = v3 at Z3 O3 E3 P3 ⊢
  clear M0 M1 Z2 O2 E2 P2
  refine wpX_f _ (.pointer (some ⟨z5,3,none⟩)) rfl rfl (fun X hX=>by simp [go_sem]) ?_
  simp only [jw,jz,kj,jk,jq,jv,jy]
  have M0:v3.cell? ⟨z5,3,none⟩ = some (wv (zAK ps sl ln tot T 3) 3):=Z3.out.1 3 (by decide)
  have M1:v3.frozen? ⟨z5,3,none⟩ = false:=Z3.out.2.1 3 (by decide)
  have Z4:Hid (RowAt z5 128 (wv (zAK ps sl ln tot T 4)) (v3.setCell ⟨z5,3,none⟩ (.int .u64 ((zA ps sl ln tot T 3).toNat:Int)))):=zAK_step Z3.out 3 (by decide)
  have O4:=hideit (O3.out.other ⟨z5,3,none⟩ (.int .u64 ((zA ps sl ln tot T 3).toNat:Int)) (Dz7_2.out))
  have E4:=hideit (E3.out.setCell (p:=⟨z5,3,none⟩) (ABz5.out) (.int .u64 ((zA ps sl ln tot T 3).toNat:Int)))
  have P4:=hideit (P3.out.other ⟨z5,3,none⟩ (.int .u64 ((zA ps sl ln tot T 3).toNat:Int)) (Ne.symm (Dz5_0.out)))
  refine wpX_st _ (v3.setCell ⟨z5,3,none⟩ (.int .u64 ((zA ps sl ln tot T 3).toNat:Int))) rfl rfl (by simp [go_sem,M0,M1]) (fun X=>RowAt p 9 (rmV T M L q b c ps sl ln k) X) (fun X hX=>hX) P4.out ?_
  simp only [List.getElem_toArray,List.getElem_cons_zero,List.getElem_cons_succ,Act.put]
  generalize v3.setCell ⟨z5,3,none⟩ (.int .u64 ((zA ps sl ln tot T 3).toNat:Int)) = v4 at Z4 O4 E4 P4 ⊢
  clear M0 M1 Z3 O3 E3 P3
  refine wpX_f _ (.pointer (some ⟨z5,4,none⟩)) rfl rfl (fun X hX=>by simp [go_sem]) ?_
  simp only [jw,jz,kj,jk,jq,jv,jy]
  have M0:v4.cell? ⟨z5,4,none⟩ = some (wv (zAK ps sl ln tot T 4) 4):=Z4.out.1 4 (by decide)
  have M1:v4.frozen? ⟨z5,4,none⟩ = false:=Z4.out.2.1 4 (by decide)
  have Z5:Hid (RowAt z5 128 (wv (zAK ps sl ln tot T 5)) (v4.setCell ⟨z5,4,none⟩ (.int .u64 ((zA ps sl ln tot T 4).toNat:Int)))):=zAK_step Z4.out 4 (by decide)
  have O5:=hideit (O4.out.other ⟨z5,4,none⟩ (.int .u64 ((zA ps sl ln tot T 4).toNat:Int)) (Dz7_2.out))
  have E5:=hideit (E4.out.setCell (p:=⟨z5,4,none⟩) (ABz5.out) (.int .u64 ((zA ps sl ln tot T 4).toNat:Int)))
  have P5:=hideit (P4.out.other ⟨z5,4,none⟩ (.int .u64 ((zA ps sl ln tot T 4).toNat:Int)) (Ne.symm (Dz5_0.out)))
  refine wpX_st _ (v4.setCell ⟨z5,4,none⟩ (.int .u64 ((zA ps sl ln tot T 4).toNat:Int))) rfl rfl (by simp [go_sem,M0,M1]) (fun X=>RowAt p 9 (rmV T M L q b c ps sl ln k) X) (fun X hX=>hX) P5.out ?_
  simp only [List.getElem_toArray,List.getElem_cons_zero,List.getElem_cons_succ,Act.put]
  generalize v4.setCell ⟨z5,4,none⟩ (.int .u64 ((zA ps sl ln tot T 4).toNat:Int)) = v5 at Z5 O5 E5 P5 ⊢
  clear M0 M1 Z4 O4 E4 P4
  refine wpX_f _ (.pointer (some ⟨z5,5,none⟩)) rfl rfl (fun X hX=>by simp [go_sem]) ?_
  simp only [jw,jz,kj,jk,jq,jv,jy]
  have M0:v5.cell? ⟨z5,5,none⟩ = some (wv (zAK ps sl ln tot T 5) 5):=Z5.out.1 5 (by decide)
  have M1:v5.frozen? ⟨z5,5,none⟩ = false:=Z5.out.2.1 5 (by decide)
  have Z6:Hid (RowAt z5 128 (wv (zAK ps sl ln tot T 6)) (v5.setCell ⟨z5,5,none⟩ (.int .u64 ((zA ps sl ln tot T 5).toNat:Int)))):=zAK_step Z5.out 5 (by decide)
  have O6:=hideit (O5.out.other ⟨z5,5,none⟩ (.int .u64 ((zA ps sl ln tot T 5).toNat:Int)) (Dz7_2.out))
  have E6:=hideit (E5.out.setCell (p:=⟨z5,5,none⟩) (ABz5.out) (.int .u64 ((zA ps sl ln tot T 5).toNat:Int)))
  have P6:=hideit (P5.out.other ⟨z5,5,none⟩ (.int .u64 ((zA ps sl ln tot T 5).toNat:Int)) (Ne.symm (Dz5_0.out)))
  refine wpX_st _ (v5.setCell ⟨z5,5,none⟩ (.int .u64 ((zA ps sl ln tot T 5).toNat:Int))) rfl rfl (by simp [go_sem,M0,M1,u5.out]) (fun X=>RowAt p 9 (rmV T M L q b c ps sl ln k) X) (fun X hX=>hX) P6.out ?_
  simp only [List.getElem_toArray,List.getElem_cons_zero,List.getElem_cons_succ,Act.put]
  generalize v5.setCell ⟨z5,5,none⟩ (.int .u64 ((zA ps sl ln tot T 5).toNat:Int)) = v6 at Z6 O6 E6 P6 ⊢
  clear M0 M1 Z5 O5 E5 P5
  refine wpX_f _ (.pointer (some ⟨z5,6,none⟩)) rfl rfl (fun X hX=>by simp [go_sem]) ?_
  simp only [jw,jz,kj,jk,jq,jv,jy]
  have M0:v6.cell? ⟨z5,6,none⟩ = some (wv (zAK ps sl ln tot T 6) 6):=Z6.out.1 6 (by decide)
  have M1:v6.frozen? ⟨z5,6,none⟩ = false:=Z6.out.2.1 6 (by decide)
  have Z7:Hid (RowAt z5 128 (wv (zAK ps sl ln tot T 7)) (v6.setCell ⟨z5,6,none⟩ (.int .u64 ((zA ps sl ln tot T 6).toNat:Int)))):=zAK_step Z6.out 6 (by decide)
  have O7:=hideit (O6.out.other ⟨z5,6,none⟩ (.int .u64 ((zA ps sl ln tot T 6).toNat:Int)) (Dz7_2.out))
  have E7:=hideit (E6.out.setCell (p:=⟨z5,6,none⟩) (ABz5.out) (.int .u64 ((zA ps sl ln tot T 6).toNat:Int)))
  have P7:=hideit (P6.out.other ⟨z5,6,none⟩ (.int .u64 ((zA ps sl ln tot T 6).toNat:Int)) (Ne.symm (Dz5_0.out)))
  refine wpX_st _ (v6.setCell ⟨z5,6,none⟩ (.int .u64 ((zA ps sl ln tot T 6).toNat:Int))) rfl rfl (by simp [go_sem,M0,M1]) (fun X=>RowAt p 9 (rmV T M L q b c ps sl ln k) X) (fun X hX=>hX) P7.out ?_
  simp only [List.getElem_toArray,List.getElem_cons_zero,List.getElem_cons_succ,Act.put]
  generalize v6.setCell ⟨z5,6,none⟩ (.int .u64 ((zA ps sl ln tot T 6).toNat:Int)) = v7 at Z7 O7 E7 P7 ⊢
  clear M0 M1 Z6 O6 E6 P6
  refine wpX_nil ?_
  rw [zAK_end] at Z7
  go_upto_region 5 with (fail)
  refine wp_region_ladm Ext (fun X=>Ext v7 X) (mkA v7.heap.size) [6] [] [(0,0),(0,1),(0,2),(1,3),(1,4),(2,5),(1,6)] (by kernel_rfl) (by kernel_rfl) (by decide +kernel) (by decide +kernel) (by decide +kernel) (by decide +kernel) (mkA_cl _) (ext_clA v7) ((Ext.refl v7).draw) ?_
  refine wpQ_f _ (.agg (row 128 (wv (fun _=>0#64))).toArray) rfl rfl (fun X hX=>xload 24 (.tmp 6) rfl z7 0 128 _ rfl (O7.out.carry hX).range Tryd.underlying24 rfl infoPg) ?_
  simp only [List.getElem_toArray,List.getElem_cons_zero,Act.put,List.setIfInBounds_toArray,List.set_cons_zero,List.set_cons_succ]
  refine wpQ_f _ (.agg (row 128 (wv (fun _=>0#64))).toArray) rfl rfl (fun X hX=>xload 24 (.tmp 6) rfl z7 0 128 _ rfl (O7.out.carry hX).range Tryd.underlying24 rfl infoPg) ?_
  simp only [List.getElem_toArray,List.getElem_cons_zero,Act.put,List.setIfInBounds_toArray,List.set_cons_zero,List.set_cons_succ]
  refine wpQ_f _ (.agg (row 128 (wv (zA ps sl ln tot T))).toArray) rfl rfl (fun X hX=>xload 24 (.tmp 5) rfl z5 0 128 _ rfl (Z7.out.carry hX).range Tryd.underlying24 rfl infoPg) ?_
  simp only [List.getElem_toArray,List.getElem_cons_zero,Act.put,List.setIfInBounds_toArray,List.set_cons_zero,List.set_cons_succ]
  refine wpQ_call (f:=55) (args := #[.agg (row 128 (wv (fun _=>0#64))).toArray,.agg (row 128 (wv (zA ps sl ln tot T))).toArray]) _ rfl rfl (fun X hX=>by simp [go_sem]) (fun X hX=>(rpages_any (fun _=>0#64) (zA ps sl ln tot T) X).mono ?_)
  rintro e w9 ⟨rfl,e9⟩
  refine ⟨_,rfl,fun Y=>Ext v7 Y,Ext.trans hX e9,.inr (.inr ⟨fun Y hY=>hY,e9,ext_clA v7⟩),?_⟩
  simp only [List.getElem_toArray,List.getElem_cons_zero,Act.put,List.setIfInBounds_toArray,List.set_cons_zero,List.set_cons_succ]
  clear e9 hX
  refine wpQ_call (f:=55) (args := #[.agg (row 128 (wv (fun _=>0#64))).toArray,.agg (row 128 (wv (pagesF (fun _=>0#64) (zA ps sl ln tot T)))).toArray]) _ rfl rfl (fun X hX=>by simp [go_sem]) (fun X hX=>(rpages_any (fun _=>0#64) (pagesF (fun _=>0#64) (zA ps sl ln tot T)) X).mono ?_)
  rintro e w9 ⟨rfl,e9⟩
  refine ⟨_,rfl,fun Y=>Ext v7 Y,Ext.trans hX e9,.inr (.inr ⟨fun Y hY=>hY,e9,ext_clA v7⟩),?_⟩
  simp only [List.getElem_toArray,List.getElem_cons_zero,Act.put,List.setIfInBounds_toArray,List.set_cons_zero,List.set_cons_succ]
  clear e9 hX
  refine wpQ_m _ rfl rfl (fun X hX=>⟨.pointer (some ⟨X.heap.size,0,none⟩),X.alloc (.cells (row 128 (wv fun _=>0#64)).toArray 24),xalloc 24 _ rfl (zero31p _),⟨X.heap.size,rfl,Below.size hX,RowAt.new X 128 (wv fun _=>0#64) 24⟩,(Below.refl _ _).alloc (Nat.le_refl _) _⟩) ?_
  rintro v5 ⟨_,_,b5,rfl,hb5,_⟩
  simp only [List.getElem_toArray,List.getElem_cons_zero,Act.put,List.setIfInBounds_toArray,List.set_cons_zero,List.set_cons_succ]
  refine wpQ_st _ rfl rfl fun X hX=>?_
  obtain ⟨hX1,b',f5,_,R5⟩:=hX
  injection f5 with f5
  injection f5 with f5
  injection f5 with f5
  subst f5
  have N0:=hideit (R5.cells (g':=wv (pagesF (fun _=>0#64) (pagesF (fun _=>0#64) (zA ps sl ln tot T)))))
  have NE:=hideit (below_setCells b5 hb5 (row 128 (wv (pagesF (fun _=>0#64) (pagesF (fun _=>0#64) (zA ps sl ln tot T))))) 0 _ hX1)
  refine ⟨X.setCells b5 0 (row 128 (wv (pagesF (fun _=>0#64) (pagesF (fun _=>0#64) (zA ps sl ln tot T))))),xstore 24 (.tmp 7) (.tmp 72) rfl b5 128 _ (wv (pagesF (fun _=>0#64) (pagesF (fun _=>0#64) (zA ps sl ln tot T)))) rfl rfl R5 infoPg (fun _ _=>rfl),fun Y=>Y = X.setCells b5 0 (row 128 (wv (pagesF (fun _=>0#64) (pagesF (fun _=>0#64) (zA ps sl ln tot T))))),rfl,.inl (by simp),?_⟩
  simp only [List.getElem_toArray,List.getElem_cons_zero,List.getElem_cons_succ,Act.put]
  refine wpQ_nil fun Y hY=>?_
  rw [← hY] at N0 NE
  clear hY R5 hX1
  have hM:=hideit (P7.out.carry NE.out)
  have hE:=hideit (Ext.trans E7.out NE.out)
  have cA:Y.cell? ⟨b5,k,none⟩ = some (.int .u64 ((pagesF (fun _=>0#64) (pagesF (fun _=>0#64) (zA ps sl ln tot T)) k).toNat:Int)):=N0.out.1 k kl.out
  have kl':(k:Int) < 128:=by have:=kl.out; omega
  have kl0:(0:Int) ≤ (k:Int):=by omega
  go_upto_region 6 with (fail)
  refine wp_region_lit ?_
  have m9:Y.cell? ⟨p,8,none⟩ = some (.int .i64 (k:Int)):=hM.out.1 8 (by decide)
  refine xm [some (.pointer (some ⟨p,0,none⟩)),some (.pointer (some ⟨p,0,none⟩)),some (.pointer (some ⟨p,8,none⟩)),some (.int .i64 (k:Int)),some (.int .i64 (k:Int)),some (.pointer (some ⟨b5,k,none⟩)),some (.int .u64 ((pagesF (fun _=>0#64) (pagesF (fun _=>0#64) (zA ps sl ln tot T)) k).toNat:Int)),some (.int .u64 ((pagesF (fun _=>0#64) (pagesF (fun _=>0#64) (zA ps sl ln tot T)) k).toNat:Int))] (by kernel_rfl) (by simp [xr,go_sem,m9,m2.out,kl',cA]) ?_
  simp only [xw,p0,p1,p2,p3]
  clear m9
  go_wp2
  go_ret
  exact ⟨rfl,hE.out⟩
end Go.Proofs.YtfbmeclpcgdmhabDoor
