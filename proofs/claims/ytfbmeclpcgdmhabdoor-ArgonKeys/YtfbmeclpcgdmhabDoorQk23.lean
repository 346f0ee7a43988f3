/-
  A page's lines, stirred one behind the other. A page's columns, stirred.
-/
import Derived.Test.YtfbmeclpcgdmhabDoorQk1
import Derived.Test.YtfbmeclpcgdmhabDoorQk22
namespace Go.Proofs.YtfbmeclpcgdmhabDoor
set_option maxRecDepth 20000
open Go.RowKit Go.BigFrame
def putF (p:Nat → BitVec 64) (pl:Nat → Nat) (s:Nat → BitVec 64):Nat → Nat → BitVec 64
  | 0=>p
  | n + 1=>fun j=>if j = pl n then s n else putF p pl s n j
def lineS (pl:Nat → Nat → Nat) (p:Nat → BitVec 64) (r:Nat):Nat → BitVec 64:=putF p (pl r) (stK (fun i=>p (pl r i)) 8) 16
def linesK (pl:Nat → Nat → Nat) (p:Nat → BitVec 64):Nat → Nat → BitVec 64
  | 0=>p
  | k + 1=>lineS pl (linesK pl p k) k
theorem plcR_lt (r i:Nat) (hr:r < 8) (hi:i < 16):plcR r i < 128:=by unfold plcR; omega
theorem plcC_lt (r i:Nat) (hr:r < 8) (hi:i < 16):plcC r i < 128:=by unfold plcC; omega
def upW (P:Nat → BitVec 64) (m:Nat) (j:Nat):BitVec 64:=if j < m then P j else 0#64
theorem upW_set (P:Nat → BitVec 64) (m j:Nat):(if j = m then P m else upW P m j) = upW P (m + 1) j:=by
  unfold upW
  by_cases h1:j = m
  · rw [if_pos h1,if_pos (by omega),h1]
  · rw [if_neg h1]
    by_cases h2:j < m
    · rw [if_pos h2,if_pos (by omega)]
    · rw [if_neg h2,if_neg (by omega)]
set_option maxRecDepth 20000 in
set_option maxHeartbeats 4000000 in
theorem linesR_any (p:Nat → BitVec 64) (w:World) (hC:TabM w):
    Calls Tryd.prog 26 #[.agg (row 128 (wv p)).toArray,.func (.func 27) #[] #[]] w fun e w'=>e = .returned (.agg (row 128 (wv (linesK plcR p 8))).toArray) ∧ Ext w w':=by
  have hz:=zero46
  obtain ⟨F,hF⟩:∃ F,F = linesK plcR p:=⟨_,rfl⟩
  have hF0:Hid (F 0 = p):=by rw [hF]; rfl
  have hFs:Hid (∀ k,F (k + 1) = putF (F k) (plcR k) (stK (fun i=>F k (plcR k i)) 8) 16):=fun k=>by rw [hF]; rfl
  rw [← hF]
  clear hF
  replace hC:=hideit hC
  have A1:=hideit (RowAt.new w 128 (wv p) 24)
  have X1:Ext w (w.alloc (.cells (row 128 (wv p)).toArray 24)):=(Below.refl _ _).alloc (Nat.le_refl _) _
  go_enter Tryd.func26,Tryd.ntmps26
  go_upto_region 0 with (fail)
  refine wp_region_lit ?_
  refine wpList_to rfl (.pointer (some ⟨w.heap.size,0,none⟩)) (w.alloc (.cells (row 128 (wv p)).toArray 24)) (by simp [go_sem]) ?_
  simp only [jk,jq,jv,jy]
  generalize w.alloc (.cells (row 128 (wv p)).toArray 24) = w1 at *
  obtain ⟨b,hb⟩:∃ b,b = w.heap.size:=⟨_,rfl⟩
  have hwb:Hid (w.heap.size ≤ b):=hideit (by omega)
  rw [← hb] at A1 ⊢
  clear hb
  have R2:=hideit (RowAt.new w1 128 (wv fun _=>0#64) 24)
  have X2:Ext w1 (w1.alloc (.cells (row 128 (wv fun _=>0#64)).toArray 24)):=(Below.refl _ _).alloc (Nat.le_refl _) _
  have A2:=hideit (A1.out.carry X2)
  have hE2:=hideit (Ext.trans X1 X2)
  have hbd:Hid (b < w1.heap.size):=hideit A1.out.2.2
  clear A1 X1 X2
  refine wpList_to rfl (.pointer (some ⟨w1.heap.size,0,none⟩)) (w1.alloc (.cells (row 128 (wv fun _=>0#64)).toArray 24)) (exec_allocP 24 _ rfl (zero31p _)) ?_
  simp only [jk,jq,jv,jy]
  generalize w1.alloc (.cells (row 128 (wv fun _=>0#64)).toArray 24) = w2 at *
  generalize w1.heap.size = d at *
  go_wp2
  go_loopw [10] (fun i X=>∃ k:Nat,k ≤ 8 ∧ i = .int .i64 k ∧ RowAt b 128 (wv (F k)) X ∧ RowAt d 128 (wv fun _=>0#64) X ∧ Ext w X) (fun i _=>8 - (intOf i).toNat)
  case atStart=>exact ⟨0,by omega,rfl,by rw [hF0.out]; exact A2.out,R2.out,hE2.out⟩
  case round=>
    clear A2 R2 hE2
    obtain ⟨k,hk,rfl,hA,hR,hE⟩:=hrel
    have A3:=hideit hA
    have R3:=hideit hR
    have hE3:=hideit hE
    clear hA hR hE
    by_cases hlt:k < 8
    · have k0:(0:Int) ≤ (k:Int):=by omega
      have k1:(k:Int) < 8:=by omega
      obtain ⟨P,hP⟩:∃ P:Nat → BitVec 64,P = fun i=>F k (plcR k i):=⟨_,rfl⟩
      have hPe:Hid (∀ i,F k (plcR k i) = P i):=hideit fun i=>by rw [hP]
      have hFk:Hid (F (k + 1) = putF (F k) (plcR k) (stK P 8) 16):=hideit (by rw [hP]; exact hFs.out k)
      clear hP
      obtain ⟨V,hV⟩:∃ V,V = F k:=⟨_,rfl⟩
      rw [← hV] at A3
      have hPe':Hid (∀ i,V (plcR k i) = P i):=hideit fun i=>by rw [hV]; exact hPe.out i
      have hFk':Hid (F (k + 1) = putF V (plcR k) (stK P 8) 16):=hideit (by rw [hV]; exact hFk.out)
      clear hPe hFk hV
      have C4:=hideit (RowAt.new wr 16 (wv fun _=>0#64) 25)
      have X4:Ext wr (wr.alloc (.cells (row 16 (wv fun _=>0#64)).toArray 25)):=(Below.refl _ _).alloc (Nat.le_refl _) _
      have A4:=hideit (A3.out.carry X4)
      have R4:=hideit (R3.out.carry X4)
      have hE4:=hideit (Ext.trans hE3.out X4)
      have hdc:Hid (d < wr.heap.size):=hideit R3.out.2.2
      clear A3 R3 hE3 X4
      go_upto_region 4 with (fail)
      refine wp_region_lit ?_
      refine wpList_to rfl (.pointer (some ⟨wr.heap.size,0,none⟩)) (wr.alloc (.cells (row 16 (wv fun _=>0#64)).toArray 25)) (by simp [go_sem,hz]) ?_
      simp only [jk,jq,jv,jy]
      generalize wr.alloc (.cells (row 16 (wv fun _=>0#64)).toArray 25) = w4 at *
      generalize wr.heap.size = c at *
      have hbc:Hid (b < c):=hideit (by have:=hbd.out; have:=hdc.out; omega)
      have hwc:Hid (w.heap.size ≤ c):=hideit (by have:=hwb.out; have:=hbc.out; omega)
      go_wp2
      go_loopw [13] (fun i X=>∃ m:Nat,m ≤ 16 ∧ i = .int .i64 m ∧ RowAt c 16 (wv (upW P m)) X ∧ RowAt b 128 (wv V) X ∧ RowAt d 128 (wv fun _=>0#64) X ∧ Ext w X) (fun i _=>16 - (intOf i).toNat)
      case atStart=>exact ⟨0,by omega,rfl,C4.out.congr (fun j _=>by simp only [wv,upW]; rw [if_neg (Nat.not_lt_zero _)]),A4.out,R4.out,hE4.out⟩
      case round=>
        clear C4 A4 R4 hE4
        obtain ⟨m,hm,rfl,hC5,hA5,hR5,hE5⟩:=hrel
        have C5:=hideit hC5
        have A5:=hideit hA5
        have R5:=hideit hR5
        replace hE5:=hideit hE5
        clear hC5 hA5 hR5
        by_cases hlm:m < 16
        · have m0:(0:Int) ≤ (m:Int):=by omega
          have m1:(m:Int) < 16:=by omega
          have kc:=inRow_any k m hlt hlm wr
          have hpl:=plcR_lt k m hlt hlm
          have e1:wr.cell? ⟨b,plcR k m,none⟩ = some (.int .u64 ((P m).toNat:Int)):=(A5.out.1 _ hpl).trans (by simp only [wv]; rw [hPe'.out])
          generalize plcR k m = Z at *
          have z0:(0:Int) ≤ (Z:Int):=by omega
          have z1:(Z:Int) < 128:=by omega
          replace kc:=hideit kc
          have e2:=C5.out.1 m hlm
          have g2:=C5.out.2.1 m hlm
          simp only [wv] at e2
          go_wp2_with (go_at_call 27; refine kc.out.mono ?_; rintro e w9 ⟨rfl,hw9⟩; rw [hw9]; clear hw9)
          exact ⟨⟨m + 1,by omega,by go_num,(C5.out.set m (.int .u64 ((P m).toNat:Int))).congr (fun j _=>by
            simp only [wv]
            rw [← upW_set P m j]
            split <;> rfl),A5.out.other _ _ (by show c ≠ b; have:=hbc.out; omega),R5.out.other _ _ (by show c ≠ d; have:=hdc.out; omega),Below.setCell hE5.out (by show w.heap.size ≤ c; exact hwc.out) _⟩,by simp [intOf]; omega⟩
        · obtain rfl:m = 16:=by omega
          have m1:¬ ((16:Nat):Int) < 16:=by decide
          have C6:Hid (RowAt c 16 (wv P) wr):=hideit (C5.out.congr fun j hj=>by simp only [wv,upW]; rw [if_pos hj])
          have kc:=hideit (Stir_any P wr (hC.out.ext hE5.out))
          clear C5 hlm hm
          go_upto_region 10 with (fail)
          refine wp_region_lit ?_
          refine wpList_load_mid rfl 25 (.tmp 6) rfl c 0 rfl (row 16 (wv P)) _ C6.out.range Tryd.underlying25 rfl (by rw [row_length]; exact info46) ?_
          simp only [jk,jq,jv,jy]
          refine wpList_call rfl (by simp [go_sem]; exact ⟨rfl,rfl⟩) ?_
          refine (kc.out).mono ?_
          rintro e w7 ⟨rfl,hX⟩
          refine ⟨_,rfl,?_⟩
          simp only [jk,jq,jv,jy]
          obtain ⟨s,hs⟩:∃ s,s = stK P 8:=⟨_,rfl⟩
          have hFs2:Hid (F (k + 1) = putF V (plcR k) s 16):=hideit (by rw [hs]; exact hFk'.out)
          rw [← hs]
          clear hs hFk'
          obtain ⟨TB,hTB⟩:∃ TB,TB = (Value.agg (row 16 (wv s)).toArray):=⟨_,rfl⟩
          have hidx:Hid (∀ n:Nat,n < 16 → ∀ X:World,(Instr.index 25 TB (.int .i64 (n:Int))).run Tryd.prog X = .ok (.int .u64 ((s n).toNat:Int)) X):=hideit fun n hn X=>by rw [hTB]; exact idx16 s n hn X
          rw [← hTB]
          clear hTB
          have A7:=hideit (A5.out.carry hX)
          have R7:=hideit (R5.out.carry hX)
          have hE7:=hideit (Ext.trans hE5.out hX)
          clear A5 R5 hE5 hX C6 kc hPe'
          refine wpList_run rfl (.int .i64 0) (by simp [go_sem]) ?_
          simp only [jk,jq,jv,jy]
          go_wp2
          go_loopw [27] (fun i X=>∃ n:Nat,n ≤ 16 ∧ i = .int .i64 n ∧ RowAt b 128 (wv (putF V (plcR k) s n)) X ∧ RowAt d 128 (wv fun _=>0#64) X ∧ Ext w X) (fun i _=>16 - (intOf i).toNat)
          case atStart=>exact ⟨0,by omega,rfl,A7.out,R7.out,hE7.out⟩
          case round=>
            clear A7 R7 hE7
            obtain ⟨n,hn,rfl,hA8,hR8,hE8⟩:=hrel
            have A8:=hideit hA8
            have R8:=hideit hR8
            replace hE8:=hideit hE8
            clear hA8 hR8
            by_cases hln:n < 16
            · have n0:(0:Int) ≤ (n:Int):=by omega
              have n1:(n:Int) < 16:=by omega
              have hix:=hidx.out n hln
              have kc:=inRow_any k n hlt hln wr
              have hpl:=plcR_lt k n hlt hln
              have hsc:Hid (∀ j,(if j = plcR k n then s n else putF V (plcR k) s n j) = putF V (plcR k) s (n + 1) j):=hideit fun j=>rfl
              generalize plcR k n = Z at *
              have z0:(0:Int) ≤ (Z:Int):=by omega
              have z1:(Z:Int) < 128:=by omega
              replace kc:=hideit kc
              have e2:=A8.out.1 Z hpl
              have g2:=A8.out.2.1 Z hpl
              simp only [wv] at e2
              go_wp2_with (go_at_call 27; refine kc.out.mono ?_; rintro e w9 ⟨rfl,hw9⟩; rw [hw9]; clear hw9)
              exact ⟨⟨n + 1,by omega,by go_num,(A8.out.set Z (.int .u64 ((s n).toNat:Int))).congr (fun j _=>by
                simp only [wv]
                rw [← hsc.out j]
                split <;> rfl),R8.out.other _ _ (by show b ≠ d; have:=hbd.out; omega),Below.setCell hE8.out (by show w.heap.size ≤ b; exact hwb.out) _⟩,by simp [intOf]; omega⟩
            · obtain rfl:n = 16:=by omega
              have n1:¬ ((16:Nat):Int) < 16:=by decide
              clear hidx
              rw [← hFs2.out] at A8
              go_wp2
              exact ⟨⟨k + 1,by omega,by go_num,A8.out,R8.out,hE8.out⟩,by simp [intOf]; omega⟩
    · obtain rfl:k = 8:=by omega
      have k1:¬ ((8:Nat):Int) < 8:=by decide
      go_upto_region 16 with (fail)
      refine wp_region_lit ?_
      refine wpList_load_mid rfl 24 (.tmp 2) rfl b 0 rfl (row 128 (wv (F 8))) _ A3.out.range Tryd.underlying24 rfl (by rw [row_length]; exact infoPg) ?_
      simp only [jk,jq,jv,jy]
      refine wpList_store_mid rfl 24 (.tmp 4) (.tmp 39) rfl d 0 (row 128 (wv (F 8))).toArray rfl rfl (by rw [row_size]; exact R3.out.there) (by rw [row_size]; exact infoPg) (row_one fun _ _=>rfl) ?_
      rw [show (row 128 (wv (F 8))).toArray.toList = row 128 (wv (F 8)) from rfl]
      have h9:=hideit (R3.out.cells (g':=wv (F 8)))
      have hE9:=hideit (below_setCells d (by have:=hwb.out; have:=hbd.out; omega) (row 128 (wv (F 8))) 0 _ hE3.out)
      generalize wr.setCells d 0 (row 128 (wv (F 8))) = w9 at *
      clear A3 R3 hE3
      simp only [Act.put]
      go_wp2
      exact bodyPost_ret (ret_row Tryd.results26 rfl h9.out Tryd.underlying24 rfl infoPg) rfl ⟨rfl,hE9.out⟩
end Go.Proofs.YtfbmeclpcgdmhabDoor
namespace Go.Proofs.YtfbmeclpcgdmhabDoor
set_option maxRecDepth 20000
open Go.RowKit Go.BigFrame
set_option maxRecDepth 20000 in
set_option maxHeartbeats 4000000 in
theorem linesC_any (p:Nat → BitVec 64) (w:World) (hC:TabM w):
    Calls Tryd.prog 26 #[.agg (row 128 (wv p)).toArray,.func (.func 28) #[] #[]] w fun e w'=>e = .returned (.agg (row 128 (wv (linesK plcC p 8))).toArray) ∧ Ext w w':=by
  have hz:=zero46
  obtain ⟨F,hF⟩:∃ F,F = linesK plcC p:=⟨_,rfl⟩
  have hF0:Hid (F 0 = p):=by rw [hF]; rfl
  have hFs:Hid (∀ k,F (k + 1) = putF (F k) (plcC k) (stK (fun i=>F k (plcC k i)) 8) 16):=fun k=>by rw [hF]; rfl
  rw [← hF]
  clear hF
  replace hC:=hideit hC
  have A1:=hideit (RowAt.new w 128 (wv p) 24)
  have X1:Ext w (w.alloc (.cells (row 128 (wv p)).toArray 24)):=(Below.refl _ _).alloc (Nat.le_refl _) _
  go_enter Tryd.func26,Tryd.ntmps26
  go_upto_region 0 with (fail)
  refine wp_region_lit ?_
  refine wpList_to rfl (.pointer (some ⟨w.heap.size,0,none⟩)) (w.alloc (.cells (row 128 (wv p)).toArray 24)) (by simp [go_sem]) ?_
  simp only [jk,jq,jv,jy]
  generalize w.alloc (.cells (row 128 (wv p)).toArray 24) = w1 at *
  obtain ⟨b,hb⟩:∃ b,b = w.heap.size:=⟨_,rfl⟩
  have hwb:Hid (w.heap.size ≤ b):=hideit (by omega)
  rw [← hb] at A1 ⊢
  clear hb
  have R2:=hideit (RowAt.new w1 128 (wv fun _=>0#64) 24)
  have X2:Ext w1 (w1.alloc (.cells (row 128 (wv fun _=>0#64)).toArray 24)):=(Below.refl _ _).alloc (Nat.le_refl _) _
  have A2:=hideit (A1.out.carry X2)
  have hE2:=hideit (Ext.trans X1 X2)
  have hbd:Hid (b < w1.heap.size):=hideit A1.out.2.2
  clear A1 X1 X2
  refine wpList_to rfl (.pointer (some ⟨w1.heap.size,0,none⟩)) (w1.alloc (.cells (row 128 (wv fun _=>0#64)).toArray 24)) (exec_allocP 24 _ rfl (zero31p _)) ?_
  simp only [jk,jq,jv,jy]
  generalize w1.alloc (.cells (row 128 (wv fun _=>0#64)).toArray 24) = w2 at *
  generalize w1.heap.size = d at *
  go_wp2
  go_loopw [10] (fun i X=>∃ k:Nat,k ≤ 8 ∧ i = .int .i64 k ∧ RowAt b 128 (wv (F k)) X ∧ RowAt d 128 (wv fun _=>0#64) X ∧ Ext w X) (fun i _=>8 - (intOf i).toNat)
  case atStart=>exact ⟨0,by omega,rfl,by rw [hF0.out]; exact A2.out,R2.out,hE2.out⟩
  case round=>
    clear A2 R2 hE2
    obtain ⟨k,hk,rfl,hA,hR,hE⟩:=hrel
    have A3:=hideit hA
    have R3:=hideit hR
    have hE3:=hideit hE
    clear hA hR hE
    by_cases hlt:k < 8
    · have k0:(0:Int) ≤ (k:Int):=by omega
      have k1:(k:Int) < 8:=by omega
      obtain ⟨P,hP⟩:∃ P:Nat → BitVec 64,P = fun i=>F k (plcC k i):=⟨_,rfl⟩
      have hPe:Hid (∀ i,F k (plcC k i) = P i):=hideit fun i=>by rw [hP]
      have hFk:Hid (F (k + 1) = putF (F k) (plcC k) (stK P 8) 16):=hideit (by rw [hP]; exact hFs.out k)
      clear hP
      obtain ⟨V,hV⟩:∃ V,V = F k:=⟨_,rfl⟩
      rw [← hV] at A3
      have hPe':Hid (∀ i,V (plcC k i) = P i):=hideit fun i=>by rw [hV]; exact hPe.out i
      have hFk':Hid (F (k + 1) = putF V (plcC k) (stK P 8) 16):=hideit (by rw [hV]; exact hFk.out)
      clear hPe hFk hV
      have C4:=hideit (RowAt.new wr 16 (wv fun _=>0#64) 25)
      have X4:Ext wr (wr.alloc (.cells (row 16 (wv fun _=>0#64)).toArray 25)):=(Below.refl _ _).alloc (Nat.le_refl _) _
      have A4:=hideit (A3.out.carry X4)
      have R4:=hideit (R3.out.carry X4)
      have hE4:=hideit (Ext.trans hE3.out X4)
      have hdc:Hid (d < wr.heap.size):=hideit R3.out.2.2
      clear A3 R3 hE3 X4
      go_upto_region 4 with (fail)
      refine wp_region_lit ?_
      refine wpList_to rfl (.pointer (some ⟨wr.heap.size,0,none⟩)) (wr.alloc (.cells (row 16 (wv fun _=>0#64)).toArray 25)) (by simp [go_sem,hz]) ?_
      simp only [jk,jq,jv,jy]
      generalize wr.alloc (.cells (row 16 (wv fun _=>0#64)).toArray 25) = w4 at *
      generalize wr.heap.size = c at *
      have hbc:Hid (b < c):=hideit (by have:=hbd.out; have:=hdc.out; omega)
      have hwc:Hid (w.heap.size ≤ c):=hideit (by have:=hwb.out; have:=hbc.out; omega)
      go_wp2
      go_loopw [13] (fun i X=>∃ m:Nat,m ≤ 16 ∧ i = .int .i64 m ∧ RowAt c 16 (wv (upW P m)) X ∧ RowAt b 128 (wv V) X ∧ RowAt d 128 (wv fun _=>0#64) X ∧ Ext w X) (fun i _=>16 - (intOf i).toNat)
      case atStart=>exact ⟨0,by omega,rfl,C4.out.congr (fun j _=>by simp only [wv,upW]; rw [if_neg (Nat.not_lt_zero _)]),A4.out,R4.out,hE4.out⟩
      case round=>
        clear C4 A4 R4 hE4
        obtain ⟨m,hm,rfl,hC5,hA5,hR5,hE5⟩:=hrel
        have C5:=hideit hC5
        have A5:=hideit hA5
        have R5:=hideit hR5
        replace hE5:=hideit hE5
        clear hC5 hA5 hR5
        by_cases hlm:m < 16
        · have m0:(0:Int) ≤ (m:Int):=by omega
          have m1:(m:Int) < 16:=by omega
          have kc:=inColumn_any k m hlt hlm wr
          have hpl:=plcC_lt k m hlt hlm
          have e1:wr.cell? ⟨b,plcC k m,none⟩ = some (.int .u64 ((P m).toNat:Int)):=(A5.out.1 _ hpl).trans (by simp only [wv]; rw [hPe'.out])
          generalize plcC k m = Z at *
          have z0:(0:Int) ≤ (Z:Int):=by omega
          have z1:(Z:Int) < 128:=by omega
          replace kc:=hideit kc
          have e2:=C5.out.1 m hlm
          have g2:=C5.out.2.1 m hlm
          simp only [wv] at e2
          go_wp2_with (go_at_call 28; refine kc.out.mono ?_; rintro e w9 ⟨rfl,hw9⟩; rw [hw9]; clear hw9)
          exact ⟨⟨m + 1,by omega,by go_num,(C5.out.set m (.int .u64 ((P m).toNat:Int))).congr (fun j _=>by
            simp only [wv]
            rw [← upW_set P m j]
            split <;> rfl),A5.out.other _ _ (by show c ≠ b; have:=hbc.out; omega),R5.out.other _ _ (by show c ≠ d; have:=hdc.out; omega),Below.setCell hE5.out (by show w.heap.size ≤ c; exact hwc.out) _⟩,by simp [intOf]; omega⟩
        · obtain rfl:m = 16:=by omega
          have m1:¬ ((16:Nat):Int) < 16:=by decide
          have C6:Hid (RowAt c 16 (wv P) wr):=hideit (C5.out.congr fun j hj=>by simp only [wv,upW]; rw [if_pos hj])
          have kc:=hideit (Stir_any P wr (hC.out.ext hE5.out))
          clear C5 hlm hm
          go_upto_region 10 with (fail)
          refine wp_region_lit ?_
          refine wpList_load_mid rfl 25 (.tmp 6) rfl c 0 rfl (row 16 (wv P)) _ C6.out.range Tryd.underlying25 rfl (by rw [row_length]; exact info46) ?_
          simp only [jk,jq,jv,jy]
          refine wpList_call rfl (by simp [go_sem]; exact ⟨rfl,rfl⟩) ?_
          refine (kc.out).mono ?_
          rintro e w7 ⟨rfl,hX⟩
          refine ⟨_,rfl,?_⟩
          simp only [jk,jq,jv,jy]
          obtain ⟨s,hs⟩:∃ s,s = stK P 8:=⟨_,rfl⟩
          have hFs2:Hid (F (k + 1) = putF V (plcC k) s 16):=hideit (by rw [hs]; exact hFk'.out)
          rw [← hs]
          clear hs hFk'
          obtain ⟨TB,hTB⟩:∃ TB,TB = (Value.agg (row 16 (wv s)).toArray):=⟨_,rfl⟩
          have hidx:Hid (∀ n:Nat,n < 16 → ∀ X:World,(Instr.index 25 TB (.int .i64 (n:Int))).run Tryd.prog X = .ok (.int .u64 ((s n).toNat:Int)) X):=hideit fun n hn X=>by rw [hTB]; exact idx16 s n hn X
          rw [← hTB]
          clear hTB
          have A7:=hideit (A5.out.carry hX)
          have R7:=hideit (R5.out.carry hX)
          have hE7:=hideit (Ext.trans hE5.out hX)
          clear A5 R5 hE5 hX C6 kc hPe'
          refine wpList_run rfl (.int .i64 0) (by simp [go_sem]) ?_
          simp only [jk,jq,jv,jy]
          go_wp2
          go_loopw [27] (fun i X=>∃ n:Nat,n ≤ 16 ∧ i = .int .i64 n ∧ RowAt b 128 (wv (putF V (plcC k) s n)) X ∧ RowAt d 128 (wv fun _=>0#64) X ∧ Ext w X) (fun i _=>16 - (intOf i).toNat)
          case atStart=>exact ⟨0,by omega,rfl,A7.out,R7.out,hE7.out⟩
          case round=>
            clear A7 R7 hE7
            obtain ⟨n,hn,rfl,hA8,hR8,hE8⟩:=hrel
            have A8:=hideit hA8
            have R8:=hideit hR8
            replace hE8:=hideit hE8
            clear hA8 hR8
            by_cases hln:n < 16
            · have n0:(0:Int) ≤ (n:Int):=by omega
              have n1:(n:Int) < 16:=by omega
              have hix:=hidx.out n hln
              have kc:=inColumn_any k n hlt hln wr
              have hpl:=plcC_lt k n hlt hln
              have hsc:Hid (∀ j,(if j = plcC k n then s n else putF V (plcC k) s n j) = putF V (plcC k) s (n + 1) j):=hideit fun j=>rfl
              generalize plcC k n = Z at *
              have z0:(0:Int) ≤ (Z:Int):=by omega
              have z1:(Z:Int) < 128:=by omega
              replace kc:=hideit kc
              have e2:=A8.out.1 Z hpl
              have g2:=A8.out.2.1 Z hpl
              simp only [wv] at e2
              go_wp2_with (go_at_call 28; refine kc.out.mono ?_; rintro e w9 ⟨rfl,hw9⟩; rw [hw9]; clear hw9)
              exact ⟨⟨n + 1,by omega,by go_num,(A8.out.set Z (.int .u64 ((s n).toNat:Int))).congr (fun j _=>by
                simp only [wv]
                rw [← hsc.out j]
                split <;> rfl),R8.out.other _ _ (by show b ≠ d; have:=hbd.out; omega),Below.setCell hE8.out (by show w.heap.size ≤ b; exact hwb.out) _⟩,by simp [intOf]; omega⟩
            · obtain rfl:n = 16:=by omega
              have n1:¬ ((16:Nat):Int) < 16:=by decide
              clear hidx
              rw [← hFs2.out] at A8
              go_wp2
              exact ⟨⟨k + 1,by omega,by go_num,A8.out,R8.out,hE8.out⟩,by simp [intOf]; omega⟩
    · obtain rfl:k = 8:=by omega
      have k1:¬ ((8:Nat):Int) < 8:=by decide
      go_upto_region 16 with (fail)
      refine wp_region_lit ?_
      refine wpList_load_mid rfl 24 (.tmp 2) rfl b 0 rfl (row 128 (wv (F 8))) _ A3.out.range Tryd.underlying24 rfl (by rw [row_length]; exact infoPg) ?_
      simp only [jk,jq,jv,jy]
      refine wpList_store_mid rfl 24 (.tmp 4) (.tmp 39) rfl d 0 (row 128 (wv (F 8))).toArray rfl rfl (by rw [row_size]; exact R3.out.there) (by rw [row_size]; exact infoPg) (row_one fun _ _=>rfl) ?_
      rw [show (row 128 (wv (F 8))).toArray.toList = row 128 (wv (F 8)) from rfl]
      have h9:=hideit (R3.out.cells (g':=wv (F 8)))
      have hE9:=hideit (below_setCells d (by have:=hwb.out; have:=hbd.out; omega) (row 128 (wv (F 8))) 0 _ hE3.out)
      generalize wr.setCells d 0 (row 128 (wv (F 8))) = w9 at *
      clear A3 R3 hE3
      simp only [Act.put]
      go_wp2
      exact bodyPost_ret (ret_row Tryd.results26 rfl h9.out Tryd.underlying24 rfl infoPg) rfl ⟨rfl,hE9.out⟩
end Go.Proofs.YtfbmeclpcgdmhabDoor
