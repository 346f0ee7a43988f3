/-
  Two pages mixed. A page mixed with itself gives zeros.
-/
import Derived.Test.YtfbmeclpcgdmhabDoorQk1
import Derived.Test.YtfbmeclpcgdmhabDoorQk23
namespace Go.Proofs.YtfbmeclpcgdmhabDoor
set_option maxRecDepth 20000
open Go.RowKit Go.BigFrame
def pagesF (x y:Nat → BitVec 64):Nat → BitVec 64:=xrF (linesK plcC (linesK plcR (xrF x y) 8) 8) (xrF x y)
set_option maxRecDepth 20000 in
set_option maxHeartbeats 4000000 in
theorem pages_core (x y r z g:Nat → BitVec 64) (hr:Hid (r = xrF x y)) (hz:Hid (z = linesK plcC (linesK plcR r 8) 8)) (hg:Hid (g = xrF z r)) (w0:World) (hC:Hid (TabM w0)):
    Calls Tryd.prog 10 #[.agg (row 128 (wv x)).toArray,.agg (row 128 (wv y)).toArray] w0 fun e w'=>e = .returned (.agg (row 128 (wv g)).toArray) ∧ Ext w0 w':=by
  have hE0:=hideit (Ext.refl w0)
  go_enter Tryd.func10,Tryd.ntmps10
  go_upto_region 0 with (fail)
  refine wp_region_lit ?_
  have A1:=hideit (RowAt.new w0 128 (wv x) 24)
  have M3:Ext w0 (w0.alloc (.cells (row 128 (wv x)).toArray 24)):=(Below.refl _ _).alloc (Nat.le_refl _) _
  have hE1:=hideit (Ext.trans hE0.out M3)
  clear M3 hE0
  refine wpList_to rfl (.pointer (some ⟨w0.heap.size,0,none⟩)) (w0.alloc (.cells (row 128 (wv x)).toArray 24)) (by simp [go_sem]) ?_
  simp only [jk,jq,jv,jy]
  generalize w0.alloc (.cells (row 128 (wv x)).toArray 24) = w1 at *
  generalize w0.heap.size = a at A1 ⊢
  have B2:=hideit (RowAt.new w1 128 (wv y) 24)
  have M3:Ext w1 (w1.alloc (.cells (row 128 (wv y)).toArray 24)):=(Below.refl _ _).alloc (Nat.le_refl _) _
  have A2:=hideit (A1.out.carry M3)
  have hE2:=hideit (Ext.trans hE1.out M3)
  clear M3 hE1 A1
  refine wpList_to rfl (.pointer (some ⟨w1.heap.size,0,none⟩)) (w1.alloc (.cells (row 128 (wv y)).toArray 24)) (by simp [go_sem]) ?_
  simp only [jk,jq,jv,jy]
  generalize w1.alloc (.cells (row 128 (wv y)).toArray 24) = w2 at *
  generalize w1.heap.size = b at *
  have R3:=hideit (RowAt.new w2 128 (wv fun _=>0#64) 24)
  have M3:Ext w2 (w2.alloc (.cells (row 128 (wv fun _=>0#64)).toArray 24)):=(Below.refl _ _).alloc (Nat.le_refl _) _
  have hdw:Hid (w0.heap.size ≤ w2.heap.size):=hideit (Below.size hE2.out)
  have A3:=hideit (A2.out.carry M3)
  have B3:=hideit (B2.out.carry M3)
  have hE3:=hideit (Ext.trans hE2.out M3)
  clear M3 hE2 A2 B2
  refine wpList_to rfl (.pointer (some ⟨w2.heap.size,0,none⟩)) (w2.alloc (.cells (row 128 (wv fun _=>0#64)).toArray 24)) (exec_allocP 24 _ rfl (zero31p _)) ?_
  simp only [jk,jq,jv,jy]
  generalize w2.alloc (.cells (row 128 (wv fun _=>0#64)).toArray 24) = w3 at *
  generalize w2.heap.size = d at *
  go_upto_region 1 with (fail)
  refine wp_region_lit ?_
  refine wpList_load_mid rfl 24 (.tmp 2) rfl a 0 rfl (row 128 (wv x)) _ A3.out.range Tryd.underlying24 rfl (by rw [row_length]; exact infoPg) ?_
  simp only [jk,jq,jv,jy]
  refine wpList_load_mid rfl 24 (.tmp 3) rfl b 0 rfl (row 128 (wv y)) _ B3.out.range Tryd.underlying24 rfl (by rw [row_length]; exact infoPg) ?_
  simp only [jk,jq,jv,jy]
  refine wpList_call rfl (by simp [go_sem]; exact ⟨rfl,rfl⟩) ?_
  refine (pplus_any x y w3).mono ?_
  rintro e w4 ⟨rfl,hX⟩
  refine ⟨_,rfl,?_⟩
  simp only [jk,jq,jv,jy]
  have R4:=hideit (R3.out.carry hX)
  have hE4:=hideit (Ext.trans hE3.out hX)
  clear hX hE3 R3
  clear A3 B3
  rw [← hr.out]
  have M1:=hideit (RowAt.new w4 128 (wv fun _=>0#64) 24)
  have M3:Ext w4 ((w4.alloc (.cells (row 128 (wv fun _=>0#64)).toArray 24)).setCells w4.heap.size 0 (row 128 (wv r))):=below_setCells w4.heap.size (Nat.le_refl _) _ 0 _ ((Below.refl _ _).alloc (Nat.le_refl _) _)
  have P5:=hideit (M1.out.cells (g':=wv r))
  refine wpList_to rfl (.pointer (some ⟨w4.heap.size,0,none⟩)) (w4.alloc (.cells (row 128 (wv fun _=>0#64)).toArray 24)) (exec_allocP 24 _ rfl (zero31p _)) ?_
  simp only [jk,jq,jv,jy]
  refine wpList_store_mid rfl 24 (.tmp 5) (.tmp 9) rfl w4.heap.size 0 (row 128 (wv r)).toArray rfl rfl (by rw [row_size]; exact M1.out.there) (by rw [row_size]; exact infoPg) (row_one fun _ _=>rfl) ?_
  rw [show (row 128 (wv r)).toArray.toList = row 128 (wv r) from rfl]
  have R5:=hideit (R4.out.carry M3)
  have hE5:=hideit (Ext.trans hE4.out M3)
  clear M3 hE4 R4
  generalize (w4.alloc (.cells (row 128 (wv fun _=>0#64)).toArray 24)).setCells w4.heap.size 0 (row 128 (wv r)) = w5 at *
  generalize w4.heap.size = q at *
  clear M1
  simp only [Act.put]
  go_upto_region 2 with (fail)
  refine wp_region_lit ?_
  refine wpList_load_mid rfl 24 (.tmp 5) rfl q 0 rfl (row 128 (wv r)) _ P5.out.range Tryd.underlying24 rfl (by rw [row_length]; exact infoPg) ?_
  simp only [jk,jq,jv,jy]
  refine wpList_call rfl (by simp [go_sem]; exact ⟨rfl,rfl⟩) ?_
  refine (linesR_any r w5 (hC.out.ext hE5.out)).mono ?_
  rintro e w6 ⟨rfl,hX⟩
  refine ⟨_,rfl,?_⟩
  simp only [jk,jq,jv,jy]
  have R6:=hideit (R5.out.carry hX)
  have P6:=hideit (P5.out.carry hX)
  have hE6:=hideit (Ext.trans hE5.out hX)
  clear hX hE5 R5 P5
  refine wpList_call rfl (by simp [go_sem]; exact ⟨rfl,rfl⟩) ?_
  refine (linesC_any (linesK plcR r 8) w6 (hC.out.ext hE6.out)).mono ?_
  rintro e w7 ⟨rfl,hX⟩
  refine ⟨_,rfl,?_⟩
  simp only [jk,jq,jv,jy]
  have R7:=hideit (R6.out.carry hX)
  have P7:=hideit (P6.out.carry hX)
  have hE7:=hideit (Ext.trans hE6.out hX)
  clear hX hE6 R6 P6
  rw [← hz.out]
  have M1:=hideit (RowAt.new w7 128 (wv fun _=>0#64) 24)
  have M3:Ext w7 ((w7.alloc (.cells (row 128 (wv fun _=>0#64)).toArray 24)).setCells w7.heap.size 0 (row 128 (wv z))):=below_setCells w7.heap.size (Nat.le_refl _) _ 0 _ ((Below.refl _ _).alloc (Nat.le_refl _) _)
  have Z8:=hideit (M1.out.cells (g':=wv z))
  refine wpList_to rfl (.pointer (some ⟨w7.heap.size,0,none⟩)) (w7.alloc (.cells (row 128 (wv fun _=>0#64)).toArray 24)) (exec_allocP 24 _ rfl (zero31p _)) ?_
  simp only [jk,jq,jv,jy]
  refine wpList_store_mid rfl 24 (.tmp 6) (.tmp 12) rfl w7.heap.size 0 (row 128 (wv z)).toArray rfl rfl (by rw [row_size]; exact M1.out.there) (by rw [row_size]; exact infoPg) (row_one fun _ _=>rfl) ?_
  rw [show (row 128 (wv z)).toArray.toList = row 128 (wv z) from rfl]
  have R8:=hideit (R7.out.carry M3)
  have P8:=hideit (P7.out.carry M3)
  have hE8:=hideit (Ext.trans hE7.out M3)
  clear M3 hE7 R7 P7
  generalize (w7.alloc (.cells (row 128 (wv fun _=>0#64)).toArray 24)).setCells w7.heap.size 0 (row 128 (wv z)) = w8 at *
  generalize w7.heap.size = v at *
  clear M1
  simp only [Act.put]
  go_upto_region 3 with (fail)
  refine wp_region_lit ?_
  refine wpList_load_mid rfl 24 (.tmp 6) rfl v 0 rfl (row 128 (wv z)) _ Z8.out.range Tryd.underlying24 rfl (by rw [row_length]; exact infoPg) ?_
  simp only [jk,jq,jv,jy]
  refine wpList_load_mid rfl 24 (.tmp 5) rfl q 0 rfl (row 128 (wv r)) _ P8.out.range Tryd.underlying24 rfl (by rw [row_length]; exact infoPg) ?_
  simp only [jk,jq,jv,jy]
  refine wpList_call rfl (by simp [go_sem]; exact ⟨rfl,rfl⟩) ?_
  refine (pplus_any z r w8).mono ?_
  rintro e w9 ⟨rfl,hX⟩
  refine ⟨_,rfl,?_⟩
  simp only [jk,jq,jv,jy]
  have R9:=hideit (R8.out.carry hX)
  have hE9:=hideit (Ext.trans hE8.out hX)
  clear hX hE8 R8
  clear Z8 P8
  rw [← hg.out]
  refine wpList_store_mid rfl 24 (.tmp 4) (.tmp 15) rfl d 0 (row 128 (wv g)).toArray rfl rfl (by rw [row_size]; exact R9.out.there) (by rw [row_size]; exact infoPg) (row_one fun _ _=>rfl) ?_
  rw [show (row 128 (wv g)).toArray.toList = row 128 (wv g) from rfl]
  have h9:=hideit (R9.out.cells (g':=wv g))
  have hE10:=hideit (below_setCells d hdw.out (row 128 (wv g)) 0 _ hE9.out)
  generalize w9.setCells d 0 (row 128 (wv g)) = w10 at *
  clear R9 hE9
  simp only [Act.put]
  go_wp2
  exact bodyPost_ret (ret_row Tryd.results10 rfl h9.out Tryd.underlying24 rfl infoPg) rfl ⟨rfl,hE10.out⟩
theorem pages_any (x y:Nat → BitVec 64) (w:World) (hC:TabM w):
    Calls Tryd.prog 10 #[.agg (row 128 (wv x)).toArray,.agg (row 128 (wv y)).toArray] w fun e w'=>e = .returned (.agg (row 128 (wv (pagesF x y))).toArray) ∧ Ext w w':=pages_core x y _ _ _ rfl rfl rfl w hC
end Go.Proofs.YtfbmeclpcgdmhabDoor
namespace Go.Proofs.YtfbmeclpcgdmhabDoor
set_option maxRecDepth 20000
open Go.RowKit Go.BigFrame
def zP:Nat → BitVec 64:=fun _=>0#64
end Go.Proofs.YtfbmeclpcgdmhabDoor
