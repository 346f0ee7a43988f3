/-
  Sixteen words stirred: the document's answer. The state behind a piece.
-/
import Derived.Test.YtfbmeclpcgdmhabDoorQk1
import Derived.Test.YtfbmeclpcgdmhabDoorQk10
import Derived.Test.YtfbmeclpcgdmhabDoorQk9
namespace Go.Proofs.YtfbmeclpcgdmhabDoor
open Go.RowKit Go.BigFrame
set_option maxRecDepth 20000 in
set_option maxHeartbeats 4000000 in
theorem rStir_any (v:Nat → BitVec 64) (w:World):
    Calls Tryd.prog 65 #[.agg (row 16 (wv v)).toArray] w fun e w'=>e = .returned (.agg (row 16 (wv (stK v 8))).toArray) ∧ Ext w w':=by
  have hz:=zero46
  obtain ⟨F,hF⟩:∃ F,F = stK v:=⟨_,rfl⟩
  have hF0:Hid (F 0 = v):=by rw [hF]; rfl
  have hF1:Hid (F 1 = rowSt (F 0) 0 4 8 12):=by rw [hF]; rfl
  have hF2:Hid (F 2 = rowSt (F 1) 1 5 9 13):=by rw [hF]; rfl
  have hF3:Hid (F 3 = rowSt (F 2) 2 6 10 14):=by rw [hF]; rfl
  have hF4:Hid (F 4 = rowSt (F 3) 3 7 11 15):=by rw [hF]; rfl
  have hF5:Hid (F 5 = rowSt (F 4) 0 5 10 15):=by rw [hF]; rfl
  have hF6:Hid (F 6 = rowSt (F 5) 1 6 11 12):=by rw [hF]; rfl
  have hF7:Hid (F 7 = rowSt (F 6) 2 7 8 13):=by rw [hF]; rfl
  have hF8:Hid (F 8 = rowSt (F 7) 3 4 9 14):=by rw [hF]; rfl
  rw [← hF]
  clear hF
  go_enter Tryd.func65,Tryd.ntmps65
  go_upto_region 1 with (fail)
  have HM:SS w w.heap.size (F 0) ((w.alloc (.cells (row 16 (wv v)).toArray 25)).alloc (.cells (row 16 (wv fun _=>0#64)).toArray 25)):=by
    rw [hF0.out]
    refine ⟨((Below.refl _ _).alloc (Nat.le_refl _) _).alloc (by simp) _,(RowAt.new w 16 (wv v) 25).alloc _,?_⟩
    have:=RowAt.new (w.alloc (.cells (row 16 (wv v)).toArray 25)) 16 (wv fun _=>0#64) 25
    simpa using this
  have H0:=hideit HM
  clear HM
  generalize (w.alloc (.cells (row 16 (wv v)).toArray 25)).alloc (.cells (row 16 (wv fun _=>0#64)).toArray 25) = w0 at *
  obtain ⟨b,hb⟩:∃ b,b = w.heap.size:=⟨_,rfl⟩
  have hb0:Hid (w.heap.size ≤ b):=hideit (by omega)
  rw [← hb] at H0 ⊢
  clear hb
  have kc:=four_any (F 0) 0 4 8 12 (by decide) (by decide) (by decide) (by decide) (by decide) (by decide) (by decide) (by decide) (by decide) (by decide)
  rw [← hF1.out] at kc
  replace kc:=hideit kc
  go_upto_region 1 with (fail)
  refine wp_region_lit ?_
  refine wpList_load_mid rfl 25 (.tmp 1) rfl b 0 rfl (row 16 (wv (F 0))) _ H0.out.st.range Tryd.underlying25 rfl (by rw [row_length]; exact info46) ?_
  simp only [jk,jq,jv,jy]
  refine wpList_call rfl (by simp [go_sem]; exact ⟨rfl,rfl⟩) ?_
  refine (kc.out w0).mono ?_
  rintro e x0 ⟨rfl,hX⟩
  refine ⟨_,rfl,?_⟩
  simp only [jk,jq,jv,jy]
  have HX:=hideit (H0.out.carry hX)
  refine wpList_store_mid rfl 25 (.tmp 1) (.tmp 4) rfl b 0 (row 16 (wv (F 1))).toArray rfl rfl (by rw [row_size]; exact HX.out.st.there) (by rw [row_size]; exact info46) (row_one fun _ _=>rfl) ?_
  rw [show (row 16 (wv (F 1))).toArray.toList = row 16 (wv (F 1)) from rfl]
  have H1:Hid (SS w b (F 1) (x0.setCells b 0 (row 16 (wv (F 1))))):=hideit ⟨below_setCells b hb0.out _ 0 _ HX.out.ext,HX.out.st.cells,HX.out.res.cellsOther (by omega) _ 0⟩
  clear HX H0 kc hX
  generalize x0.setCells b 0 (row 16 (wv (F 1))) = w1 at *
  simp only [Act.put]
  have kc:=four_any (F 1) 1 5 9 13 (by decide) (by decide) (by decide) (by decide) (by decide) (by decide) (by decide) (by decide) (by decide) (by decide)
  rw [← hF2.out] at kc
  replace kc:=hideit kc
  go_upto_region 2 with (fail)
  refine wp_region_lit ?_
  refine wpList_load_mid rfl 25 (.tmp 1) rfl b 0 rfl (row 16 (wv (F 1))) _ H1.out.st.range Tryd.underlying25 rfl (by rw [row_length]; exact info46) ?_
  simp only [jk,jq,jv,jy]
  refine wpList_call rfl (by simp [go_sem]; exact ⟨rfl,rfl⟩) ?_
  refine (kc.out w1).mono ?_
  rintro e x1 ⟨rfl,hX⟩
  refine ⟨_,rfl,?_⟩
  simp only [jk,jq,jv,jy]
  have HX:=hideit (H1.out.carry hX)
  refine wpList_store_mid rfl 25 (.tmp 1) (.tmp 6) rfl b 0 (row 16 (wv (F 2))).toArray rfl rfl (by rw [row_size]; exact HX.out.st.there) (by rw [row_size]; exact info46) (row_one fun _ _=>rfl) ?_
  rw [show (row 16 (wv (F 2))).toArray.toList = row 16 (wv (F 2)) from rfl]
  have H2:Hid (SS w b (F 2) (x1.setCells b 0 (row 16 (wv (F 2))))):=hideit ⟨below_setCells b hb0.out _ 0 _ HX.out.ext,HX.out.st.cells,HX.out.res.cellsOther (by omega) _ 0⟩
  clear HX H1 kc hX
  generalize x1.setCells b 0 (row 16 (wv (F 2))) = w2 at *
  simp only [Act.put]
  have kc:=four_any (F 2) 2 6 10 14 (by decide) (by decide) (by decide) (by decide) (by decide) (by decide) (by decide) (by decide) (by decide) (by decide)
  rw [← hF3.out] at kc
  replace kc:=hideit kc
  go_upto_region 3 with (fail)
  refine wp_region_lit ?_
  refine wpList_load_mid rfl 25 (.tmp 1) rfl b 0 rfl (row 16 (wv (F 2))) _ H2.out.st.range Tryd.underlying25 rfl (by rw [row_length]; exact info46) ?_
  simp only [jk,jq,jv,jy]
  refine wpList_call rfl (by simp [go_sem]; exact ⟨rfl,rfl⟩) ?_
  refine (kc.out w2).mono ?_
  rintro e x2 ⟨rfl,hX⟩
  refine ⟨_,rfl,?_⟩
  simp only [jk,jq,jv,jy]
  have HX:=hideit (H2.out.carry hX)
  refine wpList_store_mid rfl 25 (.tmp 1) (.tmp 8) rfl b 0 (row 16 (wv (F 3))).toArray rfl rfl (by rw [row_size]; exact HX.out.st.there) (by rw [row_size]; exact info46) (row_one fun _ _=>rfl) ?_
  rw [show (row 16 (wv (F 3))).toArray.toList = row 16 (wv (F 3)) from rfl]
  have H3:Hid (SS w b (F 3) (x2.setCells b 0 (row 16 (wv (F 3))))):=hideit ⟨below_setCells b hb0.out _ 0 _ HX.out.ext,HX.out.st.cells,HX.out.res.cellsOther (by omega) _ 0⟩
  clear HX H2 kc hX
  generalize x2.setCells b 0 (row 16 (wv (F 3))) = w3 at *
  simp only [Act.put]
  have kc:=four_any (F 3) 3 7 11 15 (by decide) (by decide) (by decide) (by decide) (by decide) (by decide) (by decide) (by decide) (by decide) (by decide)
  rw [← hF4.out] at kc
  replace kc:=hideit kc
  go_upto_region 4 with (fail)
  refine wp_region_lit ?_
  refine wpList_load_mid rfl 25 (.tmp 1) rfl b 0 rfl (row 16 (wv (F 3))) _ H3.out.st.range Tryd.underlying25 rfl (by rw [row_length]; exact info46) ?_
  simp only [jk,jq,jv,jy]
  refine wpList_call rfl (by simp [go_sem]; exact ⟨rfl,rfl⟩) ?_
  refine (kc.out w3).mono ?_
  rintro e x3 ⟨rfl,hX⟩
  refine ⟨_,rfl,?_⟩
  simp only [jk,jq,jv,jy]
  have HX:=hideit (H3.out.carry hX)
  refine wpList_store_mid rfl 25 (.tmp 1) (.tmp 10) rfl b 0 (row 16 (wv (F 4))).toArray rfl rfl (by rw [row_size]; exact HX.out.st.there) (by rw [row_size]; exact info46) (row_one fun _ _=>rfl) ?_
  rw [show (row 16 (wv (F 4))).toArray.toList = row 16 (wv (F 4)) from rfl]
  have H4:Hid (SS w b (F 4) (x3.setCells b 0 (row 16 (wv (F 4))))):=hideit ⟨below_setCells b hb0.out _ 0 _ HX.out.ext,HX.out.st.cells,HX.out.res.cellsOther (by omega) _ 0⟩
  clear HX H3 kc hX
  generalize x3.setCells b 0 (row 16 (wv (F 4))) = w4 at *
  simp only [Act.put]
  have kc:=four_any (F 4) 0 5 10 15 (by decide) (by decide) (by decide) (by decide) (by decide) (by decide) (by decide) (by decide) (by decide) (by decide)
  rw [← hF5.out] at kc
  replace kc:=hideit kc
  go_upto_region 5 with (fail)
  refine wp_region_lit ?_
  refine wpList_load_mid rfl 25 (.tmp 1) rfl b 0 rfl (row 16 (wv (F 4))) _ H4.out.st.range Tryd.underlying25 rfl (by rw [row_length]; exact info46) ?_
  simp only [jk,jq,jv,jy]
  refine wpList_call rfl (by simp [go_sem]; exact ⟨rfl,rfl⟩) ?_
  refine (kc.out w4).mono ?_
  rintro e x4 ⟨rfl,hX⟩
  refine ⟨_,rfl,?_⟩
  simp only [jk,jq,jv,jy]
  have HX:=hideit (H4.out.carry hX)
  refine wpList_store_mid rfl 25 (.tmp 1) (.tmp 12) rfl b 0 (row 16 (wv (F 5))).toArray rfl rfl (by rw [row_size]; exact HX.out.st.there) (by rw [row_size]; exact info46) (row_one fun _ _=>rfl) ?_
  rw [show (row 16 (wv (F 5))).toArray.toList = row 16 (wv (F 5)) from rfl]
  have H5:Hid (SS w b (F 5) (x4.setCells b 0 (row 16 (wv (F 5))))):=hideit ⟨below_setCells b hb0.out _ 0 _ HX.out.ext,HX.out.st.cells,HX.out.res.cellsOther (by omega) _ 0⟩
  clear HX H4 kc hX
  generalize x4.setCells b 0 (row 16 (wv (F 5))) = w5 at *
  simp only [Act.put]
  have kc:=four_any (F 5) 1 6 11 12 (by decide) (by decide) (by decide) (by decide) (by decide) (by decide) (by decide) (by decide) (by decide) (by decide)
  rw [← hF6.out] at kc
  replace kc:=hideit kc
  go_upto_region 6 with (fail)
  refine wp_region_lit ?_
  refine wpList_load_mid rfl 25 (.tmp 1) rfl b 0 rfl (row 16 (wv (F 5))) _ H5.out.st.range Tryd.underlying25 rfl (by rw [row_length]; exact info46) ?_
  simp only [jk,jq,jv,jy]
  refine wpList_call rfl (by simp [go_sem]; exact ⟨rfl,rfl⟩) ?_
  refine (kc.out w5).mono ?_
  rintro e x5 ⟨rfl,hX⟩
  refine ⟨_,rfl,?_⟩
  simp only [jk,jq,jv,jy]
  have HX:=hideit (H5.out.carry hX)
  refine wpList_store_mid rfl 25 (.tmp 1) (.tmp 14) rfl b 0 (row 16 (wv (F 6))).toArray rfl rfl (by rw [row_size]; exact HX.out.st.there) (by rw [row_size]; exact info46) (row_one fun _ _=>rfl) ?_
  rw [show (row 16 (wv (F 6))).toArray.toList = row 16 (wv (F 6)) from rfl]
  have H6:Hid (SS w b (F 6) (x5.setCells b 0 (row 16 (wv (F 6))))):=hideit ⟨below_setCells b hb0.out _ 0 _ HX.out.ext,HX.out.st.cells,HX.out.res.cellsOther (by omega) _ 0⟩
  clear HX H5 kc hX
  generalize x5.setCells b 0 (row 16 (wv (F 6))) = w6 at *
  simp only [Act.put]
  have kc:=four_any (F 6) 2 7 8 13 (by decide) (by decide) (by decide) (by decide) (by decide) (by decide) (by decide) (by decide) (by decide) (by decide)
  rw [← hF7.out] at kc
  replace kc:=hideit kc
  go_upto_region 7 with (fail)
  refine wp_region_lit ?_
  refine wpList_load_mid rfl 25 (.tmp 1) rfl b 0 rfl (row 16 (wv (F 6))) _ H6.out.st.range Tryd.underlying25 rfl (by rw [row_length]; exact info46) ?_
  simp only [jk,jq,jv,jy]
  refine wpList_call rfl (by simp [go_sem]; exact ⟨rfl,rfl⟩) ?_
  refine (kc.out w6).mono ?_
  rintro e x6 ⟨rfl,hX⟩
  refine ⟨_,rfl,?_⟩
  simp only [jk,jq,jv,jy]
  have HX:=hideit (H6.out.carry hX)
  refine wpList_store_mid rfl 25 (.tmp 1) (.tmp 16) rfl b 0 (row 16 (wv (F 7))).toArray rfl rfl (by rw [row_size]; exact HX.out.st.there) (by rw [row_size]; exact info46) (row_one fun _ _=>rfl) ?_
  rw [show (row 16 (wv (F 7))).toArray.toList = row 16 (wv (F 7)) from rfl]
  have H7:Hid (SS w b (F 7) (x6.setCells b 0 (row 16 (wv (F 7))))):=hideit ⟨below_setCells b hb0.out _ 0 _ HX.out.ext,HX.out.st.cells,HX.out.res.cellsOther (by omega) _ 0⟩
  clear HX H6 kc hX
  generalize x6.setCells b 0 (row 16 (wv (F 7))) = w7 at *
  simp only [Act.put]
  have kc:=four_any (F 7) 3 4 9 14 (by decide) (by decide) (by decide) (by decide) (by decide) (by decide) (by decide) (by decide) (by decide) (by decide)
  rw [← hF8.out] at kc
  replace kc:=hideit kc
  go_upto_region 8 with (fail)
  refine wp_region_lit ?_
  refine wpList_load_mid rfl 25 (.tmp 1) rfl b 0 rfl (row 16 (wv (F 7))) _ H7.out.st.range Tryd.underlying25 rfl (by rw [row_length]; exact info46) ?_
  simp only [jk,jq,jv,jy]
  refine wpList_call rfl (by simp [go_sem]; exact ⟨rfl,rfl⟩) ?_
  refine (kc.out w7).mono ?_
  rintro e x7 ⟨rfl,hX⟩
  refine ⟨_,rfl,?_⟩
  simp only [jk,jq,jv,jy]
  have HX:=hideit (H7.out.carry hX)
  refine wpList_store_mid rfl 25 (.tmp 2) (.tmp 18) rfl (b + 1) 0 (row 16 (wv (F 8))).toArray rfl rfl (by rw [row_size]; exact HX.out.res.there) (by rw [row_size]; exact info46) (row_one fun _ _=>rfl) ?_
  rw [show (row 16 (wv (F 8))).toArray.toList = row 16 (wv (F 8)) from rfl]
  have h9:=hideit (HX.out.res.cells (g':=wv (F 8)))
  have hE9:=hideit (below_setCells (b + 1) (by have:=hb0.out; omega) (row 16 (wv (F 8))) 0 _ HX.out.ext)
  clear HX H7 kc hX
  generalize x7.setCells (b + 1) 0 (row 16 (wv (F 8))) = w8 at *
  simp only [Act.put]
  go_wp2
  exact bodyPost_ret (ret_row Tryd.results65 rfl h9.out Tryd.underlying25 rfl info46) rfl ⟨rfl,hE9.out⟩
def xrF (x y:Nat → BitVec 64) (j:Nat):BitVec 64:=xW (x j) (y j)
def upX (x y:Nat → BitVec 64) (k j:Nat):BitVec 64:=if j < k then xW (x j) (y j) else x j
theorem idxPg (p:Nat → BitVec 64) (n:Nat) (hn:n < 128) (X:World):(Instr.index 24 (.agg (row 128 (wv p)).toArray) (.int .i64 (n:Int))).run Tryd.prog X = .ok (.int .u64 ((p n).toNat:Int)) X:=by
  have hs:∀ X,(sizeOf 22).run Tryd.prog X = .ok 1 X:=fun X=>by kernel_rfl
  have ha:∀ X,(isAgg 22).run Tryd.prog X = .ok false X:=fun X=>by kernel_rfl
  have hg:=row_get 128 (wv p) n hn
  simp [Instr.index,run_underlying Tryd.underlying24,asIntOf,hn,part,ha,hs,hg,go_sem,wv]
theorem idx16 (p:Nat → BitVec 64) (n:Nat) (hn:n < 16) (X:World):(Instr.index 25 (.agg (row 16 (wv p)).toArray) (.int .i64 (n:Int))).run Tryd.prog X = .ok (.int .u64 ((p n).toNat:Int)) X:=by
  have hs:∀ X,(sizeOf 22).run Tryd.prog X = .ok 1 X:=fun X=>by kernel_rfl
  have ha:∀ X,(isAgg 22).run Tryd.prog X = .ok false X:=fun X=>by kernel_rfl
  have hg:=row_get 16 (wv p) n hn
  simp [Instr.index,run_underlying Tryd.underlying25,asIntOf,hn,part,ha,hs,hg,go_sem,wv]
end Go.Proofs.YtfbmeclpcgdmhabDoor
namespace Go.Proofs.YtfbmeclpcgdmhabDoor
open Go.RowKit Go.BigFrame
def startF (h:Nat → BitVec 64) (t:BitVec 64) (last:Bool) (j:Nat):BitVec 64:=
  if j = 14 then (if last = true then nW (fT 6) else fT 6) else if j = 12 then xW (fT 4) t else if j < 8 then h j else fT (j - 8)
def rK (v m:Nat → BitVec 64):Nat → Nat → BitVec 64
  | 0=>v
  | r + 1=>mixK (rK v m r) m (ordF r) 8
def pieceF (h:Nat → BitVec 64) (p:Nat → BitVec 8) (t:BitVec 64) (last:Bool) (j:Nat):BitVec 64:=
  xW (h j) (xW (rK (startF h t last) (wordsW p) 12 j) (rK (startF h t last) (wordsW p) 12 (j + 8)))
theorem ord_lt:∀ r,r < 12 → ∀ j,j < 16 → ordF r j < 16:=by decide +kernel
structure QS (w:World) (b:Nat) (h:Nat → BitVec 64) (p:Nat → BitVec 8) (v:Nat → BitVec 64) (X:World):Prop where
  ext:Ext w X
  hh:RowAt b 8 (wv h) X
  pp:RowAt (b + 1) 128 (yv p) X
  res:RowAt (b + 2) 8 (wv fun _=>0#64) X
  vv:RowAt (b + 3) 16 (wv v) X
theorem QS.carry {w X Y:World} {b:Nat} {h v:Nat → BitVec 64} {p:Nat → BitVec 8} (q:QS w b h p v X) (k:Ext X Y):QS w b h p v Y:=
  ⟨Ext.trans q.ext k,q.hh.carry k,q.pp.carry k,q.res.carry k,q.vv.carry k⟩
theorem QS.setV {w X:World} {b:Nat} {h v:Nat → BitVec 64} {p:Nat → BitVec 8} (q:QS w b h p v X) (hb:w.heap.size ≤ b) (i:Nat) (a:BitVec 64):QS w b h p (fun j=>if j = i then a else v j) (X.setCell ⟨b + 3,i,none⟩ (.int .u64 (a.toNat:Int))):=
  ⟨Below.setCell q.ext (show w.heap.size ≤ b + 3 by omega) _,q.hh.other _ _ (by show b + 3 ≠ b; omega),q.pp.other _ _ (by show b + 3 ≠ b + 1; omega),q.res.other _ _ (by show b + 3 ≠ b + 2; omega),(q.vv.set i (.int .u64 (a.toNat:Int))).congr fun j _=>by
    simp only [wv]
    split <;> rfl⟩
theorem QS.setH {w X:World} {b:Nat} {h v:Nat → BitVec 64} {p:Nat → BitVec 8} (q:QS w b h p v X) (hb:w.heap.size ≤ b) (i:Nat) (a:BitVec 64):QS w b (fun j=>if j = i then a else h j) p v (X.setCell ⟨b,i,none⟩ (.int .u64 (a.toNat:Int))):=
  ⟨Below.setCell q.ext hb _,(q.hh.set i (.int .u64 (a.toNat:Int))).congr fun j _=>by
    simp only [wv]
    split <;> rfl,q.pp.other _ _ (by show b ≠ b + 1; omega),q.res.other _ _ (by show b ≠ b + 2; omega),q.vv.other _ _ (by show b ≠ b + 3; omega)⟩
theorem QS.setVs {w X:World} {b:Nat} {h v:Nat → BitVec 64} {p:Nat → BitVec 8} (q:QS w b h p v X) (hb:w.heap.size ≤ b) (off n:Nat) (u v':Nat → BitVec 64) (hn:off + n ≤ 16) (hv:∀ j,j < 16 → v' j = if off ≤ j ∧ j < off + n then u (j - off) else v j):QS w b h p v' (X.setCells (b + 3) off (row n (wv u))):=
  ⟨below_setCells (b + 3) (by omega) _ _ _ q.ext,q.hh.cellsOther (by omega) _ _,q.pp.cellsOther (by omega) _ _,q.res.cellsOther (by omega) _ _,(q.vv.part off n (wv u) hn).congr fun j hj=>by
    simp only [wv,hv j hj]
    split <;> rfl⟩
theorem cutV8 (b:Nat) (X:World):Sem.run Tryd.prog (Instr.sliceAt 25 (.pointer (some ⟨b,0,none⟩)) none (some (.int .i64 8)) none) X = .ok (.slice (some ⟨b,0,none⟩) 8 16) X:=by kernel_rfl
theorem cutV8r (b:Nat) (X:World):Sem.run Tryd.prog (Instr.sliceAt 25 (.pointer (some ⟨b,0,none⟩)) (some (.int .i64 8)) none none) X = .ok (.slice (some ⟨b,8,none⟩) 8 8) X:=by kernel_rfl
theorem cutH8 (b:Nat) (X:World):Sem.run Tryd.prog (Instr.sliceAt 92 (.pointer (some ⟨b,0,none⟩)) none none none) X = .ok (.slice (some ⟨b,0,none⟩) 8 8) X:=by kernel_rfl
theorem info29':(Tryd.prog.info? 22).map (·.size) = some 1:=by kernel_rfl
theorem lie0 {b n:Nat} {g:Nat → Value} {w:World} (h:RowAt b n g w) (j:Nat) (hj:j < n):w.cell? ((⟨b,0,none⟩:Addr).add j) = some (g j):=by
  have hadd:(⟨b,0,none⟩:Addr).add j = ⟨b,j,none⟩:=by unfold Addr.add; split <;> simp_all
  rw [hadd]
  exact h.1 j hj
set_option maxRecDepth 20000 in
set_option maxHeartbeats 4000000 in
theorem piece_any (h:Nat → BitVec 64) (p:Nat → BitVec 8) (t:BitVec 64) (last:Bool) (w:World) (hC:TabC w):
    Calls Tryd.prog 69 #[.agg (row 8 (wv h)).toArray,.agg (row 128 (yv p)).toArray,.int .u64 (t.toNat:Int),.bool last] w fun e w'=>e = .returned (.agg (row 8 (wv (pieceF h p t last))).toArray) ∧ Below w.heap.size w w':=by
  have hz:=zero46
  have hz2:=zero30
  obtain ⟨b,hb⟩:∃ b,b = w.heap.size:=⟨_,rfl⟩
  have hb0:w.heap.size ≤ b:=by omega
  obtain ⟨V,hV⟩:∃ V,V = rK (startF h t last) (wordsW p):=⟨_,rfl⟩
  have hVs:Hid (∀ r,V (r + 1) = mixK (V r) (wordsW p) (ordF r) 8):=fun r=>by rw [hV]; rfl
  have hV0:Hid (V 0 = startF h t last):=by rw [hV]; rfl
  obtain ⟨R,hR⟩:∃ R,R = pieceF h p t last:=⟨_,rfl⟩
  have hRj:Hid (∀ j,R j = xW (h j) (xW (V 12 j) (V 12 (j + 8)))):=fun j=>by rw [hR,hV]; rfl
  rw [← hR]
  clear hR hV
  obtain ⟨f,hf⟩:∃ f,f = fT:=⟨_,rfl⟩
  have hfi:=first_any
  rw [← hf] at hfi
  replace hfi:=hideit hfi
  have hst:Hid (∀ j,V 0 j = if j = 14 then (if last = true then nW (f 6) else f 6) else if j = 12 then xW (f 4) t else if j < 8 then h j else f (j - 8)):=fun j=>by rw [hV0.out,hf]; rfl
  clear hf hV0
  replace hC:=hideit hC
  go_enter Tryd.func69,Tryd.ntmps69
  go_upto_region 2 with (fail)
  have HQ:QS w b h p (fun _=>0#64) ((((w.alloc (.cells (row 8 (wv h)).toArray 92)).alloc (.cells (row 128 (yv p)).toArray 94)).alloc (.cells (row 8 (wv fun _=>0#64)).toArray 92)).alloc (.cells (row 16 (wv fun _=>0#64)).toArray 25)):=by
    rw [hb]
    refine ⟨((((Below.refl _ _).alloc (Nat.le_refl _) _).alloc (by simp) _).alloc (by simp; omega) _).alloc (by simp; omega) _,?_,?_,?_,?_⟩
    · exact (((RowAt.new w 8 (wv h) 92).alloc _).alloc _).alloc _
    · have:=((RowAt.new (w.alloc (.cells (row 8 (wv h)).toArray 92)) 128 (yv p) 94).alloc (.cells (row 8 (wv fun _=>0#64)).toArray 92)).alloc (.cells (row 16 (wv fun _=>0#64)).toArray 25)
      simpa using this
    · have:=(RowAt.new ((w.alloc (.cells (row 8 (wv h)).toArray 92)).alloc (.cells (row 128 (yv p)).toArray 94)) 8 (wv fun _=>0#64) 92).alloc (.cells (row 16 (wv fun _=>0#64)).toArray 25)
      simpa using this
    · have:=RowAt.new (((w.alloc (.cells (row 8 (wv h)).toArray 92)).alloc (.cells (row 128 (yv p)).toArray 94)).alloc (.cells (row 8 (wv fun _=>0#64)).toArray 92)) 16 (wv fun _=>0#64) 25
      simpa using this
  replace HQ:=hideit HQ
  generalize (((w.alloc (.cells (row 8 (wv h)).toArray 92)).alloc (.cells (row 128 (yv p)).toArray 94)).alloc (.cells (row 8 (wv fun _=>0#64)).toArray 92)).alloc (.cells (row 16 (wv fun _=>0#64)).toArray 25) = w1 at *
  rw [← hb]
  clear hb
  refine wp_region_lit ?_
  refine wpList_call rfl (by simp [go_sem]) ((hfi.out w1).mono ?_)
  rintro e w2 ⟨rfl,hw2⟩
  refine ⟨_,rfl,?_⟩
  simp only [jk,jq,jv,jy]
  have HN:=hideit (RowAt.new w2 8 (wv fun _=>0#64) 92)
  have hE3:Ext w2 (w2.alloc (.cells (row 8 (wv fun _=>0#64)).toArray 92)):=(Below.refl _ _).alloc (Nat.le_refl _) _
  refine wpList_to rfl (.pointer (some ⟨w2.heap.size,0,none⟩)) (w2.alloc (.cells (row 8 (wv fun _=>0#64)).toArray 92)) (by simp [go_sem,hz2]) ?_
  simp only [jk,jq,jv,jy]
  refine wpList_store_mid rfl 92 (.tmp 10) (.tmp 14) rfl _ 0 (row 8 (wv f)).toArray rfl rfl (by rw [row_size]; exact HN.out.there) (by rw [row_size]; exact info30) (row_one fun _ _=>rfl) ?_
  have hE4:Ext w1 ((w2.alloc (.cells (row 8 (wv fun _=>0#64)).toArray 92)).setCells w2.heap.size 0 (row 8 (wv f))):=Ext.trans hw2 (below_setCells w2.heap.size (Nat.le_refl _) _ _ _ hE3)
  have HF:=hideit (HN.out.cells (g':=wv f))
  have HQ4:=hideit (HQ.out.carry hE4)
  have hb10:b + 3 < w2.heap.size:=Nat.lt_of_lt_of_le HQ.out.vv.2.2 (Below.size hw2)
  generalize (w2.alloc (.cells (row 8 (wv fun _=>0#64)).toArray 92)).setCells w2.heap.size 0 (row 8 (wv f)) = w4 at *
  generalize w2.heap.size = b10 at *
  clear HN hE3 hE4 hw2 HQ hfi
  simp only [Act.put]
  have c1:=cutV8
  have c2:=cutV8r
  have c3:=cutH8
  go_upto_region 3 with (fail)
  have hne:=kept_ne w4.drew
  refine wp_region_late 2 (by kernel_rfl) (by kernel_rfl) (by decide) ?_
  simp only [List.take_succ_cons,List.take_zero,List.drop_succ_cons,List.drop_zero]
  refine wpStrong_run 2 rfl ?_
  simp only [List.take_succ_cons,List.take_zero,List.drop_succ_cons,List.drop_zero]
  repeat (go_big_quiet_step (fail))
  refine wpQuiet_nil ?_
  refine wpStrong_nil ?_
  intro X5 hX5
  have hwX:Ext w4 X5:=Ext.trans (Below.refl _ _).drew hX5
  have HQ5:=hideit (HQ4.out.carry hwX)
  have HF5:=hideit (HF.out.carry hwX)
  clear hwX hX5 HQ4 HF hne
  refine wpList_copy_row rfl (.tmp 15) (.tmp 16) 106 106 rfl 22 Tryd.underlying106 info29' (b + 3) 16 (wv fun _=>0#64) HQ5.out.vv 0 8 16 ⟨b,0,none⟩ 8 8 rfl rfl 8 (wv h) rfl (fun j hj=>lie0 HQ5.out.hh j hj) (by omega) (fun _ _=>rfl) ?_
  have HQ6:=hideit (HQ5.out.setVs hb0 0 8 h (fun j=>if j < 8 then h j else 0#64) (by omega) (fun j _=>by
    by_cases hj:j < 8
    · rw [if_pos hj,if_pos (by omega),Nat.sub_zero]
    · rw [if_neg hj,if_neg (by omega)]))
  have HF6:=hideit (HF5.out.cellsOther (c:=b + 3) (by omega) (row 8 (wv h)) 0)
  generalize X5.setCells (b + 3) 0 (row 8 (wv h)) = w6 at *
  clear HQ5 HF5
  simp only [jk,jq,jv,jy]
  go_upto_region 4 with (fail)
  have hne:=kept_ne w6.drew
  refine wp_region_late 2 (by kernel_rfl) (by kernel_rfl) (by decide) ?_
  simp only [List.take_succ_cons,List.take_zero,List.drop_succ_cons,List.drop_zero]
  refine wpStrong_run 2 rfl ?_
  simp only [List.take_succ_cons,List.take_zero,List.drop_succ_cons,List.drop_zero]
  repeat (go_big_quiet_step (fail))
  refine wpQuiet_nil ?_
  refine wpStrong_nil ?_
  intro X7 hX7
  have hwX:Ext w6 X7:=Ext.trans (Below.refl _ _).drew hX7
  have HQ7:=hideit (HQ6.out.carry hwX)
  have HF7:=hideit (HF6.out.carry hwX)
  clear hwX hX7 HQ6 HF6 hne
  refine wpList_copy_row rfl (.tmp 18) (.tmp 19) 106 106 rfl 22 Tryd.underlying106 info29' (b + 3) 16 _ HQ7.out.vv 8 8 8 ⟨b10,0,none⟩ 8 8 rfl rfl 8 (wv f) rfl (fun j hj=>lie0 HF7.out j hj) (by omega) (fun _ _=>rfl) ?_
  have HQ8:=hideit (HQ7.out.setVs hb0 8 8 f (fun j=>if j < 8 then h j else f (j - 8)) (by omega) (fun j hj16=>by
    by_cases hj:j < 8
    · rw [if_pos hj,if_neg (by omega),if_pos hj]
    · rw [if_neg hj,if_pos (by omega)]))
  generalize X7.setCells (b + 3) 8 (row 8 (wv f)) = w8 at *
  clear HQ7 HF7 c1 c2 c3
  simp only [jk,jq,jv,jy]
  have e12:=HQ8.out.vv.1 12 (by omega)
  have g12:=HQ8.out.vv.2.1 12 (by omega)
  have hx12:=xW_fact (f 4) t
  simp only [wv] at e12
  rw [if_neg (by omega),show 12 - 8 = 4 from rfl] at e12
  go_upto_region 6 with (fail)
  have HQ9:=hideit (HQ8.out.setV hb0 12 (xW (f 4) t))
  generalize w8.setCell ⟨b + 3,12,none⟩ (.int .u64 ((xW (f 4) t).toNat:Int)) = w9 at *
  clear HQ8 e12 g12 hx12
  have e14:=HQ9.out.vv.1 14 (by omega)
  have g14:=HQ9.out.vv.2.1 14 (by omega)
  simp only [wv] at e14
  rw [if_neg (by omega),if_neg (by omega),show 14 - 8 = 6 from rfl] at e14
  have hn14:=nW_fact (f 6)
  cases last with
  | true=>
    go_upto_region 8 with (fail)
    have HQA:QS w b h p (V 0) (w9.setCell ⟨b + 3,14,none⟩ (.int .u64 ((nW (f 6)).toNat:Int))):=by
      have hh:=HQ9.out.setV hb0 14 (nW (f 6))
      refine ⟨hh.ext,hh.hh,hh.pp,hh.res,hh.vv.congr fun j _=>?_⟩
      simp only [wv]
      rw [hst.out j,if_pos rfl]
    replace HQA:=hideit HQA
    generalize w9.setCell ⟨b + 3,14,none⟩ (.int .u64 ((nW (f 6)).toNat:Int)) = wA at *
    clear HQ9 e14 g14 hn14
    have hwo:=hideit (words_any p wA)
    refine wp_region_lit ?_
    refine wpList_load_mid rfl 94 (.tmp 5) rfl (b + 1) 0 rfl (row 128 (yv p)) _ HQA.out.pp.range Tryd.underlying94 rfl (by rw [row_length]; exact info31) ?_
    simp only [jk,jq,jv,jy]
    refine wpList_call rfl (by simp [go_sem]) (hwo.out.mono ?_)
    rintro e x2 ⟨rfl,hx2⟩
    refine ⟨_,rfl,?_⟩
    simp only [jk,jq,jv,jy]
    obtain ⟨MW,hMW⟩:∃ MW,MW = wordsW p:=⟨_,rfl⟩
    rw [← hMW]
    rw [← hMW] at hVs
    clear hMW
    have HN:=hideit (RowAt.new x2 16 (wv fun _=>0#64) 25)
    have hE3:Ext x2 (x2.alloc (.cells (row 16 (wv fun _=>0#64)).toArray 25)):=(Below.refl _ _).alloc (Nat.le_refl _) _
    refine wpList_to rfl (.pointer (some ⟨x2.heap.size,0,none⟩)) (x2.alloc (.cells (row 16 (wv fun _=>0#64)).toArray 25)) (by simp [go_sem,hz]) ?_
    simp only [jk,jq,jv,jy]
    refine wpList_store_mid rfl 25 (.tmp 11) (.tmp 32) rfl _ 0 (row 16 (wv MW)).toArray rfl rfl (by rw [row_size]; exact HN.out.there) (by rw [row_size]; exact info46) (row_one fun _ _=>rfl) ?_
    have hE4:Ext wA ((x2.alloc (.cells (row 16 (wv fun _=>0#64)).toArray 25)).setCells x2.heap.size 0 (row 16 (wv MW))):=Ext.trans hx2 (below_setCells x2.heap.size (Nat.le_refl _) _ _ _ hE3)
    have HW0:=hideit (HN.out.cells (g':=wv MW))
    have HQB:=hideit (HQA.out.carry hE4)
    have hb11:b + 3 < x2.heap.size:=Nat.lt_of_lt_of_le HQA.out.vv.2.2 (Below.size hx2)
    generalize (x2.alloc (.cells (row 16 (wv fun _=>0#64)).toArray 25)).setCells x2.heap.size 0 (row 16 (wv MW)) = wB at *
    generalize x2.heap.size = b11 at *
    clear HN hE3 hE4 hx2 HQA hwo
    simp only [Act.put]
    go_wp2
    go_loopw [33] (fun i wr=>∃ r:Nat,r ≤ 12 ∧ i = .int .i64 r ∧ QS w b h p (V r) wr ∧ RowAt b11 16 (wv MW) wr) (fun i _=>12 - (intOf i).toNat)
    case atStart=>exact ⟨0,by omega,rfl,HQB.out,HW0.out⟩
    case round=>
      clear HQB HW0
      obtain ⟨r,hr,rfl,hQ,hW⟩:=hrel
      have HQ:=hideit hQ
      have HW:=hideit hW
      clear hQ hW
      by_cases hlt:r < 12
      · have i0:(0:Int) ≤ (r:Int):=by omega
        have i1:(r:Int) < 12:=by omega
        have hor:=hideit (fun (X:World)=>order_any r hlt X)
        have hma:=hideit (fun (X:World) (hX:Ext w X)=>mixAll_any (V r) MW (ordF r) (ord_lt r hlt) X (hC.out.ext hX))
        rw [← hVs.out r] at hma
        obtain ⟨od,hod⟩:∃ od,od = ordF r:=⟨_,rfl⟩
        rw [← hod] at hor hma
        clear hod
        go_upto_region 12 with (fail)
        have hne:=kept_ne wr.drew
        refine wp_region_late 5 (by kernel_rfl) (by kernel_rfl) (by decide) ?_
        simp only [List.take_succ_cons,List.take_zero,List.drop_succ_cons,List.drop_zero]
        refine wpStrong_run 3 rfl ?_
        simp only [List.take_succ_cons,List.take_zero,List.drop_succ_cons,List.drop_zero]
        go_big_quiet_want
        refine loadQ 25 (.tmp 9) (b + 3) 0 16 (wv (V r)) rfl rfl (fun w' hw'=>(RowAt.carry (RowAt.drew HQ.out.vv) hw').range) Tryd.underlying25 rfl info46 ?_
        simp only [jk,jq,jv,jy]
        go_big_quiet_on
        go_big_quiet_want
        refine loadQ 25 (.tmp 11) b11 0 16 (wv MW) rfl rfl (fun w' hw'=>(RowAt.carry (RowAt.drew HW.out) hw').range) Tryd.underlying25 rfl info46 ?_
        simp only [jk,jq,jv,jy]
        go_big_quiet_on
        go_big_quiet_step (fail)
        refine wpQuiet_nil ?_
        refine wpStrong_call rfl (fun X=>by simp [go_sem]) (fun X _=>hor.out X) ?_
        simp only [jk,jq,jv,jy]
        refine wpStrong_call rfl (fun X=>by simp [go_sem]) (fun X hX=>hma.out X (Ext.trans HQ.out.ext (Ext.trans (Below.refl _ _).drew hX))) ?_
        simp only [jk,jq,jv,jy]
        refine wpStrong_nil ?_
        intro X hX
        have hwX:Ext wr X:=Ext.trans (Below.refl _ _).drew hX
        have HQ':=hideit (HQ.out.carry hwX)
        have HW':=hideit (HW.out.carry hwX)
        clear hwX hX HQ HW hne hor hma
        refine wpList_store_mid rfl 25 (.tmp 9) (.tmp 40) rfl (b + 3) 0 (row 16 (wv (V (r + 1)))).toArray rfl rfl (by rw [row_size]; exact HQ'.out.vv.there) (by rw [row_size]; exact info46) (row_one fun _ _=>rfl) ?_
        have HQ2:=hideit (HQ'.out.setVs hb0 0 16 (V (r + 1)) (V (r + 1)) (by omega) (fun j hj=>by rw [if_pos (by omega),Nat.sub_zero]))
        have HW2:=hideit (HW'.out.cellsOther (c:=b + 3) (by omega) (row 16 (wv (V (r + 1)))) 0)
        simp only [Act.put]
        go_wp2
        exact ⟨⟨r + 1,by omega,by go_num,HQ2.out,HW2.out⟩,by simp [intOf]; omega⟩
      · obtain rfl:r = 12:=by omega
        have HQC:QS w b (fun j=>if j < 0 then R j else h j) p (V 12) wr:=by
          have hh:=HQ.out
          exact ⟨hh.ext,hh.hh.congr fun j _=>by simp [wv],hh.pp,hh.res,hh.vv⟩
        replace HQC:=hideit HQC
        clear HQ HW
        go_wp2
        go_loopw [42] (fun i wr=>∃ n:Nat,n ≤ 8 ∧ i = .int .i64 n ∧ QS w b (fun j=>if j < n then R j else h j) p (V 12) wr) (fun i _=>8 - (intOf i).toNat)
        case atStart=>exact ⟨0,by omega,rfl,HQC.out⟩
        case round=>
          clear HQC
          obtain ⟨n,hn,rfl,hQ⟩:=hrel
          have HQ:=hideit hQ
          clear hQ
          by_cases hlt:n < 8
          · have i0:(0:Int) ≤ (n:Int):=by omega
            have i1:(n:Int) < 8:=by omega
            have i2:(n:Int) < 16:=by omega
            have i3:(0:Int) ≤ (n:Int) + 8:=by omega
            have i4:(n:Int) + 8 < 16:=by omega
            have hne:=kept_ne wr.drew
            have e1:∀ k:Kept (Ext wr.drew),k.w.cell? ⟨b,n,none⟩ = some (.int .u64 ((h n).toNat:Int)):=fun k=>by
              have:=HQ.out.hh.kept n hlt k
              simpa [wv] using this
            have e2:∀ k:Kept (Ext wr.drew),k.w.cell? ⟨b + 3,n,none⟩ = some (.int .u64 ((V 12 n).toNat:Int)):=fun k=>HQ.out.vv.kept n (by omega) k
            have e3:∀ k:Kept (Ext wr.drew),k.w.cell? ⟨b + 3,n + 8,none⟩ = some (.int .u64 ((V 12 (n + 8)).toNat:Int)):=fun k=>HQ.out.vv.kept (n + 8) (by omega) k
            have hx1:=xW_fact (V 12 n) (V 12 (n + 8))
            have hx2:=xW_fact (h n) (xW (V 12 n) (V 12 (n + 8)))
            rw [← hRj.out n] at hx2
            go_upto_region 17 with (fail)
            refine wp_region_late 12 (by kernel_rfl) (by kernel_rfl) (by decide) ?_
            simp only [List.take_succ_cons,List.take_zero,List.drop_succ_cons,List.drop_zero]
            refine wpStrong_run 12 rfl ?_
            simp only [List.take_succ_cons,List.take_zero,List.drop_succ_cons,List.drop_zero]
            repeat (go_big_quiet_step (fail))
            refine wpQuiet_nil ?_
            refine wpStrong_nil ?_
            intro X hX
            have hwX:Ext wr X:=Ext.trans (Below.refl _ _).drew hX
            have HQ':=hideit (HQ.out.carry hwX)
            clear hwX hX HQ hne e1 e2 e3 hx1 hx2
            have eX:=HQ'.out.hh.1 n hlt
            have gX:=HQ'.out.hh.2.1 n hlt
            have HQ2:QS w b (fun j=>if j < n + 1 then R j else h j) p (V 12) (X.setCell ⟨b,n,none⟩ (.int .u64 ((R n).toNat:Int))):=by
              have hh:=HQ'.out.setH hb0 n (R n)
              refine ⟨hh.ext,hh.hh.congr fun j _=>?_,hh.pp,hh.res,hh.vv⟩
              simp only [wv]
              by_cases e:j = n
              · subst e; rw [if_pos rfl,if_pos (by omega)]
              · rw [if_neg e]
                by_cases h:j < n
                · rw [if_pos h,if_pos (by omega)]
                · rw [if_neg h,if_neg (by omega)]
            replace HQ2:=hideit HQ2
            go_wp2
            exact ⟨⟨n + 1,by omega,by go_num,HQ2.out⟩,by simp [intOf]; omega⟩
          · obtain rfl:n = 8:=by omega
            have HR:=hideit (HQ.out.hh.congr (g':=wv R) fun j hj=>by simp only [wv]; rw [if_pos hj])
            go_wp2_with (first | (refine wpList_load_mid rfl 92 (.tmp 4) rfl _ 0 rfl (row 8 (wv R)) _ HR.out.range Tryd.underlying92 rfl (by rw [row_length]; exact info30) ?_) | (refine wpList_store_mid rfl 92 (.tmp 8) (.tmp 59) rfl _ 0 (row 8 (wv R)).toArray rfl rfl (by rw [row_size]; exact HQ.out.res.there) (by rw [row_size]; exact info30) (row_one fun _ _=>rfl) ?_))
            exact bodyPost_ret (ret_row Tryd.results69 rfl (HQ.out.res.cells (g':=wv R)) Tryd.underlying92 rfl info30) rfl ⟨rfl,below_setCells _ (by omega) _ _ _ HQ.out.ext⟩
  | false=>
    clear hn14 e14 g14
    go_upto_region 8 with (fail)
    have HQA:QS w b h p (V 0) w9:=by
      have hh:=HQ9.out
      refine ⟨hh.ext,hh.hh,hh.pp,hh.res,hh.vv.congr fun j _=>?_⟩
      simp only [wv]
      rw [hst.out j]
      by_cases e:j = 14
      · subst e; simp
      · rw [if_neg e]
    replace HQA:=hideit HQA
    clear HQ9
    have hwo:=hideit (words_any p w9)
    refine wp_region_lit ?_
    refine wpList_load_mid rfl 94 (.tmp 5) rfl (b + 1) 0 rfl (row 128 (yv p)) _ HQA.out.pp.range Tryd.underlying94 rfl (by rw [row_length]; exact info31) ?_
    simp only [jk,jq,jv,jy]
    refine wpList_call rfl (by simp [go_sem]) (hwo.out.mono ?_)
    rintro e x2 ⟨rfl,hx2⟩
    refine ⟨_,rfl,?_⟩
    simp only [jk,jq,jv,jy]
    obtain ⟨MW,hMW⟩:∃ MW,MW = wordsW p:=⟨_,rfl⟩
    rw [← hMW]
    rw [← hMW] at hVs
    clear hMW
    have HN:=hideit (RowAt.new x2 16 (wv fun _=>0#64) 25)
    have hE3:Ext x2 (x2.alloc (.cells (row 16 (wv fun _=>0#64)).toArray 25)):=(Below.refl _ _).alloc (Nat.le_refl _) _
    refine wpList_to rfl (.pointer (some ⟨x2.heap.size,0,none⟩)) (x2.alloc (.cells (row 16 (wv fun _=>0#64)).toArray 25)) (by simp [go_sem,hz]) ?_
    simp only [jk,jq,jv,jy]
    refine wpList_store_mid rfl 25 (.tmp 11) (.tmp 32) rfl _ 0 (row 16 (wv MW)).toArray rfl rfl (by rw [row_size]; exact HN.out.there) (by rw [row_size]; exact info46) (row_one fun _ _=>rfl) ?_
    have hE4:Ext w9 ((x2.alloc (.cells (row 16 (wv fun _=>0#64)).toArray 25)).setCells x2.heap.size 0 (row 16 (wv MW))):=Ext.trans hx2 (below_setCells x2.heap.size (Nat.le_refl _) _ _ _ hE3)
    have HW0:=hideit (HN.out.cells (g':=wv MW))
    have HQB:=hideit (HQA.out.carry hE4)
    have hb11:b + 3 < x2.heap.size:=Nat.lt_of_lt_of_le HQA.out.vv.2.2 (Below.size hx2)
    generalize (x2.alloc (.cells (row 16 (wv fun _=>0#64)).toArray 25)).setCells x2.heap.size 0 (row 16 (wv MW)) = wB at *
    generalize x2.heap.size = b11 at *
    clear HN hE3 hE4 hx2 HQA hwo
    simp only [Act.put]
    go_wp2
    go_loopw [33] (fun i wr=>∃ r:Nat,r ≤ 12 ∧ i = .int .i64 r ∧ QS w b h p (V r) wr ∧ RowAt b11 16 (wv MW) wr) (fun i _=>12 - (intOf i).toNat)
    case atStart=>exact ⟨0,by omega,rfl,HQB.out,HW0.out⟩
    case round=>
      clear HQB HW0
      obtain ⟨r,hr,rfl,hQ,hW⟩:=hrel
      have HQ:=hideit hQ
      have HW:=hideit hW
      clear hQ hW
      by_cases hlt:r < 12
      · have i0:(0:Int) ≤ (r:Int):=by omega
        have i1:(r:Int) < 12:=by omega
        have hor:=hideit (fun (X:World)=>order_any r hlt X)
        have hma:=hideit (fun (X:World) (hX:Ext w X)=>mixAll_any (V r) MW (ordF r) (ord_lt r hlt) X (hC.out.ext hX))
        rw [← hVs.out r] at hma
        obtain ⟨od,hod⟩:∃ od,od = ordF r:=⟨_,rfl⟩
        rw [← hod] at hor hma
        clear hod
        go_upto_region 12 with (fail)
        have hne:=kept_ne wr.drew
        refine wp_region_late 5 (by kernel_rfl) (by kernel_rfl) (by decide) ?_
        simp only [List.take_succ_cons,List.take_zero,List.drop_succ_cons,List.drop_zero]
        refine wpStrong_run 3 rfl ?_
        simp only [List.take_succ_cons,List.take_zero,List.drop_succ_cons,List.drop_zero]
        go_big_quiet_want
        refine loadQ 25 (.tmp 9) (b + 3) 0 16 (wv (V r)) rfl rfl (fun w' hw'=>(RowAt.carry (RowAt.drew HQ.out.vv) hw').range) Tryd.underlying25 rfl info46 ?_
        simp only [jk,jq,jv,jy]
        go_big_quiet_on
        go_big_quiet_want
        refine loadQ 25 (.tmp 11) b11 0 16 (wv MW) rfl rfl (fun w' hw'=>(RowAt.carry (RowAt.drew HW.out) hw').range) Tryd.underlying25 rfl info46 ?_
        simp only [jk,jq,jv,jy]
        go_big_quiet_on
        go_big_quiet_step (fail)
        refine wpQuiet_nil ?_
        refine wpStrong_call rfl (fun X=>by simp [go_sem]) (fun X _=>hor.out X) ?_
        simp only [jk,jq,jv,jy]
        refine wpStrong_call rfl (fun X=>by simp [go_sem]) (fun X hX=>hma.out X (Ext.trans HQ.out.ext (Ext.trans (Below.refl _ _).drew hX))) ?_
        simp only [jk,jq,jv,jy]
        refine wpStrong_nil ?_
        intro X hX
        have hwX:Ext wr X:=Ext.trans (Below.refl _ _).drew hX
        have HQ':=hideit (HQ.out.carry hwX)
        have HW':=hideit (HW.out.carry hwX)
        clear hwX hX HQ HW hne hor hma
        refine wpList_store_mid rfl 25 (.tmp 9) (.tmp 40) rfl (b + 3) 0 (row 16 (wv (V (r + 1)))).toArray rfl rfl (by rw [row_size]; exact HQ'.out.vv.there) (by rw [row_size]; exact info46) (row_one fun _ _=>rfl) ?_
        have HQ2:=hideit (HQ'.out.setVs hb0 0 16 (V (r + 1)) (V (r + 1)) (by omega) (fun j hj=>by rw [if_pos (by omega),Nat.sub_zero]))
        have HW2:=hideit (HW'.out.cellsOther (c:=b + 3) (by omega) (row 16 (wv (V (r + 1)))) 0)
        simp only [Act.put]
        go_wp2
        exact ⟨⟨r + 1,by omega,by go_num,HQ2.out,HW2.out⟩,by simp [intOf]; omega⟩
      · obtain rfl:r = 12:=by omega
        have HQC:QS w b (fun j=>if j < 0 then R j else h j) p (V 12) wr:=by
          have hh:=HQ.out
          exact ⟨hh.ext,hh.hh.congr fun j _=>by simp [wv],hh.pp,hh.res,hh.vv⟩
        replace HQC:=hideit HQC
        clear HQ HW
        go_wp2
        go_loopw [42] (fun i wr=>∃ n:Nat,n ≤ 8 ∧ i = .int .i64 n ∧ QS w b (fun j=>if j < n then R j else h j) p (V 12) wr) (fun i _=>8 - (intOf i).toNat)
        case atStart=>exact ⟨0,by omega,rfl,HQC.out⟩
        case round=>
          clear HQC
          obtain ⟨n,hn,rfl,hQ⟩:=hrel
          have HQ:=hideit hQ
          clear hQ
          by_cases hlt:n < 8
          · have i0:(0:Int) ≤ (n:Int):=by omega
            have i1:(n:Int) < 8:=by omega
            have i2:(n:Int) < 16:=by omega
            have i3:(0:Int) ≤ (n:Int) + 8:=by omega
            have i4:(n:Int) + 8 < 16:=by omega
            have hne:=kept_ne wr.drew
            have e1:∀ k:Kept (Ext wr.drew),k.w.cell? ⟨b,n,none⟩ = some (.int .u64 ((h n).toNat:Int)):=fun k=>by
              have:=HQ.out.hh.kept n hlt k
              simpa [wv] using this
            have e2:∀ k:Kept (Ext wr.drew),k.w.cell? ⟨b + 3,n,none⟩ = some (.int .u64 ((V 12 n).toNat:Int)):=fun k=>HQ.out.vv.kept n (by omega) k
            have e3:∀ k:Kept (Ext wr.drew),k.w.cell? ⟨b + 3,n + 8,none⟩ = some (.int .u64 ((V 12 (n + 8)).toNat:Int)):=fun k=>HQ.out.vv.kept (n + 8) (by omega) k
            have hx1:=xW_fact (V 12 n) (V 12 (n + 8))
            have hx2:=xW_fact (h n) (xW (V 12 n) (V 12 (n + 8)))
            rw [← hRj.out n] at hx2
            go_upto_region 17 with (fail)
            refine wp_region_late 12 (by kernel_rfl) (by kernel_rfl) (by decide) ?_
            simp only [List.take_succ_cons,List.take_zero,List.drop_succ_cons,List.drop_zero]
            refine wpStrong_run 12 rfl ?_
            simp only [List.take_succ_cons,List.take_zero,List.drop_succ_cons,List.drop_zero]
            repeat (go_big_quiet_step (fail))
            refine wpQuiet_nil ?_
            refine wpStrong_nil ?_
            intro X hX
            have hwX:Ext wr X:=Ext.trans (Below.refl _ _).drew hX
            have HQ':=hideit (HQ.out.carry hwX)
            clear hwX hX HQ hne e1 e2 e3 hx1 hx2
            have eX:=HQ'.out.hh.1 n hlt
            have gX:=HQ'.out.hh.2.1 n hlt
            have HQ2:QS w b (fun j=>if j < n + 1 then R j else h j) p (V 12) (X.setCell ⟨b,n,none⟩ (.int .u64 ((R n).toNat:Int))):=by
              have hh:=HQ'.out.setH hb0 n (R n)
              refine ⟨hh.ext,hh.hh.congr fun j _=>?_,hh.pp,hh.res,hh.vv⟩
              simp only [wv]
              by_cases e:j = n
              · subst e; rw [if_pos rfl,if_pos (by omega)]
              · rw [if_neg e]
                by_cases h:j < n
                · rw [if_pos h,if_pos (by omega)]
                · rw [if_neg h,if_neg (by omega)]
            replace HQ2:=hideit HQ2
            go_wp2
            exact ⟨⟨n + 1,by omega,by go_num,HQ2.out⟩,by simp [intOf]; omega⟩
          · obtain rfl:n = 8:=by omega
            have HR:=hideit (HQ.out.hh.congr (g':=wv R) fun j hj=>by simp only [wv]; rw [if_pos hj])
            go_wp2_with (first | (refine wpList_load_mid rfl 92 (.tmp 4) rfl _ 0 rfl (row 8 (wv R)) _ HR.out.range Tryd.underlying92 rfl (by rw [row_length]; exact info30) ?_) | (refine wpList_store_mid rfl 92 (.tmp 8) (.tmp 59) rfl _ 0 (row 8 (wv R)).toArray rfl rfl (by rw [row_size]; exact HQ.out.res.there) (by rw [row_size]; exact info30) (row_one fun _ _=>rfl) ?_))
            exact bodyPost_ret (ret_row Tryd.results69 rfl (HQ.out.res.cells (g':=wv R)) Tryd.underlying92 rfl info30) rfl ⟨rfl,below_setCells _ (by omega) _ _ _ HQ.out.ext⟩
end Go.Proofs.YtfbmeclpcgdmhabDoor
