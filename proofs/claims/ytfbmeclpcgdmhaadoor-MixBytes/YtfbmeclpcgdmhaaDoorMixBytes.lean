/-
  For every page and all bytes the law MixBytes returns true, and its arguments read behind the call as they read before; the package-level table of places is as the program lays it.
-/
import Derived.Test.YtfbmeclpcgdmhaaDoorCards
import Derived.Test.YtfbmeclpcgdmhaaDoorTie
import Derived.WalkKit
import Derived.ProofKit
import Derived.OpenShut
import Derived.ShutString
import Derived.ChangeOld
import Derived.Below
import Derived.Deep.DeepHandedRow
import Derived.Lib.LaidTab
import Derived.Test.YtfbmeclpcgdmhaaDoorBits
import Derived.Test.YtfbmeclpcgdmhaaDoorOpenB
import Derived.Test.YtfbmeclpcgdmhaaDoorTabP
namespace Go.Proofs.YtfbmeclpcgdmhaaDoor.mixBytes
open Go.ChangeShapes Go.WideShapes Go.ChangeAt Go.RowKit
set_option linter.unusedVariables false

theorem own : ownKnob Tryd.prog.godebug = none := by kernel_rfl
theorem laidOut : laidOutB Tryd.prog = true := by kernel_rfl
theorem gTab : Tryd.prog.globalNamed "casket/blake.places" = some 1 := by kernel_rfl
theorem gTabType : (Tryd.prog.globals[1]?).map (·.type) = some 55 := by kernel_rfl
theorem cellsG : Tryd.prog.cellsOf 55 = 32 := by kernel_rfl
theorem tabC {W : World} (h : laidMetH Tryd.prog Rows.mixBytesRow.laid W) (h0 : 1 < W.heap.size) : TabC W := ⟨fun j hj => tab_places h j hj, h0⟩

open Go.BigFrame
set_option maxRecDepth 100000 in
theorem open_arru64_128 {H : Type} {enc : TypeId × Value → H} {W : World} {r : Reach} {b0 base : Nat} {spare : Nat → Bool} {held : Bool} {v : Value} {d : DataW H} {p : List MemPlace}
    (hv : Value.okWide Tryd.prog W r b0 31 v) (h : DataW.Trod enc Tryd.prog W base spare held 31 v d p) : ∃ f : Nat → BitVec 64, v = .agg (row 128 (wv f)).toArray := open_arrW Tryd.underlying31 (by kernel_rfl) hv h
set_option maxRecDepth 20000 in
set_option maxHeartbeats 8000000 in
theorem good (p : Nat → BitVec 64) (ov : Option Addr) (cv : Nat) (b : Nat → BitVec 8) (w : World) (hB : Hid (BV (.slice ov 1024 cv) 1024 b w)) (hC : Hid (TabC w)) : Calls Tryd.prog 6 #[.agg (row 128 (wv p)).toArray, .slice ov 1024 cv] w fun e w' => e = .returned (.bool true) ∧ Below w.heap.size w w' := by
  have hz := zero31p
  go_enter Tryd.func6, Tryd.ntmps6
  go_upto_region 1 with (fail)
  have h1 : RowAt w.heap.size 128 (wv p) (w.alloc (.cells (row 128 (wv p)).toArray 31)) := RowAt.new w 128 (wv p) 31
  have hE1 : Ext w (w.alloc (.cells (row 128 (wv p)).toArray 31)) := (Below.refl _ _).alloc (Nat.le_refl _) _
  obtain ⟨w1, hw1⟩ : ∃ w1, w1 = w.alloc (.cells (row 128 (wv p)).toArray 31) := ⟨_, rfl⟩
  obtain ⟨c, hc⟩ : ∃ c, c = w.heap.size := ⟨_, rfl⟩
  rw [← hw1] at h1 hE1 ⊢
  rw [← hc] at h1 ⊢
  clear hw1 hc
  refine wp_region_lit ?_
  refine wpList_load_mid rfl 31 (.tmp 2) rfl c 0 rfl (row 128 (wv p)) _ h1.range Tryd.underlying31 rfl (by rw [row_length]; exact infoPg) ?_
  simp only [Act.put, List.setIfInBounds_toArray, List.set_cons_zero, List.set_cons_succ]
  refine wpList_call rfl (by simp [go_sem]) ((bytes_any p w1).mono ?_)
  rintro e w2 ⟨v2, rfl, hO2, hE2⟩
  refine ⟨_, rfl, ?_⟩
  obtain ⟨o2, c2, rfl⟩ := hO2.bv.form
  replace h1 := hideit (h1.carry hE2)
  replace hE2 := hideit (Ext.trans hE1 hE2)
  have hx2 := hideit hO2.bv
  clear hO2 hE1
  simp only [Act.put, List.setIfInBounds_toArray, List.set_cons_zero, List.set_cons_succ]
  go_upto_region 2 with (fail)
  refine wp_region_lit ?_
  have kp := page_any _ (digF p) w2 hx2.out
  rw [show row 128 (wv (pgW (digF p))) = row 128 (wv p) from row_ext fun j hj => by simp only [wv]; rw [pg_dig p j hj]] at kp
  refine wpList_run rfl (.slice o2 1024 c2) (by simp [go_sem]) ?_
  simp only [Act.put, List.setIfInBounds_toArray, List.set_cons_zero, List.set_cons_succ]
  refine wpList_call rfl (by simp [go_sem]) (kp.mono ?_)
  rintro e w3 ⟨rfl, hE3⟩
  refine ⟨_, rfl, ?_⟩
  simp only [Act.put, List.setIfInBounds_toArray, List.set_cons_zero, List.set_cons_succ]
  refine wpList_run rfl (.tuple #[.agg (row 128 (wv p)).toArray, .int .i64 0]) (by simp [go_sem]) ?_
  simp only [Act.put, List.setIfInBounds_toArray, List.set_cons_zero, List.set_cons_succ]
  refine wpList_run rfl (.agg (row 128 (wv p)).toArray) (by simp [go_sem]) ?_
  simp only [Act.put, List.setIfInBounds_toArray, List.set_cons_zero, List.set_cons_succ]
  refine wpList_run rfl (.int .i64 0) (by simp [go_sem]) ?_
  simp only [Act.put, List.setIfInBounds_toArray, List.set_cons_zero, List.set_cons_succ]
  have hNw4 : RowAt w3.heap.size 128 (wv fun _ => 0#64) (w3.alloc (.cells (row 128 (wv fun _ => 0#64)).toArray 31)) := RowAt.new w3 128 _ 31
  have hAw4 : Ext w3 ((w3.alloc (.cells (row 128 (wv fun _ => 0#64)).toArray 31)).setCells w3.heap.size 0 (row 128 (wv p))) := below_setCells _ (Nat.le_refl _) _ _ _ ((Below.refl _ _).alloc (Nat.le_refl _) _)
  have hMw4 : RowAt w3.heap.size 128 (wv p) ((w3.alloc (.cells (row 128 (wv fun _ => 0#64)).toArray 31)).setCells w3.heap.size 0 (row 128 (wv p))) := hNw4.cells
  refine wpList_to rfl (.pointer (some ⟨w3.heap.size, 0, none⟩)) (w3.alloc (.cells (row 128 (wv fun _ => 0#64)).toArray 31)) (by simp [go_sem, hz]) ?_
  simp only [Act.put, List.setIfInBounds_toArray, List.set_cons_zero, List.set_cons_succ]
  refine wpList_store_mid rfl 31 (.tmp 6) (.tmp 17) rfl w3.heap.size 0 (row 128 (wv p)).toArray rfl rfl (by rw [row_size]; exact hNw4.there) (by rw [row_size]; exact infoPg) (row_one fun _ _ => rfl) ?_
  rw [show (row 128 (wv p)).toArray.toList = row 128 (wv p) from rfl]
  obtain ⟨cw4, hcw4⟩ : ∃ c, c = w3.heap.size := ⟨_, rfl⟩
  obtain ⟨w4, hw4⟩ : ∃ x, x = (w3.alloc (.cells (row 128 (wv fun _ => 0#64)).toArray 31)).setCells w3.heap.size 0 (row 128 (wv p)) := ⟨_, rfl⟩
  rw [← hw4] at hAw4 hMw4 ⊢
  rw [← hcw4] at hMw4 ⊢
  clear hNw4 hw4 hcw4
  have h4 := hideit ((h1.out.carry hE3).carry hAw4)
  have hx4 := hideit ((hx2.out.ext hE3).ext hAw4)
  have hE4 := hideit (Ext.trans (Ext.trans hE2.out hE3) hAw4)
  have hq4 := hideit hMw4
  clear kp hE3 hAw4 hMw4 h1 hx2 hE2
  simp only [Act.put]
  go_upto_region 3 with (fail)
  refine wp_region_lit ?_
  have kp := page_any _ b w4 (hB.out.ext hE4.out)
  refine wpList_run rfl (.slice ov 1024 cv) (by simp [go_sem]) ?_
  simp only [Act.put, List.setIfInBounds_toArray, List.set_cons_zero, List.set_cons_succ]
  refine wpList_call rfl (by simp [go_sem]) (kp.mono ?_)
  rintro e w5 ⟨rfl, hE5⟩
  refine ⟨_, rfl, ?_⟩
  simp only [Act.put, List.setIfInBounds_toArray, List.set_cons_zero, List.set_cons_succ]
  refine wpList_run rfl (.tuple #[.agg (row 128 (wv (pgW b))).toArray, .int .i64 0]) (by simp [go_sem]) ?_
  simp only [Act.put, List.setIfInBounds_toArray, List.set_cons_zero, List.set_cons_succ]
  refine wpList_run rfl (.agg (row 128 (wv (pgW b))).toArray) (by simp [go_sem]) ?_
  simp only [Act.put, List.setIfInBounds_toArray, List.set_cons_zero, List.set_cons_succ]
  refine wpList_run rfl (.int .i64 0) (by simp [go_sem]) ?_
  simp only [Act.put, List.setIfInBounds_toArray, List.set_cons_zero, List.set_cons_succ]
  have hNw6 : RowAt w5.heap.size 128 (wv fun _ => 0#64) (w5.alloc (.cells (row 128 (wv fun _ => 0#64)).toArray 31)) := RowAt.new w5 128 _ 31
  have hAw6 : Ext w5 ((w5.alloc (.cells (row 128 (wv fun _ => 0#64)).toArray 31)).setCells w5.heap.size 0 (row 128 (wv (pgW b)))) := below_setCells _ (Nat.le_refl _) _ _ _ ((Below.refl _ _).alloc (Nat.le_refl _) _)
  have hMw6 : RowAt w5.heap.size 128 (wv (pgW b)) ((w5.alloc (.cells (row 128 (wv fun _ => 0#64)).toArray 31)).setCells w5.heap.size 0 (row 128 (wv (pgW b)))) := hNw6.cells
  refine wpList_to rfl (.pointer (some ⟨w5.heap.size, 0, none⟩)) (w5.alloc (.cells (row 128 (wv fun _ => 0#64)).toArray 31)) (by simp [go_sem, hz]) ?_
  simp only [Act.put, List.setIfInBounds_toArray, List.set_cons_zero, List.set_cons_succ]
  refine wpList_store_mid rfl 31 (.tmp 8) (.tmp 22) rfl w5.heap.size 0 (row 128 (wv (pgW b))).toArray rfl rfl (by rw [row_size]; exact hNw6.there) (by rw [row_size]; exact infoPg) (row_one fun _ _ => rfl) ?_
  rw [show (row 128 (wv (pgW b))).toArray.toList = row 128 (wv (pgW b)) from rfl]
  obtain ⟨cw6, hcw6⟩ : ∃ c, c = w5.heap.size := ⟨_, rfl⟩
  obtain ⟨w6, hw6⟩ : ∃ x, x = (w5.alloc (.cells (row 128 (wv fun _ => 0#64)).toArray 31)).setCells w5.heap.size 0 (row 128 (wv (pgW b))) := ⟨_, rfl⟩
  rw [← hw6] at hAw6 hMw6 ⊢
  rw [← hcw6] at hMw6 ⊢
  clear hNw6 hw6 hcw6
  have h6 := hideit ((h4.out.carry hE5).carry hAw6)
  have hx6 := hideit ((hx4.out.ext hE5).ext hAw6)
  have hE6 := hideit (Ext.trans (Ext.trans hE4.out hE5) hAw6)
  have hq6 := hideit ((hq4.out.carry hE5).carry hAw6)
  have hr6 := hideit hMw6
  clear kp hE5 hAw6 hMw6 h4 hx4 hE4 hq4
  simp only [Act.put]
  go_upto_region 4 with (fail)
  refine wp_region_lit ?_
  have kp := rpage_any _ b w6 (hB.out.ext hE6.out)
  refine wpList_run rfl (.slice ov 1024 cv) (by simp [go_sem]) ?_
  simp only [Act.put, List.setIfInBounds_toArray, List.set_cons_zero, List.set_cons_succ]
  refine wpList_call rfl (by simp [go_sem]) (kp.mono ?_)
  rintro e w7 ⟨rfl, hE7⟩
  refine ⟨_, rfl, ?_⟩
  simp only [Act.put, List.setIfInBounds_toArray, List.set_cons_zero, List.set_cons_succ]
  refine wpList_run rfl (.tuple #[.agg (row 128 (wv (pgW b))).toArray, .int .i64 0]) (by simp [go_sem]) ?_
  simp only [Act.put, List.setIfInBounds_toArray, List.set_cons_zero, List.set_cons_succ]
  refine wpList_run rfl (.agg (row 128 (wv (pgW b))).toArray) (by simp [go_sem]) ?_
  simp only [Act.put, List.setIfInBounds_toArray, List.set_cons_zero, List.set_cons_succ]
  refine wpList_run rfl (.int .i64 0) (by simp [go_sem]) ?_
  simp only [Act.put, List.setIfInBounds_toArray, List.set_cons_zero, List.set_cons_succ]
  have hNw8 : RowAt w7.heap.size 128 (wv fun _ => 0#64) (w7.alloc (.cells (row 128 (wv fun _ => 0#64)).toArray 31)) := RowAt.new w7 128 _ 31
  have hAw8 : Ext w7 ((w7.alloc (.cells (row 128 (wv fun _ => 0#64)).toArray 31)).setCells w7.heap.size 0 (row 128 (wv (pgW b)))) := below_setCells _ (Nat.le_refl _) _ _ _ ((Below.refl _ _).alloc (Nat.le_refl _) _)
  have hMw8 : RowAt w7.heap.size 128 (wv (pgW b)) ((w7.alloc (.cells (row 128 (wv fun _ => 0#64)).toArray 31)).setCells w7.heap.size 0 (row 128 (wv (pgW b)))) := hNw8.cells
  refine wpList_to rfl (.pointer (some ⟨w7.heap.size, 0, none⟩)) (w7.alloc (.cells (row 128 (wv fun _ => 0#64)).toArray 31)) (by simp [go_sem, hz]) ?_
  simp only [Act.put, List.setIfInBounds_toArray, List.set_cons_zero, List.set_cons_succ]
  refine wpList_store_mid rfl 31 (.tmp 10) (.tmp 27) rfl w7.heap.size 0 (row 128 (wv (pgW b))).toArray rfl rfl (by rw [row_size]; exact hNw8.there) (by rw [row_size]; exact infoPg) (row_one fun _ _ => rfl) ?_
  rw [show (row 128 (wv (pgW b))).toArray.toList = row 128 (wv (pgW b)) from rfl]
  obtain ⟨cw8, hcw8⟩ : ∃ c, c = w7.heap.size := ⟨_, rfl⟩
  obtain ⟨w8, hw8⟩ : ∃ x, x = (w7.alloc (.cells (row 128 (wv fun _ => 0#64)).toArray 31)).setCells w7.heap.size 0 (row 128 (wv (pgW b))) := ⟨_, rfl⟩
  rw [← hw8] at hAw8 hMw8 ⊢
  rw [← hcw8] at hMw8 ⊢
  clear hNw8 hw8 hcw8
  have h8 := hideit ((h6.out.carry hE7).carry hAw8)
  have hx8 := hideit ((hx6.out.ext hE7).ext hAw8)
  have hE8 := hideit (Ext.trans (Ext.trans hE6.out hE7) hAw8)
  have hq8 := hideit ((hq6.out.carry hE7).carry hAw8)
  have hr8 := hideit ((hr6.out.carry hE7).carry hAw8)
  have hs8 := hideit hMw8
  clear kp hE7 hAw8 hMw8 h6 hx6 hE6 hq6 hr6
  simp only [Act.put]
  go_upto_region 5 with (fail)
  have hEd : Ext w w8.drew := Ext.draw hE8.out
  obtain ⟨pp, hpp⟩ : ∃ x, x = (.agg (row 128 (wv p)).toArray : Value) := ⟨_, rfl⟩
  obtain ⟨rr, hrr⟩ : ∃ x, x = (.agg (row 128 (wv (pgW b))).toArray : Value) := ⟨_, rfl⟩
  have heq : ∀ X : World, (binOp .eql 31 pp pp).run Tryd.prog X = .ok (.bool true) X := fun X => by rw [hpp]; exact run_eql_refl 31 29 128 .u64 Tryd.underlying31 Tryd.underlying29 size29 (fun j => ((p j).toNat : Int)) X
  have hgd : ∀ (x y : Operand) (X : World), (eqGuard BinOp.eql 31 x y pp pp).run Tryd.prog X = .ok () X := fun x y X => by rw [hpp]; exact run_eqGuard_agg X .eql 31 x y _ _ (by kernel_rfl)
  have heq2 : ∀ X : World, (binOp .eql 31 rr rr).run Tryd.prog X = .ok (.bool true) X := fun X => by rw [hrr]; exact run_eql_refl 31 29 128 .u64 Tryd.underlying31 Tryd.underlying29 size29 (fun j => (((pgW b) j).toNat : Int)) X
  have hgd2 : ∀ (x y : Operand) (X : World), (eqGuard BinOp.eql 31 x y rr rr).run Tryd.prog X = .ok () X := fun x y X => by rw [hrr]; exact run_eqGuard_agg X .eql 31 x y _ _ (by kernel_rfl)
  have kb : Hid (∀ X : World, Calls Tryd.prog 21 #[pp] X fun e w' => ∃ v, e = .returned v ∧ OwnB X.heap.size 5 v 1024 (yv (digF p)) w' ∧ Ext X w') := fun X => by rw [hpp]; exact rbytes_any p X
  have kr : Hid (∀ X : World, Calls Tryd.prog 18 #[rr] X fun e w' => ∃ v, e = .returned v ∧ OwnB X.heap.size 5 v 1024 (yv (digF (pgW b))) w' ∧ Ext X w') := fun X => by rw [hrr]; exact bytes_any (pgW b) X
  replace hpp := hideit hpp
  replace hrr := hideit hrr
  obtain ⟨sx, hsx⟩ : ∃ sx, sx = bstr 1024 (fun j => ((digF p j).toNat : Int)) := ⟨_, rfl⟩
  have hcx : ∀ oa ca X, BV (.slice oa 1024 ca) 1024 (digF p) X → (convert 22 9 (.slice oa 1024 ca)).run Tryd.prog X = .ok (.string sx) X := fun oa ca X h => by rw [hsx]; exact convV _ _ _ _ h
  clear hsx
  have hbb : bstr 1024 (fun j => ((digF (pgW b) j).toNat : Int)) = bstr 1024 (fun j => ((b j).toNat : Int)) := bstr_congr fun j hj => by rw [dig_pg b j hj]
  obtain ⟨sb, hsb⟩ : ∃ sb, sb = bstr 1024 (fun j => ((b j).toNat : Int)) := ⟨_, rfl⟩
  have hcb : ∀ oa ca X, BV (.slice oa 1024 ca) 1024 b X → (convert 22 9 (.slice oa 1024 ca)).run Tryd.prog X = .ok (.string sb) X := fun oa ca X h => by rw [hsb]; exact convV _ _ _ _ h
  have hcd : ∀ oa ca X, BV (.slice oa 1024 ca) 1024 (digF (pgW b)) X → (convert 22 9 (.slice oa 1024 ca)).run Tryd.prog X = .ok (.string sb) X := fun oa ca X h => by
    rw [hsb, convV _ _ _ _ h, hbb]
  clear hsb hbb
  refine wp_region_lad (fun X => Ext w8.drew X) [(true, 0), (false, 1), (false, 2), (false, 3), (false, 4), (true, 5), (false, 6), (false, 7), (false, 8), (false, 9), (false, 10), (false, 11), (false, 12), (false, 13), (false, 14), (false, 15), (false, 16), (false, 17), (false, 18), (false, 19), (false, 20), (false, 21), (false, 22), (false, 23), (false, 24), (false, 25), (false, 26), (false, 27), (false, 28), (false, 29), (false, 30), (false, 31), (false, 32), (false, 35), (false, 36), (true, 33), (false, 34), (false, 37), (false, 38), (false, 39), (false, 40)] (by kernel_rfl) (by kernel_rfl) (by decide +kernel) (by decide +kernel) (by decide +kernel) (by decide +kernel) (Ext.refl _) ?_
  refine wpX_call _ rfl rfl (by simp [go_sem]) ((lives_any w8.drew (hC.out.ext hEd)).mono ?_)
  rintro e w9 ⟨rfl, hE9⟩
  refine ⟨_, rfl, fun X => Ext w9 X, fun X hX => Ext.trans hE9 hX, Ext.refl _, ?_⟩
  have hd9 : Ext w8 w9 := Ext.trans (Ext.refl w8).draw hE9
  simp only [List.getElem_toArray, List.getElem_cons_zero, Act.put, List.setIfInBounds_toArray, List.set_cons_zero, List.set_cons_succ]
  refine wpX_f _ (.bool true) rfl rfl (fun X _ => by simp [go_sem]) ?_
  simp only [List.getElem_toArray, List.getElem_cons_zero, List.getElem_cons_succ, Act.put, List.setIfInBounds_toArray, List.set_cons_zero, List.set_cons_succ]
  refine wpX_f _ (.slice o2 1024 c2) rfl rfl (fun X _ => by simp [go_sem]) ?_
  simp only [List.getElem_toArray, List.getElem_cons_zero, List.getElem_cons_succ, Act.put, List.setIfInBounds_toArray, List.set_cons_zero, List.set_cons_succ]
  refine wpX_f _ (.string sx) rfl rfl (fun X hX => by simp [go_sem, hcx _ _ _ (hx8.out.ext (Ext.trans hd9 hX))]) ?_
  simp only [List.getElem_toArray, List.getElem_cons_zero, List.getElem_cons_succ, Act.put, List.setIfInBounds_toArray, List.set_cons_zero, List.set_cons_succ]
  refine wpX_f _ pp rfl rfl (fun X hX => (run_loadX 31 (.tmp 2) c 128 (wv p) rfl rfl (h8.out.carry (Ext.trans hd9 hX)) Tryd.underlying31 rfl infoPg).trans (by rw [hpp.out])) ?_
  simp only [List.getElem_toArray, List.getElem_cons_zero, List.getElem_cons_succ, Act.put, List.setIfInBounds_toArray, List.set_cons_zero, List.set_cons_succ]
  refine wpX_call _ rfl rfl (by simp [go_sem]) ((kb.out w9).mono ?_)
  rintro e w10 ⟨v10, rfl, hO10, hE10⟩
  obtain ⟨o10, c10, rfl⟩ := hO10.bv.form
  refine ⟨_, rfl, fun X => Ext w10 X, fun X hX => Ext.trans hE10 hX, Ext.refl _, ?_⟩
  have hd10 : Ext w8 w10 := Ext.trans hd9 hE10
  simp only [List.getElem_toArray, List.getElem_cons_zero, List.getElem_cons_succ, Act.put, List.setIfInBounds_toArray, List.set_cons_zero, List.set_cons_succ]
  refine wpX_f _ (.string sx) rfl rfl (fun X hX => by simp [go_sem, hcx _ _ _ (hO10.bv.ext hX)]) ?_
  simp only [List.getElem_toArray, List.getElem_cons_zero, List.getElem_cons_succ, Act.put, List.setIfInBounds_toArray, List.set_cons_zero, List.set_cons_succ]
  refine wpX_f _ (.bool true) rfl rfl (fun X _ => by simp [go_sem]) ?_
  simp only [List.getElem_toArray, List.getElem_cons_zero, List.getElem_cons_succ, Act.put, List.setIfInBounds_toArray, List.set_cons_zero, List.set_cons_succ]
  refine wpX_f _ (.bool true) rfl rfl (fun X _ => by simp [go_sem]) ?_
  simp only [List.getElem_toArray, List.getElem_cons_zero, List.getElem_cons_succ, Act.put, List.setIfInBounds_toArray, List.set_cons_zero, List.set_cons_succ]
  refine wpX_f _ (.bool true) rfl rfl (fun X _ => by simp [go_sem]) ?_
  simp only [List.getElem_toArray, List.getElem_cons_zero, List.getElem_cons_succ, Act.put, List.setIfInBounds_toArray, List.set_cons_zero, List.set_cons_succ]
  refine wpX_f _ (.int .i64 0) rfl rfl (fun X _ => by simp [go_sem]) ?_
  simp only [List.getElem_toArray, List.getElem_cons_zero, List.getElem_cons_succ, Act.put, List.setIfInBounds_toArray, List.set_cons_zero, List.set_cons_succ]
  refine wpX_f _ (.bool true) rfl rfl (fun X _ => by simp [go_sem]) ?_
  simp only [List.getElem_toArray, List.getElem_cons_zero, List.getElem_cons_succ, Act.put, List.setIfInBounds_toArray, List.set_cons_zero, List.set_cons_succ]
  refine wpX_f _ (.bool true) rfl rfl (fun X _ => by simp [go_sem]) ?_
  simp only [List.getElem_toArray, List.getElem_cons_zero, List.getElem_cons_succ, Act.put, List.setIfInBounds_toArray, List.set_cons_zero, List.set_cons_succ]
  refine wpX_f _ (.bool true) rfl rfl (fun X _ => by simp [go_sem]) ?_
  simp only [List.getElem_toArray, List.getElem_cons_zero, List.getElem_cons_succ, Act.put, List.setIfInBounds_toArray, List.set_cons_zero, List.set_cons_succ]
  refine wpX_f _ pp rfl rfl (fun X hX => (run_loadX 31 (.tmp 6) cw4 128 (wv p) rfl rfl (hq8.out.carry (Ext.trans hd10 hX)) Tryd.underlying31 rfl infoPg).trans (by rw [hpp.out])) ?_
  simp only [List.getElem_toArray, List.getElem_cons_zero, List.getElem_cons_succ, Act.put, List.setIfInBounds_toArray, List.set_cons_zero, List.set_cons_succ]
  refine wpX_f _ pp rfl rfl (fun X hX => (run_loadX 31 (.tmp 2) c 128 (wv p) rfl rfl (h8.out.carry (Ext.trans hd10 hX)) Tryd.underlying31 rfl infoPg).trans (by rw [hpp.out])) ?_
  simp only [List.getElem_toArray, List.getElem_cons_zero, List.getElem_cons_succ, Act.put, List.setIfInBounds_toArray, List.set_cons_zero, List.set_cons_succ]
  refine wpX_f _ (.bool true) rfl rfl (fun X _ => by simp [go_sem, heq, hgd]) ?_
  simp only [List.getElem_toArray, List.getElem_cons_zero, List.getElem_cons_succ, Act.put, List.setIfInBounds_toArray, List.set_cons_zero, List.set_cons_succ]
  refine wpX_f _ (.bool true) rfl rfl (fun X _ => by simp [go_sem]) ?_
  simp only [List.getElem_toArray, List.getElem_cons_zero, List.getElem_cons_succ, Act.put, List.setIfInBounds_toArray, List.set_cons_zero, List.set_cons_succ]
  refine wpX_f _ (.bool true) rfl rfl (fun X _ => by simp [go_sem]) ?_
  simp only [List.getElem_toArray, List.getElem_cons_zero, List.getElem_cons_succ, Act.put, List.setIfInBounds_toArray, List.set_cons_zero, List.set_cons_succ]
  refine wpX_f _ rr rfl rfl (fun X hX => (run_loadX 31 (.tmp 8) cw6 128 (wv (pgW b)) rfl rfl (hr8.out.carry (Ext.trans hd10 hX)) Tryd.underlying31 rfl infoPg).trans (by rw [hrr.out])) ?_
  simp only [List.getElem_toArray, List.getElem_cons_zero, List.getElem_cons_succ, Act.put, List.setIfInBounds_toArray, List.set_cons_zero, List.set_cons_succ]
  refine wpX_f _ rr rfl rfl (fun X hX => (run_loadX 31 (.tmp 10) cw8 128 (wv (pgW b)) rfl rfl (hs8.out.carry (Ext.trans hd10 hX)) Tryd.underlying31 rfl infoPg).trans (by rw [hrr.out])) ?_
  simp only [List.getElem_toArray, List.getElem_cons_zero, List.getElem_cons_succ, Act.put, List.setIfInBounds_toArray, List.set_cons_zero, List.set_cons_succ]
  refine wpX_f _ (.bool true) rfl rfl (fun X _ => by simp [go_sem, heq2, hgd2]) ?_
  simp only [List.getElem_toArray, List.getElem_cons_zero, List.getElem_cons_succ, Act.put, List.setIfInBounds_toArray, List.set_cons_zero, List.set_cons_succ]
  refine wpX_f _ (.bool true) rfl rfl (fun X _ => by simp [go_sem]) ?_
  simp only [List.getElem_toArray, List.getElem_cons_zero, List.getElem_cons_succ, Act.put, List.setIfInBounds_toArray, List.set_cons_zero, List.set_cons_succ]
  refine wpX_f _ (.bool true) rfl rfl (fun X _ => by simp [go_sem]) ?_
  simp only [List.getElem_toArray, List.getElem_cons_zero, List.getElem_cons_succ, Act.put, List.setIfInBounds_toArray, List.set_cons_zero, List.set_cons_succ]
  refine wpX_f _ (.int .i64 0) rfl rfl (fun X _ => by simp [go_sem]) ?_
  simp only [List.getElem_toArray, List.getElem_cons_zero, List.getElem_cons_succ, Act.put, List.setIfInBounds_toArray, List.set_cons_zero, List.set_cons_succ]
  refine wpX_f _ (.int .i64 0) rfl rfl (fun X _ => by simp [go_sem]) ?_
  simp only [List.getElem_toArray, List.getElem_cons_zero, List.getElem_cons_succ, Act.put, List.setIfInBounds_toArray, List.set_cons_zero, List.set_cons_succ]
  refine wpX_f _ (.bool true) rfl rfl (fun X _ => by simp [go_sem]) ?_
  simp only [List.getElem_toArray, List.getElem_cons_zero, List.getElem_cons_succ, Act.put, List.setIfInBounds_toArray, List.set_cons_zero, List.set_cons_succ]
  refine wpX_f _ (.bool true) rfl rfl (fun X _ => by simp [go_sem]) ?_
  simp only [List.getElem_toArray, List.getElem_cons_zero, List.getElem_cons_succ, Act.put, List.setIfInBounds_toArray, List.set_cons_zero, List.set_cons_succ]
  refine wpX_f _ (.bool true) rfl rfl (fun X _ => by simp [go_sem]) ?_
  simp only [List.getElem_toArray, List.getElem_cons_zero, List.getElem_cons_succ, Act.put, List.setIfInBounds_toArray, List.set_cons_zero, List.set_cons_succ]
  refine wpX_f _ (.int .i64 0) rfl rfl (fun X _ => by simp [go_sem]) ?_
  simp only [List.getElem_toArray, List.getElem_cons_zero, List.getElem_cons_succ, Act.put, List.setIfInBounds_toArray, List.set_cons_zero, List.set_cons_succ]
  refine wpX_f _ (.bool false) rfl rfl (fun X _ => by simp [go_sem]) ?_
  simp only [List.getElem_toArray, List.getElem_cons_zero, List.getElem_cons_succ, Act.put, List.setIfInBounds_toArray, List.set_cons_zero, List.set_cons_succ]
  refine wpX_f _ (.bool false) rfl rfl (fun X _ => by simp [go_sem]) ?_
  simp only [List.getElem_toArray, List.getElem_cons_zero, List.getElem_cons_succ, Act.put, List.setIfInBounds_toArray, List.set_cons_zero, List.set_cons_succ]
  refine wpX_f _ rr rfl rfl (fun X hX => (run_loadX 31 (.tmp 8) cw6 128 (wv (pgW b)) rfl rfl (hr8.out.carry (Ext.trans hd10 hX)) Tryd.underlying31 rfl infoPg).trans (by rw [hrr.out])) ?_
  simp only [List.getElem_toArray, List.getElem_cons_zero, List.getElem_cons_succ, Act.put, List.setIfInBounds_toArray, List.set_cons_zero, List.set_cons_succ]
  refine wpX_f _ (.slice ov 1024 cv) rfl rfl (fun X _ => by simp [go_sem]) ?_
  simp only [List.getElem_toArray, List.getElem_cons_zero, List.getElem_cons_succ, Act.put, List.setIfInBounds_toArray, List.set_cons_zero, List.set_cons_succ]
  refine wpX_f _ (.string sb) rfl rfl (fun X hX => by simp [go_sem, hcb _ _ _ (hB.out.ext (Ext.trans hE8.out (Ext.trans hd10 hX)))]) ?_
  simp only [List.getElem_toArray, List.getElem_cons_zero, List.getElem_cons_succ, Act.put, List.setIfInBounds_toArray, List.set_cons_zero, List.set_cons_succ]
  refine wpX_call _ rfl rfl (by simp [go_sem]) ((kr.out w10).mono ?_)
  rintro e w11 ⟨v11, rfl, hO11, hE11⟩
  obtain ⟨o11, c11, rfl⟩ := hO11.bv.form
  refine ⟨_, rfl, fun X => Ext w11 X, fun X hX => Ext.trans hE11 hX, Ext.refl _, ?_⟩
  simp only [List.getElem_toArray, List.getElem_cons_zero, List.getElem_cons_succ, Act.put, List.setIfInBounds_toArray, List.set_cons_zero, List.set_cons_succ]
  refine wpX_f _ (.string sb) rfl rfl (fun X hX => by simp [go_sem, hcd _ _ _ (hO11.bv.ext hX)]) ?_
  simp only [List.getElem_toArray, List.getElem_cons_zero, List.getElem_cons_succ, Act.put, List.setIfInBounds_toArray, List.set_cons_zero, List.set_cons_succ]
  refine wpX_f _ (.bool true) rfl rfl (fun X _ => by simp [go_sem]) ?_
  simp only [List.getElem_toArray, List.getElem_cons_zero, List.getElem_cons_succ, Act.put, List.setIfInBounds_toArray, List.set_cons_zero, List.set_cons_succ]
  refine wpX_f _ (.bool true) rfl rfl (fun X _ => by simp [go_sem]) ?_
  simp only [List.getElem_toArray, List.getElem_cons_zero, List.getElem_cons_succ, Act.put, List.setIfInBounds_toArray, List.set_cons_zero, List.set_cons_succ]
  refine wpX_f _ (.bool true) rfl rfl (fun X _ => by simp [go_sem]) ?_
  simp only [List.getElem_toArray, List.getElem_cons_zero, List.getElem_cons_succ, Act.put, List.setIfInBounds_toArray, List.set_cons_zero, List.set_cons_succ]
  refine wpX_f _ (.bool true) rfl rfl (fun X _ => by simp [go_sem]) ?_
  simp only [List.getElem_toArray, List.getElem_cons_zero, List.getElem_cons_succ, Act.put, List.setIfInBounds_toArray, List.set_cons_zero, List.set_cons_succ]
  refine wpX_nil ?_
  have hF := hideit (Ext.trans hE8.out (Ext.trans hd10 hE11))
  clear hcx hcb hcd heq hgd heq2 hgd2
  go_wp2
  go_ret
  exact ⟨rfl, hF.out⟩
set_option maxRecDepth 20000 in
set_option maxHeartbeats 8000000 in
theorem bad (p : Nat → BitVec 64) (ov : Option Addr) (l cv : Nat) (hl : l ≠ 1024) (w : World) (hC : Hid (TabC w)) : Calls Tryd.prog 6 #[.agg (row 128 (wv p)).toArray, .slice ov l cv] w fun e w' => e = .returned (.bool true) ∧ Below w.heap.size w w' := by
  have hz := zero31p
  go_enter Tryd.func6, Tryd.ntmps6
  go_upto_region 1 with (fail)
  have h1 : RowAt w.heap.size 128 (wv p) (w.alloc (.cells (row 128 (wv p)).toArray 31)) := RowAt.new w 128 (wv p) 31
  have hE1 : Ext w (w.alloc (.cells (row 128 (wv p)).toArray 31)) := (Below.refl _ _).alloc (Nat.le_refl _) _
  obtain ⟨w1, hw1⟩ : ∃ w1, w1 = w.alloc (.cells (row 128 (wv p)).toArray 31) := ⟨_, rfl⟩
  obtain ⟨c, hc⟩ : ∃ c, c = w.heap.size := ⟨_, rfl⟩
  rw [← hw1] at h1 hE1 ⊢
  rw [← hc] at h1 ⊢
  clear hw1 hc
  refine wp_region_lit ?_
  refine wpList_load_mid rfl 31 (.tmp 2) rfl c 0 rfl (row 128 (wv p)) _ h1.range Tryd.underlying31 rfl (by rw [row_length]; exact infoPg) ?_
  simp only [Act.put, List.setIfInBounds_toArray, List.set_cons_zero, List.set_cons_succ]
  refine wpList_call rfl (by simp [go_sem]) ((bytes_any p w1).mono ?_)
  rintro e w2 ⟨v2, rfl, hO2, hE2⟩
  refine ⟨_, rfl, ?_⟩
  obtain ⟨o2, c2, rfl⟩ := hO2.bv.form
  replace h1 := hideit (h1.carry hE2)
  replace hE2 := hideit (Ext.trans hE1 hE2)
  have hx2 := hideit hO2.bv
  clear hO2 hE1
  simp only [Act.put, List.setIfInBounds_toArray, List.set_cons_zero, List.set_cons_succ]
  go_upto_region 2 with (fail)
  refine wp_region_lit ?_
  have kp := page_any _ (digF p) w2 hx2.out
  rw [show row 128 (wv (pgW (digF p))) = row 128 (wv p) from row_ext fun j hj => by simp only [wv]; rw [pg_dig p j hj]] at kp
  refine wpList_run rfl (.slice o2 1024 c2) (by simp [go_sem]) ?_
  simp only [Act.put, List.setIfInBounds_toArray, List.set_cons_zero, List.set_cons_succ]
  refine wpList_call rfl (by simp [go_sem]) (kp.mono ?_)
  rintro e w3 ⟨rfl, hE3⟩
  refine ⟨_, rfl, ?_⟩
  simp only [Act.put, List.setIfInBounds_toArray, List.set_cons_zero, List.set_cons_succ]
  refine wpList_run rfl (.tuple #[.agg (row 128 (wv p)).toArray, .int .i64 0]) (by simp [go_sem]) ?_
  simp only [Act.put, List.setIfInBounds_toArray, List.set_cons_zero, List.set_cons_succ]
  refine wpList_run rfl (.agg (row 128 (wv p)).toArray) (by simp [go_sem]) ?_
  simp only [Act.put, List.setIfInBounds_toArray, List.set_cons_zero, List.set_cons_succ]
  refine wpList_run rfl (.int .i64 0) (by simp [go_sem]) ?_
  simp only [Act.put, List.setIfInBounds_toArray, List.set_cons_zero, List.set_cons_succ]
  have hNw4 : RowAt w3.heap.size 128 (wv fun _ => 0#64) (w3.alloc (.cells (row 128 (wv fun _ => 0#64)).toArray 31)) := RowAt.new w3 128 _ 31
  have hAw4 : Ext w3 ((w3.alloc (.cells (row 128 (wv fun _ => 0#64)).toArray 31)).setCells w3.heap.size 0 (row 128 (wv p))) := below_setCells _ (Nat.le_refl _) _ _ _ ((Below.refl _ _).alloc (Nat.le_refl _) _)
  have hMw4 : RowAt w3.heap.size 128 (wv p) ((w3.alloc (.cells (row 128 (wv fun _ => 0#64)).toArray 31)).setCells w3.heap.size 0 (row 128 (wv p))) := hNw4.cells
  refine wpList_to rfl (.pointer (some ⟨w3.heap.size, 0, none⟩)) (w3.alloc (.cells (row 128 (wv fun _ => 0#64)).toArray 31)) (by simp [go_sem, hz]) ?_
  simp only [Act.put, List.setIfInBounds_toArray, List.set_cons_zero, List.set_cons_succ]
  refine wpList_store_mid rfl 31 (.tmp 6) (.tmp 17) rfl w3.heap.size 0 (row 128 (wv p)).toArray rfl rfl (by rw [row_size]; exact hNw4.there) (by rw [row_size]; exact infoPg) (row_one fun _ _ => rfl) ?_
  rw [show (row 128 (wv p)).toArray.toList = row 128 (wv p) from rfl]
  obtain ⟨cw4, hcw4⟩ : ∃ c, c = w3.heap.size := ⟨_, rfl⟩
  obtain ⟨w4, hw4⟩ : ∃ x, x = (w3.alloc (.cells (row 128 (wv fun _ => 0#64)).toArray 31)).setCells w3.heap.size 0 (row 128 (wv p)) := ⟨_, rfl⟩
  rw [← hw4] at hAw4 hMw4 ⊢
  rw [← hcw4] at hMw4 ⊢
  clear hNw4 hw4 hcw4
  have h4 := hideit ((h1.out.carry hE3).carry hAw4)
  have hx4 := hideit ((hx2.out.ext hE3).ext hAw4)
  have hE4 := hideit (Ext.trans (Ext.trans hE2.out hE3) hAw4)
  have hq4 := hideit hMw4
  clear kp hE3 hAw4 hMw4 h1 hx2 hE2
  simp only [Act.put]
  go_upto_region 3 with (fail)
  refine wp_region_lit ?_
  have kp := page_bad ov l cv hl w4
  refine wpList_run rfl (.slice ov l cv) (by simp [go_sem]) ?_
  simp only [Act.put, List.setIfInBounds_toArray, List.set_cons_zero, List.set_cons_succ]
  refine wpList_call rfl (by simp [go_sem]) (kp.mono ?_)
  rintro e w5 ⟨rfl, hE5⟩
  refine ⟨_, rfl, ?_⟩
  simp only [Act.put, List.setIfInBounds_toArray, List.set_cons_zero, List.set_cons_succ]
  refine wpList_run rfl (.tuple #[.agg (row 128 (wv (fun _ => 0#64))).toArray, .int .i64 1]) (by simp [go_sem]) ?_
  simp only [Act.put, List.setIfInBounds_toArray, List.set_cons_zero, List.set_cons_succ]
  refine wpList_run rfl (.agg (row 128 (wv (fun _ => 0#64))).toArray) (by simp [go_sem]) ?_
  simp only [Act.put, List.setIfInBounds_toArray, List.set_cons_zero, List.set_cons_succ]
  refine wpList_run rfl (.int .i64 1) (by simp [go_sem]) ?_
  simp only [Act.put, List.setIfInBounds_toArray, List.set_cons_zero, List.set_cons_succ]
  have hNw6 : RowAt w5.heap.size 128 (wv fun _ => 0#64) (w5.alloc (.cells (row 128 (wv fun _ => 0#64)).toArray 31)) := RowAt.new w5 128 _ 31
  have hAw6 : Ext w5 ((w5.alloc (.cells (row 128 (wv fun _ => 0#64)).toArray 31)).setCells w5.heap.size 0 (row 128 (wv (fun _ => 0#64)))) := below_setCells _ (Nat.le_refl _) _ _ _ ((Below.refl _ _).alloc (Nat.le_refl _) _)
  have hMw6 : RowAt w5.heap.size 128 (wv (fun _ => 0#64)) ((w5.alloc (.cells (row 128 (wv fun _ => 0#64)).toArray 31)).setCells w5.heap.size 0 (row 128 (wv (fun _ => 0#64)))) := hNw6.cells
  refine wpList_to rfl (.pointer (some ⟨w5.heap.size, 0, none⟩)) (w5.alloc (.cells (row 128 (wv fun _ => 0#64)).toArray 31)) (by simp [go_sem, hz]) ?_
  simp only [Act.put, List.setIfInBounds_toArray, List.set_cons_zero, List.set_cons_succ]
  refine wpList_store_mid rfl 31 (.tmp 8) (.tmp 22) rfl w5.heap.size 0 (row 128 (wv (fun _ => 0#64))).toArray rfl rfl (by rw [row_size]; exact hNw6.there) (by rw [row_size]; exact infoPg) (row_one fun _ _ => rfl) ?_
  rw [show (row 128 (wv (fun _ => 0#64))).toArray.toList = row 128 (wv (fun _ => 0#64)) from rfl]
  obtain ⟨cw6, hcw6⟩ : ∃ c, c = w5.heap.size := ⟨_, rfl⟩
  obtain ⟨w6, hw6⟩ : ∃ x, x = (w5.alloc (.cells (row 128 (wv fun _ => 0#64)).toArray 31)).setCells w5.heap.size 0 (row 128 (wv (fun _ => 0#64))) := ⟨_, rfl⟩
  rw [← hw6] at hAw6 hMw6 ⊢
  rw [← hcw6] at hMw6 ⊢
  clear hNw6 hw6 hcw6
  have h6 := hideit ((h4.out.carry hE5).carry hAw6)
  have hx6 := hideit ((hx4.out.ext hE5).ext hAw6)
  have hE6 := hideit (Ext.trans (Ext.trans hE4.out hE5) hAw6)
  have hq6 := hideit ((hq4.out.carry hE5).carry hAw6)
  have hr6 := hideit hMw6
  clear kp hE5 hAw6 hMw6 h4 hx4 hE4 hq4
  simp only [Act.put]
  go_upto_region 4 with (fail)
  refine wp_region_lit ?_
  have kp := rpage_bad ov l cv hl w6
  refine wpList_run rfl (.slice ov l cv) (by simp [go_sem]) ?_
  simp only [Act.put, List.setIfInBounds_toArray, List.set_cons_zero, List.set_cons_succ]
  refine wpList_call rfl (by simp [go_sem]) (kp.mono ?_)
  rintro e w7 ⟨rfl, hE7⟩
  refine ⟨_, rfl, ?_⟩
  simp only [Act.put, List.setIfInBounds_toArray, List.set_cons_zero, List.set_cons_succ]
  refine wpList_run rfl (.tuple #[.agg (row 128 (wv (fun _ => 0#64))).toArray, .int .i64 1]) (by simp [go_sem]) ?_
  simp only [Act.put, List.setIfInBounds_toArray, List.set_cons_zero, List.set_cons_succ]
  refine wpList_run rfl (.agg (row 128 (wv (fun _ => 0#64))).toArray) (by simp [go_sem]) ?_
  simp only [Act.put, List.setIfInBounds_toArray, List.set_cons_zero, List.set_cons_succ]
  refine wpList_run rfl (.int .i64 1) (by simp [go_sem]) ?_
  simp only [Act.put, List.setIfInBounds_toArray, List.set_cons_zero, List.set_cons_succ]
  have hNw8 : RowAt w7.heap.size 128 (wv fun _ => 0#64) (w7.alloc (.cells (row 128 (wv fun _ => 0#64)).toArray 31)) := RowAt.new w7 128 _ 31
  have hAw8 : Ext w7 ((w7.alloc (.cells (row 128 (wv fun _ => 0#64)).toArray 31)).setCells w7.heap.size 0 (row 128 (wv (fun _ => 0#64)))) := below_setCells _ (Nat.le_refl _) _ _ _ ((Below.refl _ _).alloc (Nat.le_refl _) _)
  have hMw8 : RowAt w7.heap.size 128 (wv (fun _ => 0#64)) ((w7.alloc (.cells (row 128 (wv fun _ => 0#64)).toArray 31)).setCells w7.heap.size 0 (row 128 (wv (fun _ => 0#64)))) := hNw8.cells
  refine wpList_to rfl (.pointer (some ⟨w7.heap.size, 0, none⟩)) (w7.alloc (.cells (row 128 (wv fun _ => 0#64)).toArray 31)) (by simp [go_sem, hz]) ?_
  simp only [Act.put, List.setIfInBounds_toArray, List.set_cons_zero, List.set_cons_succ]
  refine wpList_store_mid rfl 31 (.tmp 10) (.tmp 27) rfl w7.heap.size 0 (row 128 (wv (fun _ => 0#64))).toArray rfl rfl (by rw [row_size]; exact hNw8.there) (by rw [row_size]; exact infoPg) (row_one fun _ _ => rfl) ?_
  rw [show (row 128 (wv (fun _ => 0#64))).toArray.toList = row 128 (wv (fun _ => 0#64)) from rfl]
  obtain ⟨cw8, hcw8⟩ : ∃ c, c = w7.heap.size := ⟨_, rfl⟩
  obtain ⟨w8, hw8⟩ : ∃ x, x = (w7.alloc (.cells (row 128 (wv fun _ => 0#64)).toArray 31)).setCells w7.heap.size 0 (row 128 (wv (fun _ => 0#64))) := ⟨_, rfl⟩
  rw [← hw8] at hAw8 hMw8 ⊢
  rw [← hcw8] at hMw8 ⊢
  clear hNw8 hw8 hcw8
  have h8 := hideit ((h6.out.carry hE7).carry hAw8)
  have hx8 := hideit ((hx6.out.ext hE7).ext hAw8)
  have hE8 := hideit (Ext.trans (Ext.trans hE6.out hE7) hAw8)
  have hq8 := hideit ((hq6.out.carry hE7).carry hAw8)
  have hr8 := hideit ((hr6.out.carry hE7).carry hAw8)
  have hs8 := hideit hMw8
  clear kp hE7 hAw8 hMw8 h6 hx6 hE6 hq6 hr6
  simp only [Act.put]
  go_upto_region 5 with (fail)
  have hEd : Ext w w8.drew := Ext.draw hE8.out
  obtain ⟨pp, hpp⟩ : ∃ x, x = (.agg (row 128 (wv p)).toArray : Value) := ⟨_, rfl⟩
  obtain ⟨rr, hrr⟩ : ∃ x, x = (.agg (row 128 (wv (fun _ => 0#64))).toArray : Value) := ⟨_, rfl⟩
  have heq : ∀ X : World, (binOp .eql 31 pp pp).run Tryd.prog X = .ok (.bool true) X := fun X => by rw [hpp]; exact run_eql_refl 31 29 128 .u64 Tryd.underlying31 Tryd.underlying29 size29 (fun j => ((p j).toNat : Int)) X
  have hgd : ∀ (x y : Operand) (X : World), (eqGuard BinOp.eql 31 x y pp pp).run Tryd.prog X = .ok () X := fun x y X => by rw [hpp]; exact run_eqGuard_agg X .eql 31 x y _ _ (by kernel_rfl)
  have heq2 : ∀ X : World, (binOp .eql 31 rr rr).run Tryd.prog X = .ok (.bool true) X := fun X => by rw [hrr]; exact run_eql_refl 31 29 128 .u64 Tryd.underlying31 Tryd.underlying29 size29 (fun j => (((fun _ => 0#64) j).toNat : Int)) X
  have hgd2 : ∀ (x y : Operand) (X : World), (eqGuard BinOp.eql 31 x y rr rr).run Tryd.prog X = .ok () X := fun x y X => by rw [hrr]; exact run_eqGuard_agg X .eql 31 x y _ _ (by kernel_rfl)
  have kb : Hid (∀ X : World, Calls Tryd.prog 21 #[pp] X fun e w' => ∃ v, e = .returned v ∧ OwnB X.heap.size 5 v 1024 (yv (digF p)) w' ∧ Ext X w') := fun X => by rw [hpp]; exact rbytes_any p X
  replace hpp := hideit hpp
  replace hrr := hideit hrr
  obtain ⟨sx, hsx⟩ : ∃ sx, sx = bstr 1024 (fun j => ((digF p j).toNat : Int)) := ⟨_, rfl⟩
  have hcx : ∀ oa ca X, BV (.slice oa 1024 ca) 1024 (digF p) X → (convert 22 9 (.slice oa 1024 ca)).run Tryd.prog X = .ok (.string sx) X := fun oa ca X h => by rw [hsx]; exact convV _ _ _ _ h
  clear hsx
  refine wp_region_lad (fun X => Ext w8.drew X) [(true, 0), (false, 1), (false, 2), (false, 3), (false, 4), (true, 5), (false, 6), (false, 7), (false, 8), (false, 9), (false, 10), (false, 11), (false, 12), (false, 13), (false, 14), (false, 15), (false, 16), (false, 17), (false, 18), (false, 19), (false, 20), (false, 21), (false, 22), (false, 23), (false, 24), (false, 25), (false, 26), (false, 27), (false, 28), (false, 29), (false, 30), (false, 31), (false, 32), (false, 35), (false, 36), (true, 33), (false, 34), (false, 37), (false, 38), (false, 39), (false, 40)] (by kernel_rfl) (by kernel_rfl) (by decide +kernel) (by decide +kernel) (by decide +kernel) (by decide +kernel) (Ext.refl _) ?_
  refine wpX_call _ rfl rfl (by simp [go_sem]) ((lives_any w8.drew (hC.out.ext hEd)).mono ?_)
  rintro e w9 ⟨rfl, hE9⟩
  refine ⟨_, rfl, fun X => Ext w9 X, fun X hX => Ext.trans hE9 hX, Ext.refl _, ?_⟩
  have hd9 : Ext w8 w9 := Ext.trans (Ext.refl w8).draw hE9
  simp only [List.getElem_toArray, List.getElem_cons_zero, Act.put, List.setIfInBounds_toArray, List.set_cons_zero, List.set_cons_succ]
  refine wpX_f _ (.bool true) rfl rfl (fun X _ => by simp [go_sem]) ?_
  simp only [List.getElem_toArray, List.getElem_cons_zero, List.getElem_cons_succ, Act.put, List.setIfInBounds_toArray, List.set_cons_zero, List.set_cons_succ]
  refine wpX_f _ (.slice o2 1024 c2) rfl rfl (fun X _ => by simp [go_sem]) ?_
  simp only [List.getElem_toArray, List.getElem_cons_zero, List.getElem_cons_succ, Act.put, List.setIfInBounds_toArray, List.set_cons_zero, List.set_cons_succ]
  refine wpX_f _ (.string sx) rfl rfl (fun X hX => by simp [go_sem, hcx _ _ _ (hx8.out.ext (Ext.trans hd9 hX))]) ?_
  simp only [List.getElem_toArray, List.getElem_cons_zero, List.getElem_cons_succ, Act.put, List.setIfInBounds_toArray, List.set_cons_zero, List.set_cons_succ]
  refine wpX_f _ pp rfl rfl (fun X hX => (run_loadX 31 (.tmp 2) c 128 (wv p) rfl rfl (h8.out.carry (Ext.trans hd9 hX)) Tryd.underlying31 rfl infoPg).trans (by rw [hpp.out])) ?_
  simp only [List.getElem_toArray, List.getElem_cons_zero, List.getElem_cons_succ, Act.put, List.setIfInBounds_toArray, List.set_cons_zero, List.set_cons_succ]
  refine wpX_call _ rfl rfl (by simp [go_sem]) ((kb.out w9).mono ?_)
  rintro e w10 ⟨v10, rfl, hO10, hE10⟩
  obtain ⟨o10, c10, rfl⟩ := hO10.bv.form
  refine ⟨_, rfl, fun X => Ext w10 X, fun X hX => Ext.trans hE10 hX, Ext.refl _, ?_⟩
  have hd10 : Ext w8 w10 := Ext.trans hd9 hE10
  simp only [List.getElem_toArray, List.getElem_cons_zero, List.getElem_cons_succ, Act.put, List.setIfInBounds_toArray, List.set_cons_zero, List.set_cons_succ]
  refine wpX_f _ (.string sx) rfl rfl (fun X hX => by simp [go_sem, hcx _ _ _ (hO10.bv.ext hX)]) ?_
  simp only [List.getElem_toArray, List.getElem_cons_zero, List.getElem_cons_succ, Act.put, List.setIfInBounds_toArray, List.set_cons_zero, List.set_cons_succ]
  refine wpX_f _ (.bool true) rfl rfl (fun X _ => by simp [go_sem]) ?_
  simp only [List.getElem_toArray, List.getElem_cons_zero, List.getElem_cons_succ, Act.put, List.setIfInBounds_toArray, List.set_cons_zero, List.set_cons_succ]
  refine wpX_f _ (.bool true) rfl rfl (fun X _ => by simp [go_sem]) ?_
  simp only [List.getElem_toArray, List.getElem_cons_zero, List.getElem_cons_succ, Act.put, List.setIfInBounds_toArray, List.set_cons_zero, List.set_cons_succ]
  refine wpX_f _ (.bool true) rfl rfl (fun X _ => by simp [go_sem]) ?_
  simp only [List.getElem_toArray, List.getElem_cons_zero, List.getElem_cons_succ, Act.put, List.setIfInBounds_toArray, List.set_cons_zero, List.set_cons_succ]
  refine wpX_f _ (.int .i64 0) rfl rfl (fun X _ => by simp [go_sem]) ?_
  simp only [List.getElem_toArray, List.getElem_cons_zero, List.getElem_cons_succ, Act.put, List.setIfInBounds_toArray, List.set_cons_zero, List.set_cons_succ]
  refine wpX_f _ (.bool true) rfl rfl (fun X _ => by simp [go_sem]) ?_
  simp only [List.getElem_toArray, List.getElem_cons_zero, List.getElem_cons_succ, Act.put, List.setIfInBounds_toArray, List.set_cons_zero, List.set_cons_succ]
  refine wpX_f _ (.bool true) rfl rfl (fun X _ => by simp [go_sem]) ?_
  simp only [List.getElem_toArray, List.getElem_cons_zero, List.getElem_cons_succ, Act.put, List.setIfInBounds_toArray, List.set_cons_zero, List.set_cons_succ]
  refine wpX_f _ (.bool true) rfl rfl (fun X _ => by simp [go_sem]) ?_
  simp only [List.getElem_toArray, List.getElem_cons_zero, List.getElem_cons_succ, Act.put, List.setIfInBounds_toArray, List.set_cons_zero, List.set_cons_succ]
  refine wpX_f _ pp rfl rfl (fun X hX => (run_loadX 31 (.tmp 6) cw4 128 (wv p) rfl rfl (hq8.out.carry (Ext.trans hd10 hX)) Tryd.underlying31 rfl infoPg).trans (by rw [hpp.out])) ?_
  simp only [List.getElem_toArray, List.getElem_cons_zero, List.getElem_cons_succ, Act.put, List.setIfInBounds_toArray, List.set_cons_zero, List.set_cons_succ]
  refine wpX_f _ pp rfl rfl (fun X hX => (run_loadX 31 (.tmp 2) c 128 (wv p) rfl rfl (h8.out.carry (Ext.trans hd10 hX)) Tryd.underlying31 rfl infoPg).trans (by rw [hpp.out])) ?_
  simp only [List.getElem_toArray, List.getElem_cons_zero, List.getElem_cons_succ, Act.put, List.setIfInBounds_toArray, List.set_cons_zero, List.set_cons_succ]
  refine wpX_f _ (.bool true) rfl rfl (fun X _ => by simp [go_sem, heq, hgd]) ?_
  simp only [List.getElem_toArray, List.getElem_cons_zero, List.getElem_cons_succ, Act.put, List.setIfInBounds_toArray, List.set_cons_zero, List.set_cons_succ]
  refine wpX_f _ (.bool true) rfl rfl (fun X _ => by simp [go_sem]) ?_
  simp only [List.getElem_toArray, List.getElem_cons_zero, List.getElem_cons_succ, Act.put, List.setIfInBounds_toArray, List.set_cons_zero, List.set_cons_succ]
  refine wpX_f _ (.bool true) rfl rfl (fun X _ => by simp [go_sem]) ?_
  simp only [List.getElem_toArray, List.getElem_cons_zero, List.getElem_cons_succ, Act.put, List.setIfInBounds_toArray, List.set_cons_zero, List.set_cons_succ]
  refine wpX_f _ rr rfl rfl (fun X hX => (run_loadX 31 (.tmp 8) cw6 128 (wv (fun _ => 0#64)) rfl rfl (hr8.out.carry (Ext.trans hd10 hX)) Tryd.underlying31 rfl infoPg).trans (by rw [hrr.out])) ?_
  simp only [List.getElem_toArray, List.getElem_cons_zero, List.getElem_cons_succ, Act.put, List.setIfInBounds_toArray, List.set_cons_zero, List.set_cons_succ]
  refine wpX_f _ rr rfl rfl (fun X hX => (run_loadX 31 (.tmp 10) cw8 128 (wv (fun _ => 0#64)) rfl rfl (hs8.out.carry (Ext.trans hd10 hX)) Tryd.underlying31 rfl infoPg).trans (by rw [hrr.out])) ?_
  simp only [List.getElem_toArray, List.getElem_cons_zero, List.getElem_cons_succ, Act.put, List.setIfInBounds_toArray, List.set_cons_zero, List.set_cons_succ]
  refine wpX_f _ (.bool true) rfl rfl (fun X _ => by simp [go_sem, heq2, hgd2]) ?_
  simp only [List.getElem_toArray, List.getElem_cons_zero, List.getElem_cons_succ, Act.put, List.setIfInBounds_toArray, List.set_cons_zero, List.set_cons_succ]
  refine wpX_f _ (.bool true) rfl rfl (fun X _ => by simp [go_sem]) ?_
  simp only [List.getElem_toArray, List.getElem_cons_zero, List.getElem_cons_succ, Act.put, List.setIfInBounds_toArray, List.set_cons_zero, List.set_cons_succ]
  refine wpX_f _ (.bool true) rfl rfl (fun X _ => by simp [go_sem]) ?_
  simp only [List.getElem_toArray, List.getElem_cons_zero, List.getElem_cons_succ, Act.put, List.setIfInBounds_toArray, List.set_cons_zero, List.set_cons_succ]
  refine wpX_f _ (.int .i64 1) rfl rfl (fun X _ => by simp [go_sem]) ?_
  simp only [List.getElem_toArray, List.getElem_cons_zero, List.getElem_cons_succ, Act.put, List.setIfInBounds_toArray, List.set_cons_zero, List.set_cons_succ]
  refine wpX_f _ (.int .i64 1) rfl rfl (fun X _ => by simp [go_sem]) ?_
  simp only [List.getElem_toArray, List.getElem_cons_zero, List.getElem_cons_succ, Act.put, List.setIfInBounds_toArray, List.set_cons_zero, List.set_cons_succ]
  refine wpX_f _ (.bool true) rfl rfl (fun X _ => by simp [go_sem]) ?_
  simp only [List.getElem_toArray, List.getElem_cons_zero, List.getElem_cons_succ, Act.put, List.setIfInBounds_toArray, List.set_cons_zero, List.set_cons_succ]
  refine wpX_f _ (.bool true) rfl rfl (fun X _ => by simp [go_sem]) ?_
  simp only [List.getElem_toArray, List.getElem_cons_zero, List.getElem_cons_succ, Act.put, List.setIfInBounds_toArray, List.set_cons_zero, List.set_cons_succ]
  refine wpX_f _ (.bool true) rfl rfl (fun X _ => by simp [go_sem]) ?_
  simp only [List.getElem_toArray, List.getElem_cons_zero, List.getElem_cons_succ, Act.put, List.setIfInBounds_toArray, List.set_cons_zero, List.set_cons_succ]
  refine wpX_f _ (.int .i64 1) rfl rfl (fun X _ => by simp [go_sem]) ?_
  simp only [List.getElem_toArray, List.getElem_cons_zero, List.getElem_cons_succ, Act.put, List.setIfInBounds_toArray, List.set_cons_zero, List.set_cons_succ]
  refine wpX_f _ (.bool true) rfl rfl (fun X _ => by simp [go_sem]) ?_
  simp only [List.getElem_toArray, List.getElem_cons_zero, List.getElem_cons_succ, Act.put, List.setIfInBounds_toArray, List.set_cons_zero, List.set_cons_succ]
  refine wpX_f _ (.bool true) rfl rfl (fun X _ => by simp [go_sem]) ?_
  simp only [List.getElem_toArray, List.getElem_cons_zero, List.getElem_cons_succ, Act.put, List.setIfInBounds_toArray, List.set_cons_zero, List.set_cons_succ]
  refine wpX_fskip _ rfl rfl ?_
  simp only [List.getElem_toArray, List.getElem_cons_zero, List.getElem_cons_succ, Act.put, List.setIfInBounds_toArray, List.set_cons_zero, List.set_cons_succ]
  refine wpX_fskip _ rfl rfl ?_
  simp only [List.getElem_toArray, List.getElem_cons_zero, List.getElem_cons_succ, Act.put, List.setIfInBounds_toArray, List.set_cons_zero, List.set_cons_succ]
  refine wpX_fskip _ rfl rfl ?_
  simp only [List.getElem_toArray, List.getElem_cons_zero, List.getElem_cons_succ, Act.put, List.setIfInBounds_toArray, List.set_cons_zero, List.set_cons_succ]
  refine wpX_skip _ rfl rfl (Ext.refl _) ?_
  simp only [List.getElem_toArray, List.getElem_cons_zero, List.getElem_cons_succ, Act.put, List.setIfInBounds_toArray, List.set_cons_zero, List.set_cons_succ]
  refine wpX_fskip _ rfl rfl ?_
  simp only [List.getElem_toArray, List.getElem_cons_zero, List.getElem_cons_succ, Act.put, List.setIfInBounds_toArray, List.set_cons_zero, List.set_cons_succ]
  refine wpX_fskip _ rfl rfl ?_
  simp only [List.getElem_toArray, List.getElem_cons_zero, List.getElem_cons_succ, Act.put, List.setIfInBounds_toArray, List.set_cons_zero, List.set_cons_succ]
  refine wpX_f _ (.bool true) rfl rfl (fun X _ => by simp [go_sem]) ?_
  simp only [List.getElem_toArray, List.getElem_cons_zero, List.getElem_cons_succ, Act.put, List.setIfInBounds_toArray, List.set_cons_zero, List.set_cons_succ]
  refine wpX_f _ (.bool true) rfl rfl (fun X _ => by simp [go_sem]) ?_
  simp only [List.getElem_toArray, List.getElem_cons_zero, List.getElem_cons_succ, Act.put, List.setIfInBounds_toArray, List.set_cons_zero, List.set_cons_succ]
  refine wpX_f _ (.bool true) rfl rfl (fun X _ => by simp [go_sem]) ?_
  simp only [List.getElem_toArray, List.getElem_cons_zero, List.getElem_cons_succ, Act.put, List.setIfInBounds_toArray, List.set_cons_zero, List.set_cons_succ]
  refine wpX_nil ?_
  have hF := hideit (Ext.trans hE8.out hd10)
  clear hcx heq hgd heq2 hgd2
  go_wp2
  go_ret
  exact ⟨rfl, hF.out⟩
theorem walk (p : Nat → BitVec 64) (v : Value) (w : World) (hb0 : BArg v w) (hC : TabC w) : Calls Tryd.prog 6 #[.agg (row 128 (wv p)).toArray, v] w fun e w' => e = .returned (.bool true) ∧ Below w.heap.size w w' := by
  obtain ⟨l, b, hB, hl⟩ := hb0.bv
  obtain ⟨ov, cv, rfl⟩ := hB.form
  by_cases e : l = 1024
  · subst e
    exact good p ov cv b w hB hC
  · exact bad p ov l cv e w hC

theorem contract (H : Type) (enc : TypeId × Value → H) (W : World) (base : Nat) (args : Array Value) (ds gs : List (DataW H)) (before : List MemPlace)
    (hval0 : ∀ (j : Nat) t v, Tryd.f6.params[j]? = some t → args[j]? = some v → Value.okWide Tryd.prog W .any base t v)
    (hW : DataW.Whole enc Tryd.prog Tryd.f6.params.toList Rows.mixBytesSpec.vars false W args.toList ds gs before) (hL : laidMetH Tryd.prog Rows.mixBytesRow.laid W) (hsz0 : (DataW.weightsEach Tryd.prog (Tryd.f6.params.toList ++ []) (ds ++ gs)).all (· ≤ reachBytes) = true) :
    Calls Tryd.prog 6 args W fun e W' => ∃ v, e = .returned v ∧ Rows.mixBytesSpec.post enc Tryd.prog Tryd.f6 false true false false W args v W' := by
  have hval := hval0
  have hsz := hsz0
  have hW' := hW
  obtain ⟨p, q, hA0, hV, rfl, hfz, hnd⟩ := hW
  have hA : DataW.TrodAll enc Tryd.prog W 0 (fun _ => true) true Tryd.f6.params.toList args.toList ds p := hA0
  rw [Tryd.params6] at hA hval hsz
  obtain ⟨v0, vs0, d0, ds0, p0, q0, hargs, rfl, rfl, h0, r0⟩ := trodAll_cons hA
  obtain ⟨v1, vs1, d1, ds1, p1, q1, rfl, rfl, rfl, h1, r1⟩ := trodAll_cons r0
  obtain ⟨rfl, rfl, rfl⟩ := trodAll_nil r1
  obtain rfl : args = #[v0, v1] := by cases args; simp_all
  obtain ⟨rfl, rfl⟩ := trodVars_none hV
  have h0s : 1 < W.heap.size := by
    have hc := tab_places hL 0 (by decide)
    rcases Nat.lt_or_ge 1 W.heap.size with h | h
    · exact h
    · exfalso
      have : W.heap[1]? = none := Array.getElem?_eq_none h
      simp [World.cell?, this] at hc
  have hC : TabC W := tabC hL h0s
  have k0 := h0
  have lt0 : ∀ x ∈ p0, x.block < W.heap.size := by obtain ⟨m, hm⟩ := k0; exact DataW.trod_lt m _ _ _ hm
  have k1 := h1
  have lt1 : ∀ x ∈ p1, x.block < W.heap.size := by obtain ⟨m, hm⟩ := k1; exact DataW.trod_lt m _ _ _ hm
  obtain ⟨a0, rfl⟩ := open_arru64_128 (hval 0 31 v0 rfl rfl) h0
  have B1 := barg (hval 1 22 v1 rfl rfl) h1 hsz 1 rfl rfl
  clear hA0 hval0
  refine (walk a0 v1 W B1 hC).mono fun e W' ⟨he, bel⟩ => ?_
  subst he
  exact ⟨_, rfl, _, _, _, [], _, [], hW', trodAll_mk1 (shut_bool Tryd.underlying4 _), (trodAll_cons_mk (Below.trod laidOut (by kernel_rfl) (of_decide_eq_true (by kernel_rfl)) k0 bel lt0) (trodAll_cons_mk (Below.trod laidOut (by kernel_rfl) (of_decide_eq_true (by kernel_rfl)) k1 bel lt1) trodAll_mk0)), rfl, bel.frame _, fun h => by cases h⟩

def wit : Array Value := #[.agg (List.replicate 128 (.int .u64 0)).toArray, .slice none 0 0]
def dat {H : Type} : List (DataW H) := [.agg (List.replicate 128 (.lit (.int .u64 0))), .nil]
def setTab : Obj → Obj
  | .cells _ t frozen => .cells (row 32 (iv plF)).toArray t frozen
  | o => o
theorem laid_met (os : Os) : laidMet Tryd.prog Rows.mixBytesRow.laid (({ World.holding Tryd.prog os ⟨#[], #[], []⟩ with heap := (World.holding Tryd.prog os ⟨#[], #[], []⟩).heap.modify 1 setTab } : World).forCall (fun _ _ => 0) ⟨#[], wit, []⟩).memory :=
  laidMet_of_run' 8 (by kernel_rfl) (by kernel_rfl)
theorem reads (os : Os) {H : Type} (enc : TypeId × Value → H) : ∃ places, DataW.whole enc Tryd.prog (({ World.holding Tryd.prog os ⟨#[], #[], []⟩ with heap := (World.holding Tryd.prog os ⟨#[], #[], []⟩).heap.modify 1 setTab } : World).forCall (fun _ _ => 0) ⟨#[], wit, []⟩).memory Tryd.f6.params.toList Rows.mixBytesSpec.vars false wit.toList 8 = some (dat, [], places) :=
  ⟨[], by kernel_rfl⟩

set_option maxRecDepth 100000 in
theorem lifted (os : Os) (started : os.Started) (H : Type) (enc : TypeId × Value → H) (F : Stop.Interp) :
    ReturnsInHanded {} Tryd.checked os 6 .any ((OpenSpec.ofChange Rows.mixBytesSpec).preRow enc Tryd.prog Tryd.f6 Rows.mixBytesRow.domain false Rows.mixBytesRow.laid) (((OpenSpec.ofChange Rows.mixBytesSpec).at F).post enc Tryd.prog Tryd.f6 false true false false) := by
  obtain ⟨places, hx⟩ := reads os enc
  refine returnsInHanded_of_row (C := Tryd.checked) (s := (OpenSpec.ofChange Rows.mixBytesSpec)) own started (by kernel_rfl) Tryd.func6
    (witness_row_at (enc := enc) (C := Tryd.checked) false ({ World.holding Tryd.prog os ⟨#[], #[], []⟩ with heap := (World.holding Tryd.prog os ⟨#[], #[], []⟩).heap.modify 1 setTab } : World) wit rfl (by kernel_rfl) (by kernel_rfl) (by kernel_rfl)
      (OpenSpec.preRow_of_cond 8 hx (by kernel_rfl) (fun k hk => by cases hk) (by kernel_rfl) (laid_met os))) ?_
  intro W base args ds gs before hval hW _ hcond hsz hL _ _
  exact contract H enc W base args ds gs before hval hW hL hsz

theorem said : Rows.MixBytesSaid :=
  OpenClaim.holds_of_cond 6 Tryd.f6 rfl rfl rfl rfl rfl rfl rfl ⟨rfl, rfl, rfl, rfl, rfl⟩ rfl rfl rfl rfl rfl (by kernel_rfl) Tryd.func6 (by kernel_rfl)
    (of_decide_eq_true (by kernel_rfl)) (by unfold Func.isWrapper; first | (rw [if_pos (by decide +kernel)]; kernel_rfl) | (rw [if_neg (by decide +kernel)]; exact ⟨rfl, rfl⟩))
    (fun os started H enc _ F => by rw [OpenClaim.pre_eq_preRow]; exact lifted os started H enc F)

theorem plain (f : FuncId) (fn : Func) (hf : Tryd.pinned.checked.prog.funcNamed "casket/casketlaw07.MixBytes" = some f) (hfn : Tryd.pinned.checked.prog.funcs[f]? = some fn) :
    false = Tryd.pinned.checked.prog.looks [] ∧ ∀ (j : Nat) t, fn.params[j]? = some t → Tryd.pinned.checked.prog.wantsStandIn t = false := by
  obtain rfl : f = 6 := Option.some.inj ((show Tryd.prog.funcNamed "casket/casketlaw07.MixBytes" = some 6 by kernel_rfl).symm.trans hf) |>.symm
  obtain rfl : fn = Tryd.f6 := (Option.some.inj (Tryd.func6.symm.trans hfn)).symm
  refine ⟨by kernel_rfl, fun j t ht => ?_⟩
  rw [Tryd.params6] at ht
  have hm : t ∈ [31, 22] := by simpa using Array.mem_of_getElem? ht
  have hall : ([31, 22].all fun u => !Tryd.prog.wantsStandIn u) = true := by kernel_rfl
  exact (show Tryd.prog.wantsStandIn t = false by simpa using List.all_eq_true.1 hall t hm)

theorem card : Rows.MixBytesCardSaid :=
  Claim7.holds_tied_plain_at .later [] _ _ _ _ said (fun _ h => by cases h) (by kernel_rfl) (fun _ h => by cases h) mixBytes_row_tie rfl ⟨rfl, rfl⟩ (by kernel_rfl) rfl plain (by kernel_rfl)
end Go.Proofs.YtfbmeclpcgdmhaaDoor.mixBytes
namespace Go.Proofs.YtfbmeclpcgdmhaaDoor
theorem mixBytes_holds : Rows.MixBytesCardSaid := mixBytes.card
end Go.Proofs.YtfbmeclpcgdmhaaDoor
