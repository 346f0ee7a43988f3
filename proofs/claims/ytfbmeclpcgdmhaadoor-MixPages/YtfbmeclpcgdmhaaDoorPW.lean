/-
  The law of pages, walked.
-/
import Derived.Test.YtfbmeclpcgdmhaaDoorSt9
import Derived.Test.YtfbmeclpcgdmhaaDoorPZ
import Derived.Test.YtfbmeclpcgdmhaaDoorLad
import Derived.Test.YtfbmeclpcgdmhaaDoorLives
namespace Go.Proofs.YtfbmeclpcgdmhaaDoor
open Go.RowKit Go.BigFrame
theorem run_ldX {P : Program} {o : Oper} {a : Act} {X : World} (t : TypeId) (x : Operand) (b n : Nat) (g : Nat → Value) {d : TypeDesc} (ho : o.op = .load t x) (hx : a.eval x = .pointer (some ⟨b, 0, none⟩)) (h : RowAt b n g X)
    (hu : P.underlying t = some d) (hd : d.isRow = true) (hi : (P.info? t).map (·.size) = some n) : (execOp a.eval o).run P X = .ok (.value (.agg (row n g).toArray)) X := by
  unfold execOp
  simp only [ho, hx, Instr.loadAt, Instr.sureAddr, Sem.run_bind, Sem.run_pure, Result.andThen_ok, run_loadVar_mid (P := P) X b 0 t (row n g) _ h.range hu hd (by rw [row_length]; exact hi)]
set_option maxRecDepth 20000 in
set_option maxHeartbeats 4000000 in
theorem pages_law (x y r v s : Nat → BitVec 64)
    (hp : ∀ X, Hid (TabM X → Calls Tryd.prog 12 #[.agg (row 128 (wv x)).toArray, .agg (row 128 (wv y)).toArray] X fun e w' => e = .returned (.agg (row 128 (wv r)).toArray) ∧ Ext X w'))
    (hq : ∀ X, Hid (TabM X → Calls Tryd.prog 12 #[.agg (row 128 (wv y)).toArray, .agg (row 128 (wv x)).toArray] X fun e w' => e = .returned (.agg (row 128 (wv r)).toArray) ∧ Ext X w'))
    (hz : ∀ X, Hid (TabM X → Calls Tryd.prog 12 #[.agg (row 128 (wv x)).toArray, .agg (row 128 (wv x)).toArray] X fun e w' => e = .returned (.agg (row 128 (wv zP)).toArray) ∧ Ext X w'))
    (hrp : ∀ X, Hid (Calls Tryd.prog 13 #[.agg (row 128 (wv x)).toArray, .agg (row 128 (wv y)).toArray] X fun e w' => e = .returned (.agg (row 128 (wv r)).toArray) ∧ Ext X w'))
    (hs : ∀ X, Hid (TabM X → Calls Tryd.prog 14 #[.agg (row 16 (wv v)).toArray] X fun e w' => e = .returned (.agg (row 16 (wv s)).toArray) ∧ Ext X w'))
    (hrs : ∀ X, Hid (Calls Tryd.prog 15 #[.agg (row 16 (wv v)).toArray] X fun e w' => e = .returned (.agg (row 16 (wv s)).toArray) ∧ Ext X w'))
    (w0 : World) (hC : Hid (TabC w0)) (hM : Hid (TabM w0)) :
    Calls Tryd.prog 4 #[.agg (row 128 (wv x)).toArray, .agg (row 128 (wv y)).toArray, .agg (row 16 (wv v)).toArray] w0 fun e w' => e = .returned (.bool true) ∧ Ext w0 w' := by
  have hE0 := hideit (Ext.refl w0)
  go_enter Tryd.func4, Tryd.ntmps4
  go_upto_region 0 with (fail)
  refine wp_region_lit ?_
  have A1 := hideit (RowAt.new w0 128 (wv x) 31)
  have M3 : Ext w0 (w0.alloc (.cells (row 128 (wv x)).toArray 31)) := (Below.refl _ _).alloc (Nat.le_refl _) _
  have hE1 := hideit (Ext.trans hE0.out M3)
  clear M3 hE0
  refine wpList_to rfl (.pointer (some ⟨w0.heap.size, 0, none⟩)) (w0.alloc (.cells (row 128 (wv x)).toArray 31)) (by simp [go_sem]) ?_
  simp only [Act.put, List.setIfInBounds_toArray, List.set_cons_zero, List.set_cons_succ]
  generalize w0.alloc (.cells (row 128 (wv x)).toArray 31) = w1 at *
  generalize w0.heap.size = a at A1 ⊢
  have B2 := hideit (RowAt.new w1 128 (wv y) 31)
  have M3 : Ext w1 (w1.alloc (.cells (row 128 (wv y)).toArray 31)) := (Below.refl _ _).alloc (Nat.le_refl _) _
  have A2 := hideit (A1.out.carry M3)
  have hE2 := hideit (Ext.trans hE1.out M3)
  clear M3 hE1 A1
  refine wpList_to rfl (.pointer (some ⟨w1.heap.size, 0, none⟩)) (w1.alloc (.cells (row 128 (wv y)).toArray 31)) (by simp [go_sem]) ?_
  simp only [Act.put, List.setIfInBounds_toArray, List.set_cons_zero, List.set_cons_succ]
  generalize w1.alloc (.cells (row 128 (wv y)).toArray 31) = w2 at *
  generalize w1.heap.size = b at *
  have D3 := hideit (RowAt.new w2 16 (wv v) 32)
  have M3 : Ext w2 (w2.alloc (.cells (row 16 (wv v)).toArray 32)) := (Below.refl _ _).alloc (Nat.le_refl _) _
  have A3 := hideit (A2.out.carry M3)
  have B3 := hideit (B2.out.carry M3)
  have hE3 := hideit (Ext.trans hE2.out M3)
  clear M3 hE2 A2 B2
  refine wpList_to rfl (.pointer (some ⟨w2.heap.size, 0, none⟩)) (w2.alloc (.cells (row 16 (wv v)).toArray 32)) (by simp [go_sem]) ?_
  simp only [Act.put, List.setIfInBounds_toArray, List.set_cons_zero, List.set_cons_succ]
  generalize w2.alloc (.cells (row 16 (wv v)).toArray 32) = w3 at *
  generalize w2.heap.size = d at *
  refine wpList_run rfl (.bool false) (by simp [go_sem]) ?_
  simp only [Act.put, List.setIfInBounds_toArray, List.set_cons_zero, List.set_cons_succ]
  go_upto_region 1 with (fail)
  refine wp_region_lit ?_
  refine wpList_load_mid rfl 31 (.tmp 3) rfl a 0 rfl (row 128 (wv x)) _ A3.out.range Tryd.underlying31 rfl (by rw [row_length]; exact infoPg) ?_
  simp only [Act.put, List.setIfInBounds_toArray, List.set_cons_zero, List.set_cons_succ]
  refine wpList_load_mid rfl 31 (.tmp 4) rfl b 0 rfl (row 128 (wv y)) _ B3.out.range Tryd.underlying31 rfl (by rw [row_length]; exact infoPg) ?_
  simp only [Act.put, List.setIfInBounds_toArray, List.set_cons_zero, List.set_cons_succ]
  refine wpList_call rfl (by simp [go_sem]; exact ⟨rfl, rfl⟩) ?_
  refine ((hp w3).out (hM.out.ext hE3.out)).mono ?_
  rintro e w4 ⟨rfl, hX⟩
  refine ⟨_, rfl, ?_⟩
  simp only [Act.put, List.setIfInBounds_toArray, List.set_cons_zero, List.set_cons_succ]
  have A4 := hideit (A3.out.carry hX)
  have B4 := hideit (B3.out.carry hX)
  have D4 := hideit (D3.out.carry hX)
  have hE4 := hideit (Ext.trans hE3.out hX)
  clear hX hE3 A3 B3 D3
  have M1 := hideit (RowAt.new w4 128 (wv fun _ => 0#64) 31)
  have M3 : Ext w4 ((w4.alloc (.cells (row 128 (wv fun _ => 0#64)).toArray 31)).setCells w4.heap.size 0 (row 128 (wv r))) := below_setCells w4.heap.size (Nat.le_refl _) _ 0 _ ((Below.refl _ _).alloc (Nat.le_refl _) _)
  have P5 := hideit (M1.out.cells (g' := wv r))
  refine wpList_to rfl (.pointer (some ⟨w4.heap.size, 0, none⟩)) (w4.alloc (.cells (row 128 (wv fun _ => 0#64)).toArray 31)) (by simp [go_sem, zero31p]) ?_
  simp only [Act.put, List.setIfInBounds_toArray, List.set_cons_zero, List.set_cons_succ]
  refine wpList_store_mid rfl 31 (.tmp 7) (.tmp 10) rfl w4.heap.size 0 (row 128 (wv r)).toArray rfl rfl (by rw [row_size]; exact M1.out.there) (by rw [row_size]; exact infoPg) (row_one fun _ _ => rfl) ?_
  rw [show (row 128 (wv r)).toArray.toList = row 128 (wv r) from rfl]
  have A5 := hideit (A4.out.carry M3)
  have B5 := hideit (B4.out.carry M3)
  have D5 := hideit (D4.out.carry M3)
  have hE5 := hideit (Ext.trans hE4.out M3)
  clear M3 hE4 A4 B4 D4
  generalize (w4.alloc (.cells (row 128 (wv fun _ => 0#64)).toArray 31)).setCells w4.heap.size 0 (row 128 (wv r)) = w5 at *
  generalize w4.heap.size = q at *
  clear M1
  simp only [Act.put]
  go_upto_region 2 with (fail)
  obtain ⟨px, hpx⟩ : ∃ u, u = (.agg (row 128 (wv x)).toArray : Value) := ⟨_, rfl⟩
  obtain ⟨py, hpy⟩ : ∃ u, u = (.agg (row 128 (wv y)).toArray : Value) := ⟨_, rfl⟩
  obtain ⟨pr, hpr⟩ : ∃ u, u = (.agg (row 128 (wv r)).toArray : Value) := ⟨_, rfl⟩
  obtain ⟨pz, hpz⟩ : ∃ u, u = (.agg (row 128 (wv zP)).toArray : Value) := ⟨_, rfl⟩
  obtain ⟨sv, hsv⟩ : ∃ u, u = (.agg (row 16 (wv v)).toArray : Value) := ⟨_, rfl⟩
  obtain ⟨ss, hss⟩ : ∃ u, u = (.agg (row 16 (wv s)).toArray : Value) := ⟨_, rfl⟩
  have q1 : ∀ X : World, (binOp .eql 31 pr pr).run Tryd.prog X = .ok (.bool true) X := fun X => by rw [hpr]; exact run_eql_refl 31 29 128 .u64 Tryd.underlying31 Tryd.underlying29 size29 (fun j => ((r j).toNat : Int)) X
  have g1 : ∀ (x y : Operand) (X : World), (eqGuard BinOp.eql 31 x y pr pr).run Tryd.prog X = .ok () X := fun x y X => by rw [hpr]; exact run_eqGuard_agg X .eql 31 x y _ _ (by kernel_rfl)
  have q2 : ∀ X : World, (binOp .eql 31 pz pz).run Tryd.prog X = .ok (.bool true) X := fun X => by rw [hpz]; exact run_eql_refl 31 29 128 .u64 Tryd.underlying31 Tryd.underlying29 size29 (fun j => ((zP j).toNat : Int)) X
  have g2 : ∀ (x y : Operand) (X : World), (eqGuard BinOp.eql 31 x y pz pz).run Tryd.prog X = .ok () X := fun x y X => by rw [hpz]; exact run_eqGuard_agg X .eql 31 x y _ _ (by kernel_rfl)
  have q3 : ∀ X : World, (binOp .eql 32 ss ss).run Tryd.prog X = .ok (.bool true) X := fun X => by rw [hss]; exact run_eql_refl 32 29 16 .u64 Tryd.underlying32 Tryd.underlying29 size29 (fun j => ((s j).toNat : Int)) X
  have g3 : ∀ (x y : Operand) (X : World), (eqGuard BinOp.eql 32 x y ss ss).run Tryd.prog X = .ok () X := fun x y X => by rw [hss]; exact run_eqGuard_agg X .eql 32 x y _ _ (by kernel_rfl)
  have zz : ∀ X : World, Sem.run Tryd.prog (zeroValue 31) X = .ok pz X := fun X => by rw [hpz]; exact zero31p X
  have k13 : Hid (∀ X : World, Calls Tryd.prog 13 #[px, py] X fun e w' => e = .returned pr ∧ Ext X w') := fun X => by rw [hpx, hpy, hpr]; exact (hrp X).out
  have k12 : Hid (∀ X : World, TabM X → Calls Tryd.prog 12 #[py, px] X fun e w' => e = .returned pr ∧ Ext X w') := fun X hX => by rw [hpx, hpy, hpr]; exact (hq X).out hX
  have kz : Hid (∀ X : World, TabM X → Calls Tryd.prog 12 #[px, px] X fun e w' => e = .returned pz ∧ Ext X w') := fun X hX => by rw [hpx, hpz]; exact (hz X).out hX
  have k14 : Hid (∀ X : World, TabM X → Calls Tryd.prog 14 #[sv] X fun e w' => e = .returned ss ∧ Ext X w') := fun X hX => by rw [hsv, hss]; exact (hs X).out hX
  have k15 : Hid (∀ X : World, Calls Tryd.prog 15 #[sv] X fun e w' => e = .returned ss ∧ Ext X w') := fun X => by rw [hsv, hss]; exact (hrs X).out
  replace hpx := hideit hpx
  replace hpy := hideit hpy
  replace hpr := hideit hpr
  replace hpz := hideit hpz
  replace hsv := hideit hsv
  replace hss := hideit hss
  clear hp hrp hq hz hs hrs
  have hd : Hid (Ext w5 w5.drew) := hideit ((Ext.refl w5).draw)
  refine wp_region_lad (fun X => Ext w5.drew X) [(true, 0), (false, 1), (false, 2), (false, 3), (false, 4), (true, 5), (false, 6), (false, 7), (false, 8), (false, 9), (false, 10), (false, 12), (true, 11), (false, 13), (false, 14), (false, 15), (false, 16), (false, 17), (false, 19), (true, 18), (false, 20), (false, 21), (false, 22), (false, 23), (false, 25), (true, 24), (true, 26), (false, 27), (false, 28), (false, 29)] (by kernel_rfl) (by kernel_rfl) (by decide +kernel) (by decide +kernel) (by decide +kernel) (by decide +kernel) (Ext.refl _) ?_
  refine wpX_call _ rfl rfl (by simp [go_sem]) ((lives_any w5.drew (hC.out.ext (Ext.trans hE5.out hd.out))).mono ?_)
  rintro e z0 ⟨rfl, hX0⟩
  refine ⟨_, rfl, fun X => Ext z0 X, fun X hX => Ext.trans hX0 hX, Ext.refl _, ?_⟩
  replace hd := hideit (Ext.trans hd.out hX0)
  clear hX0
  simp only [List.getElem_toArray, List.getElem_cons_zero, Act.put, List.setIfInBounds_toArray, List.set_cons_zero, List.set_cons_succ]
  refine wpX_f _ (.bool true) rfl rfl (fun X _ => by simp [go_sem]) ?_
  simp only [List.getElem_toArray, List.getElem_cons_zero, List.getElem_cons_succ, Act.put, List.setIfInBounds_toArray, List.set_cons_zero, List.set_cons_succ]
  refine wpX_f _ pr rfl rfl (fun X hX => (run_ldX 31 (.tmp 7) q 128 (wv r) rfl rfl (P5.out.carry (Ext.trans hd.out hX)) Tryd.underlying31 rfl infoPg).trans (by rw [hpr.out])) ?_
  simp only [List.getElem_toArray, List.getElem_cons_zero, List.getElem_cons_succ, Act.put, List.setIfInBounds_toArray, List.set_cons_zero, List.set_cons_succ]
  refine wpX_f _ px rfl rfl (fun X hX => (run_ldX 31 (.tmp 3) a 128 (wv x) rfl rfl (A5.out.carry (Ext.trans hd.out hX)) Tryd.underlying31 rfl infoPg).trans (by rw [hpx.out])) ?_
  simp only [List.getElem_toArray, List.getElem_cons_zero, List.getElem_cons_succ, Act.put, List.setIfInBounds_toArray, List.set_cons_zero, List.set_cons_succ]
  refine wpX_f _ py rfl rfl (fun X hX => (run_ldX 31 (.tmp 4) b 128 (wv y) rfl rfl (B5.out.carry (Ext.trans hd.out hX)) Tryd.underlying31 rfl infoPg).trans (by rw [hpy.out])) ?_
  simp only [List.getElem_toArray, List.getElem_cons_zero, List.getElem_cons_succ, Act.put, List.setIfInBounds_toArray, List.set_cons_zero, List.set_cons_succ]
  refine wpX_call _ rfl rfl (by simp [go_sem]) ((k13.out z0).mono ?_)
  rintro e z1 ⟨rfl, hX1⟩
  refine ⟨_, rfl, fun X => Ext z1 X, fun X hX => Ext.trans hX1 hX, Ext.refl _, ?_⟩
  replace hd := hideit (Ext.trans hd.out hX1)
  clear hX1
  simp only [List.getElem_toArray, List.getElem_cons_zero, List.getElem_cons_succ, Act.put, List.setIfInBounds_toArray, List.set_cons_zero, List.set_cons_succ]
  refine wpX_f _ (.bool true) rfl rfl (fun X _ => by simp [go_sem, q1, g1]) ?_
  simp only [List.getElem_toArray, List.getElem_cons_zero, List.getElem_cons_succ, Act.put, List.setIfInBounds_toArray, List.set_cons_zero, List.set_cons_succ]
  refine wpX_f _ (.bool true) rfl rfl (fun X _ => by simp [go_sem]) ?_
  simp only [List.getElem_toArray, List.getElem_cons_zero, List.getElem_cons_succ, Act.put, List.setIfInBounds_toArray, List.set_cons_zero, List.set_cons_succ]
  refine wpX_f _ (.bool true) rfl rfl (fun X _ => by simp [go_sem]) ?_
  simp only [List.getElem_toArray, List.getElem_cons_zero, List.getElem_cons_succ, Act.put, List.setIfInBounds_toArray, List.set_cons_zero, List.set_cons_succ]
  refine wpX_f _ py rfl rfl (fun X hX => (run_ldX 31 (.tmp 4) b 128 (wv y) rfl rfl (B5.out.carry (Ext.trans hd.out hX)) Tryd.underlying31 rfl infoPg).trans (by rw [hpy.out])) ?_
  simp only [List.getElem_toArray, List.getElem_cons_zero, List.getElem_cons_succ, Act.put, List.setIfInBounds_toArray, List.set_cons_zero, List.set_cons_succ]
  refine wpX_f _ px rfl rfl (fun X hX => (run_ldX 31 (.tmp 3) a 128 (wv x) rfl rfl (A5.out.carry (Ext.trans hd.out hX)) Tryd.underlying31 rfl infoPg).trans (by rw [hpx.out])) ?_
  simp only [List.getElem_toArray, List.getElem_cons_zero, List.getElem_cons_succ, Act.put, List.setIfInBounds_toArray, List.set_cons_zero, List.set_cons_succ]
  refine wpX_f _ pr rfl rfl (fun X hX => (run_ldX 31 (.tmp 7) q 128 (wv r) rfl rfl (P5.out.carry (Ext.trans hd.out hX)) Tryd.underlying31 rfl infoPg).trans (by rw [hpr.out])) ?_
  simp only [List.getElem_toArray, List.getElem_cons_zero, List.getElem_cons_succ, Act.put, List.setIfInBounds_toArray, List.set_cons_zero, List.set_cons_succ]
  refine wpX_call _ rfl rfl (by simp [go_sem]) ((k12.out z1 (hM.out.ext (Ext.trans hE5.out hd.out))).mono ?_)
  rintro e z2 ⟨rfl, hX2⟩
  refine ⟨_, rfl, fun X => Ext z2 X, fun X hX => Ext.trans hX2 hX, Ext.refl _, ?_⟩
  replace hd := hideit (Ext.trans hd.out hX2)
  clear hX2
  simp only [List.getElem_toArray, List.getElem_cons_zero, List.getElem_cons_succ, Act.put, List.setIfInBounds_toArray, List.set_cons_zero, List.set_cons_succ]
  refine wpX_f _ (.bool true) rfl rfl (fun X _ => by simp [go_sem, q1, g1]) ?_
  simp only [List.getElem_toArray, List.getElem_cons_zero, List.getElem_cons_succ, Act.put, List.setIfInBounds_toArray, List.set_cons_zero, List.set_cons_succ]
  refine wpX_f _ (.bool true) rfl rfl (fun X _ => by simp [go_sem]) ?_
  simp only [List.getElem_toArray, List.getElem_cons_zero, List.getElem_cons_succ, Act.put, List.setIfInBounds_toArray, List.set_cons_zero, List.set_cons_succ]
  refine wpX_f _ (.bool true) rfl rfl (fun X _ => by simp [go_sem]) ?_
  simp only [List.getElem_toArray, List.getElem_cons_zero, List.getElem_cons_succ, Act.put, List.setIfInBounds_toArray, List.set_cons_zero, List.set_cons_succ]
  refine wpX_f _ px rfl rfl (fun X hX => (run_ldX 31 (.tmp 3) a 128 (wv x) rfl rfl (A5.out.carry (Ext.trans hd.out hX)) Tryd.underlying31 rfl infoPg).trans (by rw [hpx.out])) ?_
  simp only [List.getElem_toArray, List.getElem_cons_zero, List.getElem_cons_succ, Act.put, List.setIfInBounds_toArray, List.set_cons_zero, List.set_cons_succ]
  refine wpX_f _ px rfl rfl (fun X hX => (run_ldX 31 (.tmp 3) a 128 (wv x) rfl rfl (A5.out.carry (Ext.trans hd.out hX)) Tryd.underlying31 rfl infoPg).trans (by rw [hpx.out])) ?_
  simp only [List.getElem_toArray, List.getElem_cons_zero, List.getElem_cons_succ, Act.put, List.setIfInBounds_toArray, List.set_cons_zero, List.set_cons_succ]
  refine wpX_f _ pz rfl rfl (fun X _ => by
      simp [go_sem, zz]
      first | (obtain rfl := hpz.out; rfl) | (cases hpz.out; rfl)) ?_
  simp only [List.getElem_toArray, List.getElem_cons_zero, List.getElem_cons_succ, Act.put, List.setIfInBounds_toArray, List.set_cons_zero, List.set_cons_succ]
  refine wpX_call _ rfl rfl (by simp [go_sem]) ((kz.out z2 (hM.out.ext (Ext.trans hE5.out hd.out))).mono ?_)
  rintro e z3 ⟨rfl, hX3⟩
  refine ⟨_, rfl, fun X => Ext z3 X, fun X hX => Ext.trans hX3 hX, Ext.refl _, ?_⟩
  replace hd := hideit (Ext.trans hd.out hX3)
  clear hX3
  simp only [List.getElem_toArray, List.getElem_cons_zero, List.getElem_cons_succ, Act.put, List.setIfInBounds_toArray, List.set_cons_zero, List.set_cons_succ]
  refine wpX_f _ (.bool true) rfl rfl (fun X _ => by simp [go_sem, q2, g2]) ?_
  simp only [List.getElem_toArray, List.getElem_cons_zero, List.getElem_cons_succ, Act.put, List.setIfInBounds_toArray, List.set_cons_zero, List.set_cons_succ]
  refine wpX_f _ (.bool true) rfl rfl (fun X _ => by simp [go_sem]) ?_
  simp only [List.getElem_toArray, List.getElem_cons_zero, List.getElem_cons_succ, Act.put, List.setIfInBounds_toArray, List.set_cons_zero, List.set_cons_succ]
  refine wpX_f _ (.bool true) rfl rfl (fun X _ => by simp [go_sem]) ?_
  simp only [List.getElem_toArray, List.getElem_cons_zero, List.getElem_cons_succ, Act.put, List.setIfInBounds_toArray, List.set_cons_zero, List.set_cons_succ]
  refine wpX_f _ sv rfl rfl (fun X hX => (run_ldX 32 (.tmp 5) d 16 (wv v) rfl rfl (D5.out.carry (Ext.trans hd.out hX)) Tryd.underlying32 rfl info46).trans (by rw [hsv.out])) ?_
  simp only [List.getElem_toArray, List.getElem_cons_zero, List.getElem_cons_succ, Act.put, List.setIfInBounds_toArray, List.set_cons_zero, List.set_cons_succ]
  refine wpX_f _ sv rfl rfl (fun X hX => (run_ldX 32 (.tmp 5) d 16 (wv v) rfl rfl (D5.out.carry (Ext.trans hd.out hX)) Tryd.underlying32 rfl info46).trans (by rw [hsv.out])) ?_
  simp only [List.getElem_toArray, List.getElem_cons_zero, List.getElem_cons_succ, Act.put, List.setIfInBounds_toArray, List.set_cons_zero, List.set_cons_succ]
  refine wpX_call _ rfl rfl (by simp [go_sem]) ((k14.out z3 (hM.out.ext (Ext.trans hE5.out hd.out))).mono ?_)
  rintro e z4 ⟨rfl, hX4⟩
  refine ⟨_, rfl, fun X => Ext z4 X, fun X hX => Ext.trans hX4 hX, Ext.refl _, ?_⟩
  replace hd := hideit (Ext.trans hd.out hX4)
  clear hX4
  simp only [List.getElem_toArray, List.getElem_cons_zero, List.getElem_cons_succ, Act.put, List.setIfInBounds_toArray, List.set_cons_zero, List.set_cons_succ]
  refine wpX_call _ rfl rfl (by simp [go_sem]) ((k15.out z4).mono ?_)
  rintro e z5 ⟨rfl, hX5⟩
  refine ⟨_, rfl, fun X => Ext z5 X, fun X hX => Ext.trans hX5 hX, Ext.refl _, ?_⟩
  replace hd := hideit (Ext.trans hd.out hX5)
  clear hX5
  simp only [List.getElem_toArray, List.getElem_cons_zero, List.getElem_cons_succ, Act.put, List.setIfInBounds_toArray, List.set_cons_zero, List.set_cons_succ]
  refine wpX_f _ (.bool true) rfl rfl (fun X _ => by simp [go_sem, q3, g3]) ?_
  simp only [List.getElem_toArray, List.getElem_cons_zero, List.getElem_cons_succ, Act.put, List.setIfInBounds_toArray, List.set_cons_zero, List.set_cons_succ]
  refine wpX_f _ (.bool true) rfl rfl (fun X _ => by simp [go_sem]) ?_
  simp only [List.getElem_toArray, List.getElem_cons_zero, List.getElem_cons_succ, Act.put, List.setIfInBounds_toArray, List.set_cons_zero, List.set_cons_succ]
  refine wpX_f _ (.bool true) rfl rfl (fun X _ => by simp [go_sem]) ?_
  simp only [List.getElem_toArray, List.getElem_cons_zero, List.getElem_cons_succ, Act.put, List.setIfInBounds_toArray, List.set_cons_zero, List.set_cons_succ]
  refine wpX_nil ?_
  have hF := hideit (Ext.trans hE5.out hd.out)
  clear q1 g1 q2 g2 q3 g3 zz k13 k12 kz k14 k15 hd hE5 A5 B5 D5 P5
  go_wp2
  go_ret
  exact ⟨rfl, hF.out⟩
theorem pages_walk (x y v : Nat → BitVec 64) (w : World) (hC : TabC w) (hM : TabM w) :
    Calls Tryd.prog 4 #[.agg (row 128 (wv x)).toArray, .agg (row 128 (wv y)).toArray, .agg (row 16 (wv v)).toArray] w fun e w' => e = .returned (.bool true) ∧ Ext w w' :=
  pages_law x y (pagesF x y) v (stK v 8) (fun X h => pages_any x y X h) (fun X h => by rw [pages_comm x y]; exact pages_any y x X h) (fun X h => by rw [← pages_zero x]; exact pages_any x x X h)
    (fun X => rpages_any x y X) (fun X h => Stir_any v X h) (fun X => rStir_any v X) w hC hM
end Go.Proofs.YtfbmeclpcgdmhaaDoor
