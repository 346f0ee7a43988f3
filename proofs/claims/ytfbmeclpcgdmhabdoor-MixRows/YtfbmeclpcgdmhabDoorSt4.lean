/-
  Sixteen words stirred: the document's answer.
-/
import Derived.Test.YtfbmeclpcgdmhabDoorSt3
namespace Go.Proofs.YtfbmeclpcgdmhabDoor
open Go.RowKit Go.BigFrame
set_option maxRecDepth 20000 in
set_option maxHeartbeats 4000000 in
theorem rStir_any (v : Nat → BitVec 64) (w : World) :
    Calls Tryd.prog 65 #[.agg (row 16 (wv v)).toArray] w fun e w' => e = .returned (.agg (row 16 (wv (stK v 8))).toArray) ∧ Ext w w' := by
  have hz := zero46
  obtain ⟨F, hF⟩ : ∃ F, F = stK v := ⟨_, rfl⟩
  have hF0 : Hid (F 0 = v) := by rw [hF]; rfl
  have hF1 : Hid (F 1 = rowSt (F 0) 0 4 8 12) := by rw [hF]; rfl
  have hF2 : Hid (F 2 = rowSt (F 1) 1 5 9 13) := by rw [hF]; rfl
  have hF3 : Hid (F 3 = rowSt (F 2) 2 6 10 14) := by rw [hF]; rfl
  have hF4 : Hid (F 4 = rowSt (F 3) 3 7 11 15) := by rw [hF]; rfl
  have hF5 : Hid (F 5 = rowSt (F 4) 0 5 10 15) := by rw [hF]; rfl
  have hF6 : Hid (F 6 = rowSt (F 5) 1 6 11 12) := by rw [hF]; rfl
  have hF7 : Hid (F 7 = rowSt (F 6) 2 7 8 13) := by rw [hF]; rfl
  have hF8 : Hid (F 8 = rowSt (F 7) 3 4 9 14) := by rw [hF]; rfl
  rw [← hF]
  clear hF
  go_enter Tryd.func65, Tryd.ntmps65
  go_upto_region 1 with (fail)
  have HM : SS w w.heap.size (F 0) ((w.alloc (.cells (row 16 (wv v)).toArray 25)).alloc (.cells (row 16 (wv fun _ => 0#64)).toArray 25)) := by
    rw [hF0.out]
    refine ⟨((Below.refl _ _).alloc (Nat.le_refl _) _).alloc (by simp) _, (RowAt.new w 16 (wv v) 25).alloc _, ?_⟩
    have := RowAt.new (w.alloc (.cells (row 16 (wv v)).toArray 25)) 16 (wv fun _ => 0#64) 25
    simpa using this
  have H0 := hideit HM
  clear HM
  generalize (w.alloc (.cells (row 16 (wv v)).toArray 25)).alloc (.cells (row 16 (wv fun _ => 0#64)).toArray 25) = w0 at *
  obtain ⟨b, hb⟩ : ∃ b, b = w.heap.size := ⟨_, rfl⟩
  have hb0 : Hid (w.heap.size ≤ b) := hideit (by omega)
  rw [← hb] at H0 ⊢
  clear hb
  have kc := four_any (F 0) 0 4 8 12 (by decide) (by decide) (by decide) (by decide) (by decide) (by decide) (by decide) (by decide) (by decide) (by decide)
  rw [← hF1.out] at kc
  replace kc := hideit kc
  go_upto_region 1 with (fail)
  refine wp_region_lit ?_
  refine wpList_load_mid rfl 25 (.tmp 1) rfl b 0 rfl (row 16 (wv (F 0))) _ H0.out.st.range Tryd.underlying25 rfl (by rw [row_length]; exact info46) ?_
  simp only [Act.put, List.setIfInBounds_toArray, List.set_cons_zero, List.set_cons_succ]
  refine wpList_call rfl (by simp [go_sem]; exact ⟨rfl, rfl⟩) ?_
  refine (kc.out w0).mono ?_
  rintro e x0 ⟨rfl, hX⟩
  refine ⟨_, rfl, ?_⟩
  simp only [Act.put, List.setIfInBounds_toArray, List.set_cons_zero, List.set_cons_succ]
  have HX := hideit (H0.out.carry hX)
  refine wpList_store_mid rfl 25 (.tmp 1) (.tmp 4) rfl b 0 (row 16 (wv (F 1))).toArray rfl rfl (by rw [row_size]; exact HX.out.st.there) (by rw [row_size]; exact info46) (row_one fun _ _ => rfl) ?_
  rw [show (row 16 (wv (F 1))).toArray.toList = row 16 (wv (F 1)) from rfl]
  have H1 : Hid (SS w b (F 1) (x0.setCells b 0 (row 16 (wv (F 1))))) := hideit ⟨below_setCells b hb0.out _ 0 _ HX.out.ext, HX.out.st.cells, HX.out.res.cellsOther (by omega) _ 0⟩
  clear HX H0 kc hX
  generalize x0.setCells b 0 (row 16 (wv (F 1))) = w1 at *
  simp only [Act.put]
  have kc := four_any (F 1) 1 5 9 13 (by decide) (by decide) (by decide) (by decide) (by decide) (by decide) (by decide) (by decide) (by decide) (by decide)
  rw [← hF2.out] at kc
  replace kc := hideit kc
  go_upto_region 2 with (fail)
  refine wp_region_lit ?_
  refine wpList_load_mid rfl 25 (.tmp 1) rfl b 0 rfl (row 16 (wv (F 1))) _ H1.out.st.range Tryd.underlying25 rfl (by rw [row_length]; exact info46) ?_
  simp only [Act.put, List.setIfInBounds_toArray, List.set_cons_zero, List.set_cons_succ]
  refine wpList_call rfl (by simp [go_sem]; exact ⟨rfl, rfl⟩) ?_
  refine (kc.out w1).mono ?_
  rintro e x1 ⟨rfl, hX⟩
  refine ⟨_, rfl, ?_⟩
  simp only [Act.put, List.setIfInBounds_toArray, List.set_cons_zero, List.set_cons_succ]
  have HX := hideit (H1.out.carry hX)
  refine wpList_store_mid rfl 25 (.tmp 1) (.tmp 6) rfl b 0 (row 16 (wv (F 2))).toArray rfl rfl (by rw [row_size]; exact HX.out.st.there) (by rw [row_size]; exact info46) (row_one fun _ _ => rfl) ?_
  rw [show (row 16 (wv (F 2))).toArray.toList = row 16 (wv (F 2)) from rfl]
  have H2 : Hid (SS w b (F 2) (x1.setCells b 0 (row 16 (wv (F 2))))) := hideit ⟨below_setCells b hb0.out _ 0 _ HX.out.ext, HX.out.st.cells, HX.out.res.cellsOther (by omega) _ 0⟩
  clear HX H1 kc hX
  generalize x1.setCells b 0 (row 16 (wv (F 2))) = w2 at *
  simp only [Act.put]
  have kc := four_any (F 2) 2 6 10 14 (by decide) (by decide) (by decide) (by decide) (by decide) (by decide) (by decide) (by decide) (by decide) (by decide)
  rw [← hF3.out] at kc
  replace kc := hideit kc
  go_upto_region 3 with (fail)
  refine wp_region_lit ?_
  refine wpList_load_mid rfl 25 (.tmp 1) rfl b 0 rfl (row 16 (wv (F 2))) _ H2.out.st.range Tryd.underlying25 rfl (by rw [row_length]; exact info46) ?_
  simp only [Act.put, List.setIfInBounds_toArray, List.set_cons_zero, List.set_cons_succ]
  refine wpList_call rfl (by simp [go_sem]; exact ⟨rfl, rfl⟩) ?_
  refine (kc.out w2).mono ?_
  rintro e x2 ⟨rfl, hX⟩
  refine ⟨_, rfl, ?_⟩
  simp only [Act.put, List.setIfInBounds_toArray, List.set_cons_zero, List.set_cons_succ]
  have HX := hideit (H2.out.carry hX)
  refine wpList_store_mid rfl 25 (.tmp 1) (.tmp 8) rfl b 0 (row 16 (wv (F 3))).toArray rfl rfl (by rw [row_size]; exact HX.out.st.there) (by rw [row_size]; exact info46) (row_one fun _ _ => rfl) ?_
  rw [show (row 16 (wv (F 3))).toArray.toList = row 16 (wv (F 3)) from rfl]
  have H3 : Hid (SS w b (F 3) (x2.setCells b 0 (row 16 (wv (F 3))))) := hideit ⟨below_setCells b hb0.out _ 0 _ HX.out.ext, HX.out.st.cells, HX.out.res.cellsOther (by omega) _ 0⟩
  clear HX H2 kc hX
  generalize x2.setCells b 0 (row 16 (wv (F 3))) = w3 at *
  simp only [Act.put]
  have kc := four_any (F 3) 3 7 11 15 (by decide) (by decide) (by decide) (by decide) (by decide) (by decide) (by decide) (by decide) (by decide) (by decide)
  rw [← hF4.out] at kc
  replace kc := hideit kc
  go_upto_region 4 with (fail)
  refine wp_region_lit ?_
  refine wpList_load_mid rfl 25 (.tmp 1) rfl b 0 rfl (row 16 (wv (F 3))) _ H3.out.st.range Tryd.underlying25 rfl (by rw [row_length]; exact info46) ?_
  simp only [Act.put, List.setIfInBounds_toArray, List.set_cons_zero, List.set_cons_succ]
  refine wpList_call rfl (by simp [go_sem]; exact ⟨rfl, rfl⟩) ?_
  refine (kc.out w3).mono ?_
  rintro e x3 ⟨rfl, hX⟩
  refine ⟨_, rfl, ?_⟩
  simp only [Act.put, List.setIfInBounds_toArray, List.set_cons_zero, List.set_cons_succ]
  have HX := hideit (H3.out.carry hX)
  refine wpList_store_mid rfl 25 (.tmp 1) (.tmp 10) rfl b 0 (row 16 (wv (F 4))).toArray rfl rfl (by rw [row_size]; exact HX.out.st.there) (by rw [row_size]; exact info46) (row_one fun _ _ => rfl) ?_
  rw [show (row 16 (wv (F 4))).toArray.toList = row 16 (wv (F 4)) from rfl]
  have H4 : Hid (SS w b (F 4) (x3.setCells b 0 (row 16 (wv (F 4))))) := hideit ⟨below_setCells b hb0.out _ 0 _ HX.out.ext, HX.out.st.cells, HX.out.res.cellsOther (by omega) _ 0⟩
  clear HX H3 kc hX
  generalize x3.setCells b 0 (row 16 (wv (F 4))) = w4 at *
  simp only [Act.put]
  have kc := four_any (F 4) 0 5 10 15 (by decide) (by decide) (by decide) (by decide) (by decide) (by decide) (by decide) (by decide) (by decide) (by decide)
  rw [← hF5.out] at kc
  replace kc := hideit kc
  go_upto_region 5 with (fail)
  refine wp_region_lit ?_
  refine wpList_load_mid rfl 25 (.tmp 1) rfl b 0 rfl (row 16 (wv (F 4))) _ H4.out.st.range Tryd.underlying25 rfl (by rw [row_length]; exact info46) ?_
  simp only [Act.put, List.setIfInBounds_toArray, List.set_cons_zero, List.set_cons_succ]
  refine wpList_call rfl (by simp [go_sem]; exact ⟨rfl, rfl⟩) ?_
  refine (kc.out w4).mono ?_
  rintro e x4 ⟨rfl, hX⟩
  refine ⟨_, rfl, ?_⟩
  simp only [Act.put, List.setIfInBounds_toArray, List.set_cons_zero, List.set_cons_succ]
  have HX := hideit (H4.out.carry hX)
  refine wpList_store_mid rfl 25 (.tmp 1) (.tmp 12) rfl b 0 (row 16 (wv (F 5))).toArray rfl rfl (by rw [row_size]; exact HX.out.st.there) (by rw [row_size]; exact info46) (row_one fun _ _ => rfl) ?_
  rw [show (row 16 (wv (F 5))).toArray.toList = row 16 (wv (F 5)) from rfl]
  have H5 : Hid (SS w b (F 5) (x4.setCells b 0 (row 16 (wv (F 5))))) := hideit ⟨below_setCells b hb0.out _ 0 _ HX.out.ext, HX.out.st.cells, HX.out.res.cellsOther (by omega) _ 0⟩
  clear HX H4 kc hX
  generalize x4.setCells b 0 (row 16 (wv (F 5))) = w5 at *
  simp only [Act.put]
  have kc := four_any (F 5) 1 6 11 12 (by decide) (by decide) (by decide) (by decide) (by decide) (by decide) (by decide) (by decide) (by decide) (by decide)
  rw [← hF6.out] at kc
  replace kc := hideit kc
  go_upto_region 6 with (fail)
  refine wp_region_lit ?_
  refine wpList_load_mid rfl 25 (.tmp 1) rfl b 0 rfl (row 16 (wv (F 5))) _ H5.out.st.range Tryd.underlying25 rfl (by rw [row_length]; exact info46) ?_
  simp only [Act.put, List.setIfInBounds_toArray, List.set_cons_zero, List.set_cons_succ]
  refine wpList_call rfl (by simp [go_sem]; exact ⟨rfl, rfl⟩) ?_
  refine (kc.out w5).mono ?_
  rintro e x5 ⟨rfl, hX⟩
  refine ⟨_, rfl, ?_⟩
  simp only [Act.put, List.setIfInBounds_toArray, List.set_cons_zero, List.set_cons_succ]
  have HX := hideit (H5.out.carry hX)
  refine wpList_store_mid rfl 25 (.tmp 1) (.tmp 14) rfl b 0 (row 16 (wv (F 6))).toArray rfl rfl (by rw [row_size]; exact HX.out.st.there) (by rw [row_size]; exact info46) (row_one fun _ _ => rfl) ?_
  rw [show (row 16 (wv (F 6))).toArray.toList = row 16 (wv (F 6)) from rfl]
  have H6 : Hid (SS w b (F 6) (x5.setCells b 0 (row 16 (wv (F 6))))) := hideit ⟨below_setCells b hb0.out _ 0 _ HX.out.ext, HX.out.st.cells, HX.out.res.cellsOther (by omega) _ 0⟩
  clear HX H5 kc hX
  generalize x5.setCells b 0 (row 16 (wv (F 6))) = w6 at *
  simp only [Act.put]
  have kc := four_any (F 6) 2 7 8 13 (by decide) (by decide) (by decide) (by decide) (by decide) (by decide) (by decide) (by decide) (by decide) (by decide)
  rw [← hF7.out] at kc
  replace kc := hideit kc
  go_upto_region 7 with (fail)
  refine wp_region_lit ?_
  refine wpList_load_mid rfl 25 (.tmp 1) rfl b 0 rfl (row 16 (wv (F 6))) _ H6.out.st.range Tryd.underlying25 rfl (by rw [row_length]; exact info46) ?_
  simp only [Act.put, List.setIfInBounds_toArray, List.set_cons_zero, List.set_cons_succ]
  refine wpList_call rfl (by simp [go_sem]; exact ⟨rfl, rfl⟩) ?_
  refine (kc.out w6).mono ?_
  rintro e x6 ⟨rfl, hX⟩
  refine ⟨_, rfl, ?_⟩
  simp only [Act.put, List.setIfInBounds_toArray, List.set_cons_zero, List.set_cons_succ]
  have HX := hideit (H6.out.carry hX)
  refine wpList_store_mid rfl 25 (.tmp 1) (.tmp 16) rfl b 0 (row 16 (wv (F 7))).toArray rfl rfl (by rw [row_size]; exact HX.out.st.there) (by rw [row_size]; exact info46) (row_one fun _ _ => rfl) ?_
  rw [show (row 16 (wv (F 7))).toArray.toList = row 16 (wv (F 7)) from rfl]
  have H7 : Hid (SS w b (F 7) (x6.setCells b 0 (row 16 (wv (F 7))))) := hideit ⟨below_setCells b hb0.out _ 0 _ HX.out.ext, HX.out.st.cells, HX.out.res.cellsOther (by omega) _ 0⟩
  clear HX H6 kc hX
  generalize x6.setCells b 0 (row 16 (wv (F 7))) = w7 at *
  simp only [Act.put]
  have kc := four_any (F 7) 3 4 9 14 (by decide) (by decide) (by decide) (by decide) (by decide) (by decide) (by decide) (by decide) (by decide) (by decide)
  rw [← hF8.out] at kc
  replace kc := hideit kc
  go_upto_region 8 with (fail)
  refine wp_region_lit ?_
  refine wpList_load_mid rfl 25 (.tmp 1) rfl b 0 rfl (row 16 (wv (F 7))) _ H7.out.st.range Tryd.underlying25 rfl (by rw [row_length]; exact info46) ?_
  simp only [Act.put, List.setIfInBounds_toArray, List.set_cons_zero, List.set_cons_succ]
  refine wpList_call rfl (by simp [go_sem]; exact ⟨rfl, rfl⟩) ?_
  refine (kc.out w7).mono ?_
  rintro e x7 ⟨rfl, hX⟩
  refine ⟨_, rfl, ?_⟩
  simp only [Act.put, List.setIfInBounds_toArray, List.set_cons_zero, List.set_cons_succ]
  have HX := hideit (H7.out.carry hX)
  refine wpList_store_mid rfl 25 (.tmp 2) (.tmp 18) rfl (b + 1) 0 (row 16 (wv (F 8))).toArray rfl rfl (by rw [row_size]; exact HX.out.res.there) (by rw [row_size]; exact info46) (row_one fun _ _ => rfl) ?_
  rw [show (row 16 (wv (F 8))).toArray.toList = row 16 (wv (F 8)) from rfl]
  have h9 := hideit (HX.out.res.cells (g' := wv (F 8)))
  have hE9 := hideit (below_setCells (b + 1) (by have := hb0.out; omega) (row 16 (wv (F 8))) 0 _ HX.out.ext)
  clear HX H7 kc hX
  generalize x7.setCells (b + 1) 0 (row 16 (wv (F 8))) = w8 at *
  simp only [Act.put]
  go_wp2
  exact bodyPost_ret (ret_row Tryd.results65 rfl h9.out Tryd.underlying25 rfl info46) rfl ⟨rfl, hE9.out⟩
def xrF (x y : Nat → BitVec 64) (j : Nat) : BitVec 64 := xW (x j) (y j)
def upX (x y : Nat → BitVec 64) (k j : Nat) : BitVec 64 := if j < k then xW (x j) (y j) else x j
theorem idxPg (p : Nat → BitVec 64) (n : Nat) (hn : n < 128) (X : World) : (Instr.index 24 (.agg (row 128 (wv p)).toArray) (.int .i64 (n : Int))).run Tryd.prog X = .ok (.int .u64 ((p n).toNat : Int)) X := by
  have hs : ∀ X, (sizeOf 22).run Tryd.prog X = .ok 1 X := fun X => by kernel_rfl
  have ha : ∀ X, (isAgg 22).run Tryd.prog X = .ok false X := fun X => by kernel_rfl
  have hg := row_get 128 (wv p) n hn
  simp [Instr.index, run_underlying Tryd.underlying24, asIntOf, hn, part, ha, hs, hg, go_sem, wv]
theorem idx16 (p : Nat → BitVec 64) (n : Nat) (hn : n < 16) (X : World) : (Instr.index 25 (.agg (row 16 (wv p)).toArray) (.int .i64 (n : Int))).run Tryd.prog X = .ok (.int .u64 ((p n).toNat : Int)) X := by
  have hs : ∀ X, (sizeOf 22).run Tryd.prog X = .ok 1 X := fun X => by kernel_rfl
  have ha : ∀ X, (isAgg 22).run Tryd.prog X = .ok false X := fun X => by kernel_rfl
  have hg := row_get 16 (wv p) n hn
  simp [Instr.index, run_underlying Tryd.underlying25, asIntOf, hn, part, ha, hs, hg, go_sem, wv]
end Go.Proofs.YtfbmeclpcgdmhabDoor
