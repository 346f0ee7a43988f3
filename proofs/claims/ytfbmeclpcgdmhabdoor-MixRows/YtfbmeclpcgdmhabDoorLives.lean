/-
  What must come of every program: lengths, refusals, the first and the last page of a window.
-/
import Derived.Test.YtfbmeclpcgdmhabDoorPg
import Derived.Test.YtfbmeclpcgdmhabDoorGrowV
namespace Go.Proofs.YtfbmeclpcgdmhabDoor
set_option maxRecDepth 20000
open Go.RowKit Go.BigFrame
theorem wK_zeros : ∀ n t, wK (fun _ => 0#8) n t = 0#64
  | 0, _ => rfl
  | n + 1, t => by
    simp only [wK]
    rw [wK_zeros n t]
    split
    · unfold oW shB
      simp
    · rfl
theorem pgW_zeros : pgW (fun _ => 0#8) = fun _ => 0#64 := by funext t; exact wK_zeros 1024 t
theorem size29 (w : World) : (sizeOf 22).run Tryd.prog w = .ok 1 w := by kernel_rfl
theorem eq_page (X : World) : (binOp .eql 24 (.agg (row 128 (wv fun _ => 0#64)).toArray) (.agg (row 128 (wv fun _ => 0#64)).toArray)).run Tryd.prog X = .ok (.bool true) X := run_eql_refl 24 22 128 .u64 Tryd.underlying24 Tryd.underlying22 size29 (fun _ => 0) X
set_option maxRecDepth 20000 in
set_option maxHeartbeats 4000000 in
theorem lives_any (w : World) (hC : TabC w) : Calls Tryd.prog 9 #[] w fun e w' => e = .returned (.bool true) ∧ Ext w w' := by
  have hz := zero31p
  replace hC := hideit hC
  obtain ⟨x1, hcv, hB1, hE1⟩ := constB w #[.int .u8 97] 1 (fun _ => 97#8) (fun j hj => by
    obtain rfl : j = 0 := by omega
    rfl)
  have hEa : Ext x1 (x1.alloc (.cells #[.slice (some ⟨w.heap.size, 0, none⟩) 1 1] 32)) := (Below.refl _ _).alloc (Nat.le_refl _) _
  have hp := partsOne x1 (.slice (some ⟨w.heap.size, 0, none⟩) 1 1) 1 (fun _ => 97#8) (hB1.ext hEa)
  have hlg := hideit (long_any 100 1 1 (by omega) (by omega) _ _ _ _ (allF (fun _ => 1) (fun _ _ => 97#8) 1) _ hp (hC.out.ext (Ext.trans hE1 hEa)) (by omega) rfl (fun _ _ => rfl))
  have hE2 := hideit (Ext.trans hE1 hEa)
  clear hp hEa hE1 hB1
  go_enter Tryd.func9, Tryd.ntmps9
  go_upto_region 1 with (fail)
  refine wp_region_lit ?_
  refine wpList_to rfl (.slice (some ⟨w.heap.size, 0, none⟩) 1 1) (w.alloc (.cells #[.int .u8 97] 5)) (by simp [go_sem]) ?_
  simp only [Act.put, List.setIfInBounds_toArray, List.set_cons_zero, List.set_cons_succ]
  refine wpList_to rfl (.slice (some ⟨w.heap.size, 0, none⟩) 1 1) x1 (by simp [go_sem, hcv]) ?_
  simp only [Act.put, List.setIfInBounds_toArray, List.set_cons_zero, List.set_cons_succ]
  refine wpList_to rfl (.slice (some ⟨x1.heap.size, 0, none⟩) 1 1) (x1.alloc (.cells #[.slice (some ⟨w.heap.size, 0, none⟩) 1 1] 32)) (by simp [go_sem]) ?_
  simp only [Act.put, List.setIfInBounds_toArray, List.set_cons_zero, List.set_cons_succ]
  refine wpList_call rfl (by simp [go_sem]) (hlg.out.mono ?_)
  rintro e w3 ⟨v3, rfl, hO3, hE3⟩
  refine ⟨_, rfl, ?_⟩
  have hE3' := hideit (Ext.trans hE2.out hE3)
  obtain ⟨o3, c3, rfl⟩ := hO3.bv.form
  clear hO3 hE3 hE2 hlg hcv
  simp only [Act.put, List.setIfInBounds_toArray, List.set_cons_zero, List.set_cons_succ]
  go_upto_region 3 with (go_at_call 21; refine (long_bad 0 _ (.inl (by omega)) _).mono ?_; rintro e w' ⟨rfl, hw'⟩; rw [hw']; clear hw')
  refine wp_region_lit ?_
  refine wpList_made w3 Tryd.underlying32 (by kernel_rfl) rfl (.const (.int .i64 1024)) (.const (.int .i64 1024)) rfl 1024 rfl rfl (by omega) ?_
  intro w4 hO4 hE4
  have hpg := page_any _ (fun _ => 0#8) w4 hO4.bv
  rw [pgW_zeros] at hpg
  have hE4' := hideit (Ext.trans hE3'.out hE4)
  simp only [Act.put, List.setIfInBounds_toArray, List.set_cons_zero, List.set_cons_succ]
  refine wpList_call rfl (by simp [go_sem]) (hpg.mono ?_)
  rintro e w5 ⟨rfl, hE5⟩
  refine ⟨_, rfl, ?_⟩
  have hE5' := hideit (Ext.trans hE4'.out hE5)
  clear hO4 hE4 hE3' hE4' hpg hE5
  simp only [Act.put, List.setIfInBounds_toArray, List.set_cons_zero, List.set_cons_succ]
  refine wpList_run rfl (.tuple #[.agg (row 128 (wv fun _ => 0#64)).toArray, .int .i64 0]) (by simp [go_sem]) ?_
  simp only [Act.put, List.setIfInBounds_toArray, List.set_cons_zero, List.set_cons_succ]
  refine wpList_run rfl (.agg (row 128 (wv fun _ => 0#64)).toArray) (by simp [go_sem]) ?_
  simp only [Act.put, List.setIfInBounds_toArray, List.set_cons_zero, List.set_cons_succ]
  refine wpList_run rfl (.int .i64 0) (by simp [go_sem]) ?_
  simp only [Act.put, List.setIfInBounds_toArray, List.set_cons_zero, List.set_cons_succ]
  have hN : RowAt w5.heap.size 128 (wv fun _ => 0#64) (w5.alloc (.cells (row 128 (wv fun _ => 0#64)).toArray 24)) := RowAt.new w5 128 _ 24
  have hE6 : Ext w (w5.alloc (.cells (row 128 (wv fun _ => 0#64)).toArray 24)) := Below.alloc hE5'.out (Below.size hE5'.out) _
  refine wpList_to rfl (.pointer (some ⟨w5.heap.size, 0, none⟩)) (w5.alloc (.cells (row 128 (wv fun _ => 0#64)).toArray 24)) (by simp [go_sem, hz]) ?_
  obtain ⟨b, hb⟩ : ∃ b, b = w5.heap.size := ⟨_, rfl⟩
  have hwb : w.heap.size ≤ b := by rw [hb]; exact Below.size hE5'.out
  rw [← hb] at hN ⊢
  generalize w5.alloc (.cells (row 128 (wv fun _ => 0#64)).toArray 24) = w6 at *
  simp only [Act.put, List.setIfInBounds_toArray, List.set_cons_zero, List.set_cons_succ]
  refine wpList_store_mid rfl 24 (.tmp 5) (.tmp 21) rfl b 0 (row 128 (wv fun _ => 0#64)).toArray rfl rfl (by rw [row_size]; exact hN.there) (by rw [row_size]; exact infoPg) (row_one fun _ _ => rfl) ?_
  have h7 : Hid (RowAt b 128 (wv fun _ => 0#64) (w6.setCells b 0 (row 128 (wv fun _ => 0#64)))) := hN.cells
  have hE7 : Hid (Ext w (w6.setCells b 0 (row 128 (wv fun _ => 0#64)))) := below_setCells _ hwb _ _ _ hE6
  rw [show (row 128 (wv fun _ => 0#64)).toArray.toList = row 128 (wv fun _ => 0#64) from rfl]
  generalize w6.setCells b 0 (row 128 (wv fun _ => 0#64)) = w7 at *
  clear hN hE6 hE5' hb
  simp only [Act.put]
  go_upto_region 4 with (fail)
  have heq := eq_page w7
  have hby := hideit (bytes_any (fun _ => 0#64) w7)
  obtain ⟨pg, hpg⟩ : ∃ pg, pg = (.agg (row 128 (wv fun _ => 0#64)).toArray : Value) := ⟨_, rfl⟩
  rw [← hpg] at heq hby
  rw [← hpg]
  have hbz : ∀ X, (Instr.build 24 #[]).run Tryd.prog X = .ok pg X := fun X => by rw [hpg]; simp [go_sem, hz]
  have hgd : ∀ (x y : Operand) (X : World), (eqGuard BinOp.eql 24 x y pg pg).run Tryd.prog X = .ok () X := fun x y X => by rw [hpg]; exact run_eqGuard_agg X .eql 24 x y _ _ (by kernel_rfl)
  replace hpg := hideit hpg
  clear hz
  refine wp_region_lit ?_
  refine wpList_run rfl (.int .i64 0) (by simp [go_sem]) ?_
  simp only [Act.put, List.setIfInBounds_toArray, List.set_cons_zero, List.set_cons_succ]
  refine wpList_run rfl (.bool true) (by simp [go_sem]) ?_
  simp only [Act.put, List.setIfInBounds_toArray, List.set_cons_zero, List.set_cons_succ]
  refine wpList_run rfl (.bool true) (by simp [go_sem]) ?_
  simp only [Act.put, List.setIfInBounds_toArray, List.set_cons_zero, List.set_cons_succ]
  refine wpList_runW rfl (.slice o3 100 c3) (by simp [go_sem]) ?_
  simp only [Act.put, List.setIfInBounds_toArray, List.set_cons_zero, List.set_cons_succ]
  refine wpList_runW rfl (.int .i64 100) (by simp [go_sem]) ?_
  simp only [Act.put, List.setIfInBounds_toArray, List.set_cons_zero, List.set_cons_succ]
  refine wpList_runW rfl (.bool true) (by simp [go_sem]) ?_
  simp only [Act.put, List.setIfInBounds_toArray, List.set_cons_zero, List.set_cons_succ]
  refine wpList_run rfl (.bool true) (by simp [go_sem]) ?_
  simp only [Act.put, List.setIfInBounds_toArray, List.set_cons_zero, List.set_cons_succ]
  refine wpList_run rfl (.bool true) (by simp [go_sem]) ?_
  simp only [Act.put, List.setIfInBounds_toArray, List.set_cons_zero, List.set_cons_succ]
  refine wpList_runW rfl (.int .i64 1) (by simp [go_sem]) ?_
  simp only [Act.put, List.setIfInBounds_toArray, List.set_cons_zero, List.set_cons_succ]
  refine wpList_runW rfl (.bool true) (by simp [go_sem]) ?_
  simp only [Act.put, List.setIfInBounds_toArray, List.set_cons_zero, List.set_cons_succ]
  refine wpList_run rfl (.bool true) (by simp [go_sem]) ?_
  simp only [Act.put, List.setIfInBounds_toArray, List.set_cons_zero, List.set_cons_succ]
  refine wpList_run rfl (.bool true) (by simp [go_sem]) ?_
  simp only [Act.put, List.setIfInBounds_toArray, List.set_cons_zero, List.set_cons_succ]
  refine wpList_runW rfl (.int .i64 0) (by simp [go_sem]) ?_
  simp only [Act.put, List.setIfInBounds_toArray, List.set_cons_zero, List.set_cons_succ]
  refine wpList_runW rfl (.bool true) (by simp [go_sem]) ?_
  simp only [Act.put, List.setIfInBounds_toArray, List.set_cons_zero, List.set_cons_succ]
  refine wpList_run rfl (.bool true) (by simp [go_sem]) ?_
  simp only [Act.put, List.setIfInBounds_toArray, List.set_cons_zero, List.set_cons_succ]
  refine wpList_run rfl (.bool true) (by simp [go_sem]) ?_
  simp only [Act.put, List.setIfInBounds_toArray, List.set_cons_zero, List.set_cons_succ]
  refine wpList_ungrd rfl (wpList_load_mid rfl 24 (.tmp 5) rfl b 0 rfl (row 128 (wv fun _ => 0#64)) _ h7.out.range Tryd.underlying24 rfl (by rw [row_length]; exact infoPg) ?_)
  rw [← hpg.out]
  simp only [Act.put, List.setIfInBounds_toArray, List.set_cons_zero, List.set_cons_succ]
  refine wpList_buildW rfl 24 [] rfl pg (by simpa using hbz w7) ?_
  simp only [Act.put, List.setIfInBounds_toArray, List.set_cons_zero, List.set_cons_succ]
  refine wpList_runW rfl (.bool true) (by simp [go_sem, heq, hgd]) ?_
  simp only [Act.put, List.setIfInBounds_toArray, List.set_cons_zero, List.set_cons_succ]
  refine wpList_run rfl (.bool true) (by simp [go_sem]) ?_
  simp only [Act.put, List.setIfInBounds_toArray, List.set_cons_zero, List.set_cons_succ]
  refine wpList_run rfl (.bool true) (by simp [go_sem]) ?_
  simp only [Act.put, List.setIfInBounds_toArray, List.set_cons_zero, List.set_cons_succ]
  refine wpList_callW rfl (by simp [go_sem]) ((which_any 10 0 (by omega) (by omega) (by omega) (by omega) w7).mono ?_)
  rintro e w' ⟨rfl, hw'⟩
  refine ⟨_, rfl, ?_⟩
  rw [hw', wh_zero]
  clear hw'
  simp only [Act.put, List.setIfInBounds_toArray, List.set_cons_zero, List.set_cons_succ]
  refine wpList_runW rfl (.bool true) (by simp [go_sem]) ?_
  simp only [Act.put, List.setIfInBounds_toArray, List.set_cons_zero, List.set_cons_succ]
  refine wpList_run rfl (.bool true) (by simp [go_sem]) ?_
  simp only [Act.put, List.setIfInBounds_toArray, List.set_cons_zero, List.set_cons_succ]
  refine wpList_run rfl (.bool true) (by simp [go_sem]) ?_
  simp only [Act.put, List.setIfInBounds_toArray, List.set_cons_zero, List.set_cons_succ]
  refine wpList_callW rfl (by simp [go_sem]) ((which_any 10 4294967295 (by omega) (by omega) (by omega) (by omega) w7).mono ?_)
  rintro e w' ⟨rfl, hw'⟩
  refine ⟨_, rfl, ?_⟩
  rw [hw', show whI 10 4294967295 = 0 by decide]
  clear hw'
  simp only [Act.put, List.setIfInBounds_toArray, List.set_cons_zero, List.set_cons_succ]
  refine wpList_runW rfl (.bool true) (by simp [go_sem]) ?_
  simp only [Act.put, List.setIfInBounds_toArray, List.set_cons_zero, List.set_cons_succ]
  refine wpList_run rfl (.bool true) (by simp [go_sem]) ?_
  simp only [Act.put, List.setIfInBounds_toArray, List.set_cons_zero, List.set_cons_succ]
  refine wpList_run rfl (.bool true) (by simp [go_sem]) ?_
  simp only [Act.put, List.setIfInBounds_toArray, List.set_cons_zero, List.set_cons_succ]
  refine wpList_ungrd rfl (wpList_load_mid rfl 24 (.tmp 5) rfl b 0 rfl (row 128 (wv fun _ => 0#64)) _ h7.out.range Tryd.underlying24 rfl (by rw [row_length]; exact infoPg) ?_)
  rw [← hpg.out]
  simp only [Act.put, List.setIfInBounds_toArray, List.set_cons_zero, List.set_cons_succ]
  refine wpList_callW rfl (by simp [go_sem]) (hby.out.mono ?_)
  rintro e w8 ⟨v8, rfl, hO8, hE8⟩
  refine ⟨_, rfl, ?_⟩
  have hE8' := hideit (Ext.trans hE7.out hE8)
  obtain ⟨o8, c8, rfl⟩ := hO8.bv.form
  clear hO8 hE8 hE7 hby
  simp only [Act.put, List.setIfInBounds_toArray, List.set_cons_zero, List.set_cons_succ]
  refine wpList_runW rfl (.int .i64 1024) (by simp [go_sem]) ?_
  simp only [Act.put, List.setIfInBounds_toArray, List.set_cons_zero, List.set_cons_succ]
  refine wpList_runW rfl (.bool true) (by simp [go_sem]) ?_
  simp only [Act.put, List.setIfInBounds_toArray, List.set_cons_zero, List.set_cons_succ]
  refine wpList_run rfl (.bool true) (by simp [go_sem]) ?_
  simp only [Act.put, List.setIfInBounds_toArray, List.set_cons_zero, List.set_cons_succ]
  clear heq hbz hgd hpg
  go_wp2
  go_ret
  exact ⟨rfl, hE8'.out⟩
end Go.Proofs.YtfbmeclpcgdmhabDoor
