/-
  The document's tag, of any message under any key.
-/
import Derived.Test.YthgflnjeojhgkaaDoorHPad
namespace Go.Proofs.YthgflnjeojhgkaaDoor
open Go.RowKit Go.BigFrame
set_option maxRecDepth 20000 in
set_option maxHeartbeats 4000000 in
theorem rTag_any (v mv : Value) (l n : Nat) (key m : Nat → BitVec 8) (w : World) (h : BV v l key w) (hm : BV mv n m w) (hl : l ≤ 140737488351232) (hn : n ≤ 140737488354000) :
    Calls Tryd.prog 8 #[v, mv] w fun e w' => e = .returned (.agg (row 32 (yv (tagF l key m n))).toArray) ∧ Below w.heap.size w w' := by
  have hz := zero24
  have c23 := cutR23
  obtain ⟨o0, c0, rfl⟩ := h.form
  obtain ⟨o1, c1, rfl⟩ := hm.form
  obtain ⟨R, hR⟩ : ∃ R, R = tagF l key m n := ⟨_, rfl⟩
  rw [← hR]
  replace hR := hideit hR
  obtain ⟨D, hDD⟩ : ∃ D, D = shaF (catF (maskF (readyF l key) 54#8) 64 m) (64 + n) := ⟨_, rfl⟩
  replace hDD := hideit hDD
  have HR0 := hideit (RowAt.new w 32 (yv fun _ => 0#8) 23)
  have HE0 : Ext w (w.alloc (.cells (row 32 (yv fun _ => 0#8)).toArray 23)) := (Below.refl _ _).alloc (Nat.le_refl _) _
  have hp := hideit (pad_any _ l key 54#8 _ (h.ext HE0) hl)
  have hB := hideit h
  have hMm := hideit hm
  replace HE0 := hideit HE0
  clear h hm
  go_enter Tryd.func8, Tryd.ntmps8
  go_upto_region 1 with (fail)
  generalize w.alloc (.cells (row 32 (yv fun _ => 0#8)).toArray 23) = w1 at *
  refine wp_region_lit ?_
  refine wpList_run rfl (.slice o0 l c0) (by simp [go_sem]) ?_
  simp only [Act.put, List.setIfInBounds_toArray, List.set_cons_zero, List.set_cons_succ]
  refine wpList_call rfl (by simp [go_sem]) (hp.out.mono ?_)
  rintro e w2 ⟨b, hb1, hb2, rfl, hO2, hE2⟩
  refine ⟨_, rfl, ?_⟩
  simp only [Act.put, List.setIfInBounds_toArray, List.set_cons_zero, List.set_cons_succ]
  refine wpList_run rfl (.slice o1 n c1) (by simp [go_sem]) ?_
  simp only [Act.put, List.setIfInBounds_toArray, List.set_cons_zero, List.set_cons_succ]
  have HE2 := hideit (Ext.trans HE0.out hE2)
  have HR2 := hideit (HR0.out.carry hE2)
  have HM2 := hideit (hMm.out.ext HE2.out)
  have hb3 : w.heap.size < b := Nat.lt_of_lt_of_le HR0.out.2.2 hb1
  refine wpList_growV (v := .slice (some ⟨b, 0, none⟩) 64 64) (n := 64) (base := w1.heap.size) (g := yv (maskF (readyF l key) 54#8)) elem22 rfl (.tmp 7) (.tmp 8) rfl rfl hO2 _ n m (yv (catF (maskF (readyF l key) 54#8) 64 m)) rfl HM2.out (fun j hj => by simp only [yv]; unfold catF; rw [if_pos hj]) (fun j hj => by simp only [yv]; unfold catF; rw [if_neg (by omega), Nat.add_sub_cancel_left]) (by omega) (Below.size hE2) ?_
  intro v3 w3 hO3 hg3
  have HE3 := hideit (grown_ext HE2.out hg3 (fun k hk => by have := (hO2.lt k hk).1; have := Below.size HE0.out; omega))
  have HR3 := hideit (HR2.out.grown hg3 (fun e => Nat.ne_of_lt (by omega : w.heap.size < b) (by simpa [Value.ownBlock] using e)))
  have HV3 := hideit (OwnB.bv hO3)
  obtain ⟨o3, c3, rfl⟩ := HV3.out.form
  have hs3 := rsumV _ (64 + n) _ w3 HV3.out (by omega)
  rw [← hDD.out] at hs3
  replace hs3 := hideit hs3
  clear hO3 hg3 hO2 hE2 HE2 HR2 HM2 hp HR0 HE0 HV3 hb1 hb2 hb3
  simp only [Act.put, List.setIfInBounds_toArray, List.set_cons_zero, List.set_cons_succ]
  refine wpList_call rfl (by simp [go_sem]) (hs3.out.mono ?_)
  rintro e w4 ⟨rfl, hw4⟩
  refine ⟨_, rfl, ?_⟩
  simp only [Act.put, List.setIfInBounds_toArray, List.set_cons_zero, List.set_cons_succ]
  have HR4 := hideit (HR3.out.carry hw4)
  have HE4 := hideit (Ext.trans HE3.out hw4)
  clear hs3 hw4 HR3 HE3
  have HN := hideit (RowAt.new w4 32 (yv fun _ => 0#8) 23)
  have hE5 : Ext w4 (w4.alloc (.cells (row 32 (yv fun _ => 0#8)).toArray 23)) := (Below.refl _ _).alloc (Nat.le_refl _) _
  have hlt4 : w.heap.size < w4.heap.size := HR4.out.2.2
  refine wpList_to rfl (.pointer (some ⟨w4.heap.size, 0, none⟩)) (w4.alloc (.cells (row 32 (yv fun _ => 0#8)).toArray 23)) (by simp [go_sem, hz]) ?_
  simp only [Act.put, List.setIfInBounds_toArray, List.set_cons_zero, List.set_cons_succ]
  refine wpList_store_mid rfl 23 (.tmp 5) (.tmp 10) rfl _ 0 (row 32 (yv D)).toArray rfl rfl (by rw [row_size]; exact HN.out.there) (by rw [row_size]; exact info24) (row_one fun _ _ => rfl) ?_
  have HD5 := hideit (HN.out.cells (g' := yv D))
  have HR5 := hideit ((HR4.out.carry hE5).cellsOther (c := w4.heap.size) (by omega) (row 32 (yv D)) 0)
  have HE5 := hideit (below_setCells w4.heap.size (by omega) (row 32 (yv D)) 0 _ (Ext.trans HE4.out hE5))
  generalize (w4.alloc (.cells (row 32 (yv fun _ => 0#8)).toArray 23)).setCells w4.heap.size 0 (row 32 (yv D)) = w5 at *
  generalize w4.heap.size = b5 at *
  clear HN hE5 HR4 HE4
  simp only [Act.put]
  go_upto_region 2 with (fail)
  refine wp_region_any (by kernel_rfl) ?_
  refine wpAny_pures (by kernel_rfl) (fun _ _ _ _ _ h => h) [0] [_] _ _ 5 rfl (by decide +kernel) ?_
  simp only [List.getElem_toArray, List.getElem_cons_zero]
  refine wpPure_one (.slice o0 l c0) rfl (fun X => by simp [go_sem]) ?_
  simp only [Act.put, List.setIfInBounds_toArray, List.set_cons_zero, List.set_cons_succ]
  refine wpPure_nil ?_
  refine wpAny_seg _ 5 0 (fun _ => ⟨fun b => .slice (some ⟨b, 0, none⟩) 64 64, fun b X => OwnB w.heap.size 5 (.slice (some ⟨b, 0, none⟩) 64 64) 64 (yv (maskF (readyF l key) 92#8)) X⟩) (fun _ => undef) (fun _ _ _ _ hh hk => OwnB.ext hh hk) [2] [1] [] [3, 4, 5] [_] [_, _, _] (by decide +kernel) (by decide +kernel) (by decide +kernel) (by decide +kernel) (by decide +kernel) (by decide) rfl rfl (by decide +kernel) (by decide +kernel) (by decide +kernel) (by decide +kernel) (by decide +kernel) (by decide +kernel) (by decide +kernel) (by decide +kernel) (by decide +kernel) (by decide +kernel) (by decide +kernel) ?_
  simp only [List.getElem_toArray, List.getElem_cons_zero, List.getElem_cons_succ]
  refine ⟨.slice (some ⟨b5, 0, none⟩) 32 32, .inl ⟨rfl, fun X hX => by simp [go_sem, strongUpon, c23]⟩, ?_⟩
  simp only [Act.put, List.setIfInBounds_toArray, List.set_cons_zero, List.set_cons_succ]
  refine wpStrong_nil ?_
  refine wpN_one _ rfl (GenY.call rfl (fun X => by simp [go_sem]) (fun X hX => (pad_any _ l key 92#8 X (hB.out.ext (Ext.trans (Ext.trans HE5.out (Below.refl _ _).drew) hX)) hl).mono ?_)) ?_
  · rintro e w' ⟨b, k1, k2, rfl, k3, k4⟩
    exact ⟨b, k1, k2, rfl, k3.down (Below.size (Ext.trans (Ext.trans HE5.out (Below.refl _ _).drew) hX)), k4⟩
  intro b hb1 _
  simp only [List.getElem_toArray, List.getElem_cons_zero, List.getElem_cons_succ, Act.put, List.setIfInBounds_toArray, List.set_cons_zero, List.set_cons_succ]
  refine wpN_nil ?_
  refine wpT_nil ?_
  intro w6 hw6 hH
  have HO6 := hideit (hH (b, 1) (by simp)).1
  have hw5 : Ext w5 w6 := Ext.trans (Below.refl _ _).drew hw6
  have HE6 := hideit (Ext.trans HE5.out hw5)
  have HD6 := hideit (HD5.out.carry hw5)
  have HR6 := hideit (HR5.out.carry hw5)
  have hsz6 : w.heap.size ≤ w6.heap.size := Below.size HE6.out
  have hb1' : b5 < b := Nat.lt_of_lt_of_le HD5.out.2.2 hb1
  have hb2' : w.heap.size < b := Nat.lt_of_lt_of_le HR5.out.2.2 hb1
  clear hH hw6 hw5 HE5 HD5 HR5 hb1
  refine wpList_growV (v := .slice (some ⟨b, 0, none⟩) 64 64) (n := 64) (base := w.heap.size) (g := yv (maskF (readyF l key) 92#8)) elem22 rfl (.tmp 12) (.tmp 13) rfl rfl HO6.out _ 32 D (yv (catF (maskF (readyF l key) 92#8) 64 D)) rfl (.inr ⟨_, 32, rfl, Nat.le_refl _, HD6.out.lie 32 (Nat.le_refl _)⟩) (fun j hj => by simp only [yv]; unfold catF; rw [if_pos hj]) (fun j hj => by simp only [yv]; unfold catF; rw [if_neg (by omega), Nat.add_sub_cancel_left]) (by omega) hsz6 ?_
  intro v7 w7 hO7 hg7
  have hlt6 := HO6.out.lt
  have HE7 := hideit (grown_ext HE6.out hg7 (fun k hk => (hlt6 k hk).1))
  have HR7 := hideit (HR6.out.grown hg7 (fun e => Nat.ne_of_lt (by omega : w.heap.size < b) (by simpa [Value.ownBlock] using e)))
  have HV7 := hideit (OwnB.bv hO7)
  obtain ⟨o7, c7, rfl⟩ := HV7.out.form
  have hs7 := rsumV _ (64 + 32) _ w7 HV7.out (by omega)
  rw [show shaF (catF (maskF (readyF l key) 92#8) 64 D) (64 + 32) = R by rw [hR.out, hDD.out]; rfl] at hs7
  replace hs7 := hideit hs7
  clear hO7 hg7 hlt6 HO6 HD6 HR6 HE6 HV7
  simp only [Act.put, List.setIfInBounds_toArray, List.set_cons_zero, List.set_cons_succ]
  refine wpList_call rfl (by simp [go_sem]) (hs7.out.mono ?_)
  rintro e w8 ⟨rfl, hw8⟩
  refine ⟨_, rfl, ?_⟩
  simp only [Act.put, List.setIfInBounds_toArray, List.set_cons_zero, List.set_cons_succ]
  have HR8 := hideit (HR7.out.carry hw8)
  have HE8 := hideit (Ext.trans HE7.out hw8)
  clear hs7 hw8 HR7 HE7
  refine wpList_store_mid rfl 23 (.tmp 4) (.tmp 15) rfl _ 0 (row 32 (yv R)).toArray rfl rfl (by rw [row_size]; exact HR8.out.there) (by rw [row_size]; exact info24) (row_one fun _ _ => rfl) ?_
  refine wpList_go ?_
  refine wpAny_done (by decide +kernel) ?_
  simp only [Act.put]
  go_wp2
  exact bodyPost_ret (ret_row Tryd.results8 rfl (HR8.out.cells (g' := yv R)) Tryd.underlying23 rfl info24) rfl ⟨rfl, below_setCells _ (Nat.le_refl _) _ _ _ HE8.out⟩
end Go.Proofs.YthgflnjeojhgkaaDoor
