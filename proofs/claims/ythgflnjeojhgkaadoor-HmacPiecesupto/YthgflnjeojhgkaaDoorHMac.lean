/-
  A tag on its way: begun, written to, forked, told; of a nil one nothing.
-/
import Derived.Test.YthgflnjeojhgkaaDoorHTagOf
namespace Go.Proofs.YthgflnjeojhgkaaDoor
open Go.RowKit Go.BigFrame
/-- a Mac that n bytes have come to -/
structure MacOf (mb : Nat) (rk : Nat → BitVec 8) (m : Nat → BitVec 8) (n : Nat) (d1 d2 : Nat) (w : World) : Prop where
  pair : RowAt mb 2 (dv d1 d2) w
  inner : HashOf d1 (catF (maskF rk 54#8) 64 m) (64 + n) w
  outer : HashOf d2 (maskF rk 92#8) 64 w
  n1 : d1 ≠ d2
  n2 : mb ≠ d1
  n3 : mb ≠ d2
theorem MacOf.carry {mb n d1 d2 : Nat} {rk m : Nat → BitVec 8} {w X : World} (h : MacOf mb rk m n d1 d2 w) (k : Ext w X) : MacOf mb rk m n d1 d2 X :=
  ⟨h.pair.carry k, RowAt.carry h.inner k, RowAt.carry h.outer k, h.n1, h.n2, h.n3⟩
theorem MacOf.but {c mb n d1 d2 : Nat} {rk m : Nat → BitVec 8} {w X : World} (h : MacOf mb rk m n d1 d2 w) (k : But c w X) (h1 : mb ≠ c) (h2 : d1 ≠ c) (h3 : d2 ≠ c) : MacOf mb rk m n d1 d2 X :=
  ⟨h.pair.but k h1, RowAt.but h.inner k h2, RowAt.but h.outer k h3, h.n1, h.n2, h.n3⟩
theorem bld46 (b1 b2 : Nat) (X : World) : (Instr.build 46 #[(0, .agg (row 2 (dv b1 b2)).toArray)]).run Tryd.prog X = .ok (.agg (row 2 (dv b1 b2)).toArray) X := by kernel_rfl
set_option maxRecDepth 20000 in
set_option maxHeartbeats 1000000 in
theorem macNew (v : Value) (l : Nat) (key : Nat → BitVec 8) (w : World) (h : BV v l key w) (hC : TabC w) (hl : l ≤ 140737488351232) :
    Calls Tryd.prog 11 #[v] w fun e w' => ∃ mb d1 d2, w.heap.size ≤ mb ∧ w.heap.size ≤ d1 ∧ w.heap.size ≤ d2 ∧ e = .returned (.pointer (some ⟨mb, 0, none⟩)) ∧ MacOf mb (readyF l key) (fun _ => 0#8) 0 d1 d2 w' ∧ Ext w w' := by
  have hb := hideit (begin_any v l key w h hC hl)
  clear h hC
  go_enter Tryd.func11, Tryd.ntmps11
  go_upto_region 1 with (fail)
  refine wp_region_lit ?_
  refine wpList_run rfl v (by simp [go_sem]) ?_
  simp only [Act.put, List.setIfInBounds_toArray, List.set_cons_zero, List.set_cons_succ]
  refine wpList_call rfl (by simp [go_sem]) (hb.out.mono ?_)
  rintro e w2 ⟨c1, c2, h0, h1, h2, rfl, hH1, hH2, hE⟩
  refine ⟨_, rfl, ?_⟩
  simp only [Act.put, List.setIfInBounds_toArray, List.set_cons_zero, List.set_cons_succ]
  refine wpList_build rfl 46 [(0, .tmp 4)] rfl _ (bld46 c1 c2 _) ?_
  simp only [Act.put, List.setIfInBounds_toArray, List.set_cons_zero, List.set_cons_succ]
  have hlt1 : c1 < w2.heap.size := hH1.2.2
  have hlt2 : c2 < w2.heap.size := hH2.2.2
  have hE3 : Ext w2 (w2.alloc (.cells (row 2 (dv c1 c2)).toArray 46)) := (Below.refl _ _).alloc (Nat.le_refl _) _
  have HM : MacOf w2.heap.size (readyF l key) (fun _ => 0#8) 0 c1 c2 (w2.alloc (.cells (row 2 (dv c1 c2)).toArray 46)) :=
    ⟨RowAt.new w2 2 (dv c1 c2) 46, (HashOf.congr (RowAt.carry hH1 hE3) fun j hj => by unfold catF; rw [if_pos hj]), RowAt.carry hH2 hE3, h0, by omega, by omega⟩
  have HM' := hideit HM
  have HE := hideit (Ext.trans hE hE3)
  have hsz := Below.size hE
  clear HM hH1 hH2 hE hE3
  go_wp2
  go_ret
  exact ⟨_, c1, c2, by omega, h1, h2, rfl, HM'.out, HE.out⟩
set_option maxRecDepth 20000 in
set_option maxHeartbeats 1000000 in
theorem macFork (mb n d1 d2 : Nat) (rk m : Nat → BitVec 8) (w : World) (h : MacOf mb rk m n d1 d2 w) :
    Calls Tryd.prog 12 #[.pointer (some ⟨mb, 0, none⟩)] w fun e w' => ∃ mb' e1 e2, w.heap.size ≤ mb' ∧ w.heap.size ≤ e1 ∧ w.heap.size ≤ e2 ∧ e = .returned (.pointer (some ⟨mb', 0, none⟩)) ∧ MacOf mb' rk m n e1 e2 w' ∧ Ext w w' := by
  have hf := hideit (forkD_any d1 d2 (64 + n) 64 _ _ w h.inner h.outer)
  have HM := hideit h
  clear h
  go_enter Tryd.func12, Tryd.ntmps12
  go_upto_region 3 with (fail)
  refine wp_region_lit ?_
  refine wpList_run rfl (.pointer (some ⟨mb, 0, none⟩)) (by simp [go_sem]) ?_
  simp only [Act.put, List.setIfInBounds_toArray, List.set_cons_zero, List.set_cons_succ]
  refine wpList_run rfl (.pointer (some ⟨mb, 0, none⟩)) (by simp [go_sem]) ?_
  simp only [Act.put, List.setIfInBounds_toArray, List.set_cons_zero, List.set_cons_succ]
  refine wpList_run rfl (.pointer (some ⟨mb, 0, none⟩)) (by simp [go_sem]) ?_
  simp only [Act.put, List.setIfInBounds_toArray, List.set_cons_zero, List.set_cons_succ]
  refine wpList_load_mid rfl 42 (.tmp 7) rfl mb 0 rfl (row 2 (dv d1 d2)) _ HM.out.pair.range Tryd.underlying42 rfl (by rw [row_length]; exact infoD) ?_
  simp only [Act.put, List.setIfInBounds_toArray, List.set_cons_zero, List.set_cons_succ]
  refine wpList_call rfl (by simp [go_sem]) (hf.out.mono ?_)
  rintro e w2 ⟨c1, c2, h0, h1, h2, rfl, hH1, hH2, hE⟩
  refine ⟨_, rfl, ?_⟩
  simp only [Act.put, List.setIfInBounds_toArray, List.set_cons_zero, List.set_cons_succ]
  refine wpList_build rfl 46 [(0, .tmp 9)] rfl _ (bld46 c1 c2 _) ?_
  simp only [Act.put, List.setIfInBounds_toArray, List.set_cons_zero, List.set_cons_succ]
  have hlt1 : c1 < w2.heap.size := hH1.2.2
  have hlt2 : c2 < w2.heap.size := hH2.2.2
  have hE3 : Ext w2 (w2.alloc (.cells (row 2 (dv c1 c2)).toArray 46)) := (Below.refl _ _).alloc (Nat.le_refl _) _
  have HM2 : MacOf w2.heap.size rk m n c1 c2 (w2.alloc (.cells (row 2 (dv c1 c2)).toArray 46)) :=
    ⟨RowAt.new w2 2 (dv c1 c2) 46, RowAt.carry hH1 hE3, RowAt.carry hH2 hE3, h0, by omega, by omega⟩
  have HM' := hideit HM2
  have HE := hideit (Ext.trans hE hE3)
  have hsz := Below.size hE
  clear HM HM2 hH1 hH2 hE hE3 hf
  go_wp2
  go_ret
  exact ⟨_, c1, c2, by omega, h1, h2, rfl, HM'.out, HE.out⟩
set_option maxRecDepth 20000 in
set_option maxHeartbeats 1000000 in
theorem macWrite (mb n d1 d2 l : Nat) (rk m b : Nat → BitVec 8) (u : Value) (w : World) (h : MacOf mb rk m n d1 d2 w) (hw : Calls Tryd.prog 24 #[.pointer (some ⟨d1, 0, none⟩), u] w fun e w' => e = .returned (.tuple #[]) ∧ HashOf d1 (catF (catF (maskF rk 54#8) 64 m) (64 + n) b) (64 + n + l) w' ∧ But d1 w w') :
    Calls Tryd.prog 13 #[.pointer (some ⟨mb, 0, none⟩), u] w fun e w' => e = .returned (.tuple #[]) ∧ MacOf mb rk (catF m n b) (n + l) d1 d2 w' ∧ But d1 w w' := by
  have HM := hideit h
  replace hw := hideit hw
  have e0 := h.pair.1 0 (by omega)
  simp only [dv, if_true] at e0
  clear h
  go_enter Tryd.func13, Tryd.ntmps13
  go_upto_region 1 with (fail)
  refine wp_region_lit ?_
  refine wpList_run rfl (.pointer (some ⟨mb, 0, none⟩)) (by simp [go_sem]) ?_
  simp only [Act.put, List.setIfInBounds_toArray, List.set_cons_zero, List.set_cons_succ]
  refine wpList_run rfl (.pointer (some ⟨mb, 0, none⟩)) (by simp [go_sem]) ?_
  simp only [Act.put, List.setIfInBounds_toArray, List.set_cons_zero, List.set_cons_succ]
  refine wpList_run rfl (.pointer (some ⟨mb, 0, none⟩)) (by simp [go_sem]) ?_
  simp only [Act.put, List.setIfInBounds_toArray, List.set_cons_zero, List.set_cons_succ]
  refine wpList_run rfl (.pointer (some ⟨mb, 0, none⟩)) (by simp [go_sem]) ?_
  simp only [Act.put, List.setIfInBounds_toArray, List.set_cons_zero, List.set_cons_succ]
  refine wpList_run rfl (.pointer (some ⟨d1, 0, none⟩)) (by simp [go_sem, e0]) ?_
  simp only [Act.put, List.setIfInBounds_toArray, List.set_cons_zero, List.set_cons_succ]
  refine wpList_run rfl u (by simp [go_sem]) ?_
  simp only [Act.put, List.setIfInBounds_toArray, List.set_cons_zero, List.set_cons_succ]
  refine wpList_call rfl (by simp [go_sem]) (hw.out.mono ?_)
  rintro e w2 ⟨rfl, hH, hB⟩
  refine ⟨_, rfl, ?_⟩
  simp only [Act.put, List.setIfInBounds_toArray, List.set_cons_zero, List.set_cons_succ]
  have HM2 : MacOf mb rk (catF m n b) (n + l) d1 d2 w2 :=
    ⟨HM.out.pair.but hB HM.out.n2, by
      rw [show 64 + (n + l) = 64 + n + l by omega]
      exact hH.congr fun j hj => by
        unfold catF
        by_cases h1 : j < 64
        · rw [if_pos (by omega), if_pos h1, if_pos h1]
        · rw [if_neg h1, if_neg h1]
          by_cases h2 : j < 64 + n
          · rw [if_pos h2, if_pos (by omega)]
          · rw [if_neg h2, if_neg (by omega), show j - 64 - n = j - (64 + n) by omega], RowAt.but HM.out.outer hB (Ne.symm HM.out.n1), HM.out.n1, HM.out.n2, HM.out.n3⟩
  replace HM2 := hideit HM2
  have HB := hideit hB
  clear HM hw hH hB
  go_wp2
  exact bodyPost_end (v := .tuple #[]) (by simp [results, Tryd.results13]) rfl ⟨rfl, HM2.out, HB.out⟩
set_option maxRecDepth 20000 in
set_option maxHeartbeats 1000000 in
theorem macSum (mb n d1 d2 l : Nat) (key m : Nat → BitVec 8) (w : World) (h : MacOf mb (readyF l key) m n d1 d2 w) (hC : TabC w) (hn : n ≤ 140737488351232) :
    Calls Tryd.prog 14 #[.pointer (some ⟨mb, 0, none⟩)] w fun e w' => e = .returned (.agg (row 32 (yv (tagF l key m n))).toArray) ∧ Below w.heap.size w w' := by
  have hz := zero24
  have HR0 := hideit (RowAt.new w 32 (yv fun _ => 0#8) 23)
  have HE0 : Ext w (w.alloc (.cells (row 32 (yv fun _ => 0#8)).toArray 23)) := (Below.refl _ _).alloc (Nat.le_refl _) _
  obtain ⟨R, hR⟩ : ∃ R, R = tagF l key m n := ⟨_, rfl⟩
  have HM := h.carry HE0
  have ht := tag_any d1 d2 (64 + n) 64 0 _ _ (.slice none 0 0) (fun _ => undef) (fun _ => 0) (fun _ _ => 0#8) _ HM.inner HM.outer ⟨.inl ⟨rfl, rfl⟩, fun i hi => absurd hi (by omega)⟩ (hC.ext HE0) (by omega) (by show 64 + n + 0 < _; omega) (by omega)
  rw [show shaF (catF (maskF (readyF l key) 92#8) 64 (shaF (joinF (catF (maskF (readyF l key) 54#8) 64 m) (64 + n) (fun _ => 0) (fun _ _ => 0#8) 0) (64 + n + sumL (fun _ => 0) 0))) (64 + 32) = R by rw [hR]; rfl] at ht
  rw [← hR]
  replace ht := hideit ht
  replace HM := hideit HM
  replace HE0 := hideit HE0
  clear h hC hR
  go_enter Tryd.func14, Tryd.ntmps14
  go_upto_region 3 with (fail)
  generalize w.alloc (.cells (row 32 (yv fun _ => 0#8)).toArray 23) = w1 at *
  refine wp_region_lit ?_
  refine wpList_run rfl (.pointer (some ⟨mb, 0, none⟩)) (by simp [go_sem]) ?_
  simp only [Act.put, List.setIfInBounds_toArray, List.set_cons_zero, List.set_cons_succ]
  refine wpList_run rfl (.pointer (some ⟨mb, 0, none⟩)) (by simp [go_sem]) ?_
  simp only [Act.put, List.setIfInBounds_toArray, List.set_cons_zero, List.set_cons_succ]
  refine wpList_run rfl (.pointer (some ⟨mb, 0, none⟩)) (by simp [go_sem]) ?_
  simp only [Act.put, List.setIfInBounds_toArray, List.set_cons_zero, List.set_cons_succ]
  refine wpList_load_mid rfl 42 (.tmp 8) rfl mb 0 rfl (row 2 (dv d1 d2)) _ HM.out.pair.range Tryd.underlying42 rfl (by rw [row_length]; exact infoD) ?_
  simp only [Act.put, List.setIfInBounds_toArray, List.set_cons_zero, List.set_cons_succ]
  refine wpList_call rfl (by simp [go_sem]) (ht.out.mono ?_)
  rintro e w2 ⟨rfl, hw2⟩
  refine ⟨_, rfl, ?_⟩
  simp only [Act.put, List.setIfInBounds_toArray, List.set_cons_zero, List.set_cons_succ]
  have HR2 := hideit (HR0.out.carry hw2)
  have HE2 := hideit (Ext.trans HE0.out hw2)
  clear ht hw2 HR0 HE0 HM
  refine wpList_store_mid rfl 23 (.tmp 2) (.tmp 10) rfl _ 0 (row 32 (yv R)).toArray rfl rfl (by rw [row_size]; exact HR2.out.there) (by rw [row_size]; exact info24) (row_one fun _ _ => rfl) ?_
  go_wp2
  exact bodyPost_ret (ret_row Tryd.results14 rfl (HR2.out.cells (g' := yv R)) Tryd.underlying23 rfl info24) rfl ⟨rfl, below_setCells _ (Nat.le_refl _) _ _ _ HE2.out⟩
theorem nilFork (w : World) : Calls Tryd.prog 12 #[.pointer none] w fun e w' => e = .returned (.pointer none) ∧ w' = w := by
  go_enter Tryd.func12, Tryd.ntmps12
  go_wp2
  go_ret
  exact ⟨rfl, rfl⟩
theorem nilWrite (v : Value) (w : World) : Calls Tryd.prog 13 #[.pointer none, v] w fun e w' => e = .returned (.tuple #[]) ∧ w' = w := by
  go_enter Tryd.func13, Tryd.ntmps13
  go_wp2
  exact bodyPost_ret (v := .tuple #[]) (by simp [results, Tryd.results13]) rfl ⟨rfl, rfl⟩
theorem zbuild23 (X : World) : (Instr.build 23 #[]).run Tryd.prog X = .ok (.agg (row 32 (yv fun _ => 0#8)).toArray) X := by kernel_rfl
set_option maxRecDepth 20000 in
set_option maxHeartbeats 1000000 in
theorem nilSum (w : World) : Calls Tryd.prog 14 #[.pointer none] w fun e w' => e = .returned (.agg (row 32 (yv fun _ => 0#8)).toArray) ∧ Below w.heap.size w w' := by
  have hz := zero24
  have HR0 := hideit (RowAt.new w 32 (yv fun _ => 0#8) 23)
  have HE0 : Ext w (w.alloc (.cells (row 32 (yv fun _ => 0#8)).toArray 23)) := (Below.refl _ _).alloc (Nat.le_refl _) _
  replace HE0 := hideit HE0
  go_enter Tryd.func14, Tryd.ntmps14
  go_upto_region 2 with (fail)
  generalize w.alloc (.cells (row 32 (yv fun _ => 0#8)).toArray 23) = w1 at *
  refine wp_region_lit ?_
  refine wpList_build rfl 23 [] rfl _ (zbuild23 _) ?_
  simp only [Act.put, List.setIfInBounds_toArray, List.set_cons_zero, List.set_cons_succ]
  refine wpList_store_mid rfl 23 (.tmp 2) (.tmp 5) rfl _ 0 (row 32 (yv fun _ => 0#8)).toArray rfl rfl (by rw [row_size]; exact HR0.out.there) (by rw [row_size]; exact info24) (row_one fun _ _ => rfl) ?_
  go_wp2
  exact bodyPost_ret (ret_row Tryd.results14 rfl (HR0.out.cells (g' := yv fun _ => 0#8)) Tryd.underlying23 rfl info24) rfl ⟨rfl, below_setCells _ (Nat.le_refl _) _ _ _ HE0.out⟩
end Go.Proofs.YthgflnjeojhgkaaDoor
