/-
  The two digests of a tag, begun with a key; another two that are the same.
-/
import Derived.Test.YthgflnjeojhgkaaDoorHBegin
import Derived.Test.YthgflnjeojhgkaaDoorTwo
namespace Go.Proofs.YthgflnjeojhgkaaDoor
open Go.RowKit Go.BigFrame
/-- the two digests of a tag -/
def dv (c1 c2 : Nat) (j : Nat) : Value := if j = 0 then .pointer (some ⟨c1, 0, none⟩) else .pointer (some ⟨c2, 0, none⟩)
theorem zeroD (w : World) : Sem.run Tryd.prog (zeroValue 42) w = .ok (.agg (row 2 (fun _ => .pointer none)).toArray) w := by kernel_rfl
theorem infoD : (Tryd.prog.info? 42).map (·.size) = some 2 := by kernel_rfl
theorem bldD (b1 b2 : Nat) (X : World) : (Instr.build 42 #[(0, .pointer (some ⟨b1, 0, none⟩)), (1, .pointer (some ⟨b2, 0, none⟩))]).run Tryd.prog X = .ok (.agg (row 2 (dv b1 b2)).toArray) X := by kernel_rfl
theorem dv_one (c1 c2 j : Nat) : (dv c1 c2 j).oneCell' = true := by unfold dv; split <;> rfl
def spB (R : Nat → BitVec 8) (i : Nat) : Sp := ⟨fun b => .pointer (some ⟨b, 0, none⟩), fun b w => HashOf b (maskF R (if i = 1 then 54#8 else 92#8)) 64 w⟩
set_option maxRecDepth 20000 in
set_option maxHeartbeats 1000000 in
theorem begin_any (v : Value) (l : Nat) (key : Nat → BitVec 8) (w : World) (h : BV v l key w) (hC : TabC w) (hl : l ≤ 140737488351232) :
    Calls Tryd.prog 21 #[v] w fun e w' => ∃ c1 c2, c1 ≠ c2 ∧ w.heap.size ≤ c1 ∧ w.heap.size ≤ c2 ∧ e = .returned (.agg (row 2 (dv c1 c2)).toArray) ∧ HashOf c1 (maskF (readyF l key) 54#8) 64 w' ∧ HashOf c2 (maskF (readyF l key) 92#8) 64 w' ∧ Ext w w' := by
  have hz := zeroD
  have hz2 := zero29
  have HR0 := hideit (RowAt.new w 2 (fun _ => Value.pointer none) 42)
  have HE0 : Ext w (w.alloc (.cells (row 2 (fun _ => Value.pointer none)).toArray 42)) := (Below.refl _ _).alloc (Nat.le_refl _) _
  have hr := hideit (ready_any v l key _ (h.ext HE0) (hC.ext HE0) hl)
  replace HE0 := hideit HE0
  replace hC := hideit hC
  clear h
  obtain ⟨R, hR⟩ : ∃ R, R = readyF l key := ⟨_, rfl⟩
  rw [← hR] at hr ⊢
  clear hR
  go_enter Tryd.func21, Tryd.ntmps21
  go_upto_region 1 with (fail)
  generalize w.alloc (.cells (row 2 (fun _ => Value.pointer none)).toArray 42) = w1 at *
  refine wp_region_lit ?_
  refine wpList_run rfl v (by simp [go_sem]) ?_
  simp only [Act.put, List.setIfInBounds_toArray, List.set_cons_zero, List.set_cons_succ]
  refine wpList_call rfl (by simp [go_sem]) (hr.out.mono ?_)
  rintro e w3 ⟨rfl, hw3⟩
  refine ⟨_, rfl, ?_⟩
  simp only [Act.put, List.setIfInBounds_toArray, List.set_cons_zero, List.set_cons_succ]
  have HQ3 := hideit (HR0.out.carry hw3)
  have HE3 := hideit (Ext.trans HE0.out hw3)
  clear hr hw3 HR0 HE0
  have HN := hideit (RowAt.new w3 64 (yv fun _ => 0#8) 54)
  have hE4 : Ext w3 (w3.alloc (.cells (row 64 (yv fun _ => 0#8)).toArray 54)) := (Below.refl _ _).alloc (Nat.le_refl _) _
  have HQ4 := hideit (HQ3.out.carry hE4)
  have HE4 := hideit (Ext.trans HE3.out hE4)
  have hlt : w.heap.size < w3.heap.size := HQ3.out.2.2
  clear hE4 HE3 HQ3
  refine wpList_to rfl (.pointer (some ⟨w3.heap.size, 0, none⟩)) (w3.alloc (.cells (row 64 (yv fun _ => 0#8)).toArray 54)) (by simp [go_sem, hz2]) ?_
  simp only [Act.put, List.setIfInBounds_toArray, List.set_cons_zero, List.set_cons_succ]
  refine wpList_store_mid rfl 54 (.tmp 3) (.tmp 5) rfl _ 0 (row 64 (yv R)).toArray rfl rfl (by rw [row_size]; exact HN.out.there) (by rw [row_size]; exact info29) (row_one fun _ _ => rfl) ?_
  have HN2 := hideit (HN.out.cells (g' := yv R))
  have HQ5 := hideit (HQ4.out.cellsOther (c := w3.heap.size) (by omega) (row 64 (yv R)) 0)
  have HE5 := hideit (below_setCells w3.heap.size (by omega) (row 64 (yv R)) 0 _ HE4.out)
  generalize ((w3.alloc (.cells (row 64 (yv fun _ => 0#8)).toArray 54)).setCells w3.heap.size 0 (row 64 (yv R))) = w5 at *
  clear HN HQ4 HE4
  simp only [Act.put]
  go_upto_region 2 with (fail)
  have hne := kept_ne w5.drew
  refine wp_region_two (spB R) (fun i b w w' hh hk => RowAt.carry hh hk) [0, 2] [1, 3] [4, 5] [_, _] [_, _] (by kernel_rfl) (by kernel_rfl) rfl rfl (by decide +kernel) (by decide +kernel) (by decide +kernel) (by decide +kernel) (by decide +kernel) (by decide +kernel) (by decide +kernel) (by decide +kernel) ?_
  simp only [List.getElem_toArray, List.getElem_cons_zero, List.getElem_cons_succ]
  refine wpStrong_run 2 rfl ?_
  simp only [List.take_succ_cons, List.take_zero, List.drop_succ_cons, List.drop_zero]
  go_big_quiet_want
  refine loadQ 54 (.tmp 3) w3.heap.size 0 64 (yv R) rfl rfl (fun w' hw' => (RowAt.carry (RowAt.drew HN2.out) hw').range) Tryd.underlying54 rfl info29 ?_
  simp only [Act.put, List.setIfInBounds_toArray, List.set_cons_zero, List.set_cons_succ]
  go_big_quiet_on
  go_big_quiet_want
  refine loadQ 54 (.tmp 3) w3.heap.size 0 64 (yv R) rfl rfl (fun w' hw' => (RowAt.carry (RowAt.drew HN2.out) hw').range) Tryd.underlying54 rfl info29 ?_
  simp only [Act.put, List.setIfInBounds_toArray, List.set_cons_zero, List.set_cons_succ]
  go_big_quiet_on
  refine wpQuiet_nil ?_
  refine wpStrong_nil ?_
  have hE5 : Ext w w5.drew := HE5.out.drew
  refine ⟨_, rfl, GenY.call rfl (fun X => by simp [go_sem]) (fun X hX => (beginWith_any R 54#8 X (hC.out.ext (Ext.trans hE5 hX))).mono ?_), fun b1 hb1 _ => ?_⟩
  · rintro e w' ⟨c, k1, rfl, k2, k3⟩
    exact ⟨c, k1, k2.2.2, rfl, k2, k3⟩
  simp only [List.getElem_toArray, List.getElem_cons_zero, List.getElem_cons_succ, Act.put, List.setIfInBounds_toArray, List.set_cons_zero, List.set_cons_succ]
  refine ⟨_, rfl, GenY.call rfl (fun X => by simp [go_sem]) (fun X hX => (beginWith_any R 92#8 X (hC.out.ext (Ext.trans hE5 hX))).mono ?_), fun b2 hb2 hn => ?_⟩
  · rintro e w' ⟨c, k1, rfl, k2, k3⟩
    exact ⟨c, k1, k2.2.2, rfl, k2, k3⟩
  simp only [List.getElem_toArray, List.getElem_cons_zero, List.getElem_cons_succ, Act.put, List.setIfInBounds_toArray, List.set_cons_zero, List.set_cons_succ]
  intro w6 hw6 hH
  have H1 : Hid (HashOf b1 (maskF R 54#8) 64 w6) := (hH (b1, 1) (by simp)).1
  have H2 : Hid (HashOf b2 (maskF R 92#8) 64 w6) := (hH (b2, 3) (by simp)).1
  have hbb : b1 ≠ b2 := hn (b1, 1) (by simp)
  have hb1' : w.heap.size < b1 := Nat.lt_of_lt_of_le HQ5.out.2.2 hb1
  have hb2' : w.heap.size < b2 := Nat.lt_of_lt_of_le HQ5.out.2.2 hb2
  have HQ6 := hideit ((RowAt.drew HQ5.out).carry hw6)
  have HE6 := hideit (Ext.trans hE5 hw6)
  clear hH hn hw6 hE5 HE5 HQ5 HN2 hne hb1 hb2
  refine wpList_build rfl 42 [(0, .tmp 7), (1, .tmp 9)] rfl _ (bldD b1 b2 _) ?_
  simp only [Act.put, List.setIfInBounds_toArray, List.set_cons_zero, List.set_cons_succ]
  refine wpList_store_mid rfl 42 (.tmp 2) (.tmp 10) rfl w.heap.size 0 (row 2 (dv b1 b2)).toArray rfl rfl (by rw [row_size]; exact HQ6.out.there) (by rw [row_size]; exact infoD) (row_one fun j _ => dv_one _ _ j) ?_
  go_wp2
  exact bodyPost_ret (ret_row Tryd.results21 rfl (HQ6.out.cells (g' := dv b1 b2)) Tryd.underlying42 rfl infoD) rfl ⟨b1, b2, hbb, by omega, by omega, rfl, RowAt.cellsOther H1.out (by omega) _ _, RowAt.cellsOther H2.out (by omega) _ _, below_setCells _ (Nat.le_refl _) _ _ _ HE6.out⟩
def spF (m1 m2 : Nat → BitVec 8) (n1 n2 : Nat) (i : Nat) : Sp := ⟨fun b => .pointer (some ⟨b, 0, none⟩), fun b w => if i = 2 then HashOf b m1 n1 w else HashOf b m2 n2 w⟩
set_option maxRecDepth 20000 in
set_option maxHeartbeats 1000000 in
theorem forkD_any (c1 c2 n1 n2 : Nat) (m1 m2 : Nat → BitVec 8) (w : World) (h1 : HashOf c1 m1 n1 w) (h2 : HashOf c2 m2 n2 w) :
    Calls Tryd.prog 23 #[.agg (row 2 (dv c1 c2)).toArray] w fun e w' => ∃ d1 d2, d1 ≠ d2 ∧ w.heap.size ≤ d1 ∧ w.heap.size ≤ d2 ∧ e = .returned (.agg (row 2 (dv d1 d2)).toArray) ∧ HashOf d1 m1 n1 w' ∧ HashOf d2 m2 n2 w' ∧ Ext w w' := by
  have hz := zeroD
  have HA := hideit (RowAt.new w 2 (dv c1 c2) 42)
  have HE1 : Ext w (w.alloc (.cells (row 2 (dv c1 c2)).toArray 42)) := (Below.refl _ _).alloc (Nat.le_refl _) _
  have HQ := hideit (RowAt.new (w.alloc (.cells (row 2 (dv c1 c2)).toArray 42)) 2 (fun _ => Value.pointer none) 42)
  have hE2 : Ext (w.alloc (.cells (row 2 (dv c1 c2)).toArray 42)) ((w.alloc (.cells (row 2 (dv c1 c2)).toArray 42)).alloc (.cells (row 2 (fun _ => Value.pointer none)).toArray 42)) := (Below.refl _ _).alloc (Nat.le_refl _) _
  have HA2 := hideit (HA.out.carry hE2)
  have HE2 := hideit (Ext.trans HE1 hE2)
  have hsz : (w.alloc (.cells (row 2 (dv c1 c2)).toArray 42)).heap.size = w.heap.size + 1 := by simp
  rw [hsz] at HQ
  replace h1 := hideit h1
  replace h2 := hideit h2
  clear HA HE1 hE2 hsz
  go_enter Tryd.func23, Tryd.ntmps23
  go_upto_region 1 with (fail)
  generalize (w.alloc (.cells (row 2 (dv c1 c2)).toArray 42)).alloc (.cells (row 2 (fun _ => Value.pointer none)).toArray 42) = w5 at *
  have hne := kept_ne w5.drew
  have ea : ∀ k : Kept (Ext w5.drew), k.w.cell? ⟨w.heap.size, 0, none⟩ = some (.pointer (some ⟨c1, 0, none⟩)) := fun k => HA2.out.kept 0 (by omega) k
  have eb : ∀ k : Kept (Ext w5.drew), k.w.cell? ⟨w.heap.size, 1, none⟩ = some (.pointer (some ⟨c2, 0, none⟩)) := fun k => HA2.out.kept 1 (by omega) k
  refine wp_region_two (spF m1 m2 n1 n2) (fun i b w w' hh hk => by
    by_cases hi : i = 2
    · simp only [spF, if_pos hi] at hh ⊢; exact RowAt.carry hh hk
    · simp only [spF, if_neg hi] at hh ⊢; exact RowAt.carry hh hk) [0, 1, 3, 4] [2, 5] [6, 7] [_, _, _, _] [_, _] (by kernel_rfl) (by kernel_rfl) rfl rfl (by decide +kernel) (by decide +kernel) (by decide +kernel) (by decide +kernel) (by decide +kernel) (by decide +kernel) (by decide +kernel) (by decide +kernel) ?_
  simp only [List.getElem_toArray, List.getElem_cons_zero, List.getElem_cons_succ]
  refine wpStrong_run 4 rfl ?_
  simp only [List.take_succ_cons, List.take_zero, List.drop_succ_cons, List.drop_zero]
  repeat (go_big_quiet_step (fail))
  refine wpQuiet_nil ?_
  refine wpStrong_nil ?_
  have hE5 : Ext w w5.drew := HE2.out.drew
  refine ⟨_, rfl, GenY.call rfl (fun X => by simp [go_sem]) (fun X hX => (fork_any c1 n1 _ _ X (RowAt.carry h1.out (Ext.trans hE5 hX))).mono ?_), fun b1 hb1 _ => ?_⟩
  · rintro e w' ⟨c, k1, rfl, k2, k3⟩
    exact ⟨c, k1, k2.2.2, rfl, k2, k3⟩
  simp only [List.getElem_toArray, List.getElem_cons_zero, List.getElem_cons_succ, Act.put, List.setIfInBounds_toArray, List.set_cons_zero, List.set_cons_succ]
  refine ⟨_, rfl, GenY.call rfl (fun X => by simp [go_sem]) (fun X hX => (fork_any c2 n2 _ _ X (RowAt.carry h2.out (Ext.trans hE5 hX))).mono ?_), fun b2 hb2 hn => ?_⟩
  · rintro e w' ⟨c, k1, rfl, k2, k3⟩
    exact ⟨c, k1, k2.2.2, rfl, k2, k3⟩
  simp only [List.getElem_toArray, List.getElem_cons_zero, List.getElem_cons_succ, Act.put, List.setIfInBounds_toArray, List.set_cons_zero, List.set_cons_succ]
  intro w6 hw6 hH
  have H1 : Hid (HashOf b1 m1 n1 w6) := (hH (b1, 2) (by simp)).1
  have H2 : Hid (HashOf b2 m2 n2 w6) := (hH (b2, 5) (by simp)).1
  have hbb : b1 ≠ b2 := hn (b1, 2) (by simp)
  have hb1' : w.heap.size + 1 < b1 := Nat.lt_of_lt_of_le HQ.out.2.2 hb1
  have hb2' : w.heap.size + 1 < b2 := Nat.lt_of_lt_of_le HQ.out.2.2 hb2
  have HQ6 := hideit ((RowAt.drew HQ.out).carry hw6)
  have HE6 := hideit (Ext.trans hE5 hw6)
  clear hH hn hw6 hE5 HE2 HQ HA2 hne hb1 hb2 ea eb
  refine wpList_build rfl 42 [(0, .tmp 5), (1, .tmp 8)] rfl _ (bldD b1 b2 _) ?_
  simp only [Act.put, List.setIfInBounds_toArray, List.set_cons_zero, List.set_cons_succ]
  refine wpList_store_mid rfl 42 (.tmp 2) (.tmp 9) rfl (w.heap.size + 1) 0 (row 2 (dv b1 b2)).toArray rfl rfl (by rw [row_size]; exact HQ6.out.there) (by rw [row_size]; exact infoD) (row_one fun j _ => dv_one _ _ j) ?_
  go_wp2
  exact bodyPost_ret (ret_row Tryd.results23 rfl (HQ6.out.cells (g' := dv b1 b2)) Tryd.underlying42 rfl infoD) rfl ⟨b1, b2, hbb, by omega, by omega, rfl, RowAt.cellsOther H1.out (by omega) _ _, RowAt.cellsOther H2.out (by omega) _ _, below_setCells _ (by omega) _ _ _ HE6.out⟩
end Go.Proofs.YthgflnjeojhgkaaDoor
