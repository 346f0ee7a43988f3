/-
  What must come of every program.
-/
import Derived.Test.YtapmheocllicnaaDoorBld
import Derived.Test.YtapmheocllicnaaDoorChk
import Derived.Test.YtapmheocllicnaaDoorKna
namespace Go.Proofs.YtapmheocllicnaaDoor
open Go.RowKit Go.BigFrame
def dAB (i : Nat) : Nat → BitVec 8 := if i = 0 then leafF aF 1 else leafF bF 1
theorem rowAB : (row 64 (lfV dAB)) = row 32 (yv (leafF aF 1)) ++ row 32 (yv (leafF bF 1)) := by
  symm
  refine row_append 32 32 _ _ _ (fun j hj => ?_) (fun j hj => ?_)
  · unfold lfV
    rw [show j / 32 = 0 by omega, show j % 32 = j by omega]
    rfl
  · unfold lfV
    rw [show (32 + j) / 32 = 1 by omega, show (32 + j) % 32 = j by omega]
    rfl
theorem bs22 (f g : Nat → BitVec 8) (w : World) : (Instr.buildSlice 22 2 #[(0, .agg (row 32 (yv f)).toArray), (1, .agg (row 32 (yv g)).toArray)]).run Tryd.prog w = .ok (.slice (some ⟨w.heap.size, 0, none⟩) 2 2) (w.alloc (.cells (row 32 (yv f) ++ row 32 (yv g)).toArray 25)) := by
  kernel_rfl
theorem wpList_bslice {P : Program} {w : World} {ops : Array Oper} {rest : List Oper} {o : Oper} {a : Act} {Q : Exit → Act → World → Prop} (hg : o.guard = none) (t : TypeId) (n : Nat) (l : List (Nat × Operand)) (ho : o.op = .buildSlice t n l.toArray) (v : Value) (w' : World)
    (hr : (Instr.buildSlice t n (l.map fun x => (x.1, a.eval x.2)).toArray).run P w = .ok v w') (h : wpList P ops Q rest (a.put o.dst v) w') : wpList P ops Q (o :: rest) a w := by
  refine wpList_to hg v w' ?_ h
  unfold execOp
  rw [ho]
  simp only [List.map_toArray, Sem.run_bind, hr, Result.andThen_ok, Sem.run_pure]
theorem leaf_range {b n : Nat} {d : Nat → Nat → BitVec 8} {w : World} (h : RowAt b (n * 32) (lfV d) w) (i : Nat) (hi : i < n) : w.rangeAt b (i * 32) (row 32 (yv (d i))) := fun j x hx => by
  obtain ⟨hj, rfl⟩ := row_some hx
  rw [h.1 (i * 32 + j) (by omega), lf_row d i j hj]
theorem ok1 : (chL (dAB 1) 1 (nodeB 2 dAB 0) (List.range 1)).2 ∧ ∀ t, t < 32 → rootF 2 (chL (dAB 1) 1 (nodeB 2 dAB 0) (List.range 1)).1 t = rootF 2 (digB 2 dAB 1 0) t := by
  refine ⟨⟨trivial, fun t ht => ?_⟩, fun t _ => rfl⟩
  show nodeC dAB 2 0 (32 * 1 + t) = dAB 1 t
  unfold nodeC
  rw [if_pos (by omega), show 16 * 0 + (32 * 1 + t) / 32 = 1 by omega, show (32 * 1 + t) % 32 = t by omega]
theorem no0 : ¬ ((chL (dAB 1) 0 (nodeB 2 dAB 0) (List.range 1)).2 ∧ ∀ t, t < 32 → rootF 2 (chL (dAB 1) 0 (nodeB 2 dAB 0) (List.range 1)).1 t = rootF 2 (digB 2 dAB 1 0) t) := by
  rintro ⟨⟨_, h⟩, _⟩
  have h1 : nodeC dAB 2 0 (32 * 0 + 0) = dAB 1 0 := h 0 (by decide)
  have h2 : nodeC dAB 2 0 (32 * 0 + 0) = leafF aF 1 0 := rfl
  have h3 : dAB 1 0 = leafF bF 1 0 := rfl
  rw [h2, h3, leaf_a, leaf_b] at h1
  revert h1
  decide
theorem neAB : eqN 32 (dAB 0) (dAB 1) = false := by
  cases h : eqN 32 (dAB 0) (dAB 1) with
  | false => rfl
  | true =>
    exfalso
    have h1 : leafF aF 1 0 = leafF bF 1 0 := eqN_iff.1 h 0 (by decide)
    rw [leaf_a, leaf_b] at h1
    revert h1
    decide
theorem lv17 : lvN 17 = 2 := rfl
set_option maxRecDepth 20000 in
set_option maxHeartbeats 8000000 in
theorem lives_any (w : World) (hC : TabC w) : Calls Tryd.prog 11 #[] w fun e w' => e = .returned (.bool true) ∧ Ext w w' := by
  have hz := zero24
  obtain ⟨w1, hcv1, hbv1, hX1⟩ := constB w #[.int .u8 97] 1 aF (fun j hj => by
    have : j = 0 := by omega
    subst this
    rfl)
  replace hC := hideit hC
  go_enter Tryd.func11, Tryd.ntmps11
  go_upto_region 1 with (fail)
  refine wp_region_lit ?_
  refine wpList_to rfl (.slice (some ⟨w.heap.size, 0, none⟩) 1 1) (w.alloc (.cells #[.int .u8 97] 5)) (by simp [go_sem]) ?_
  simp only [Act.put, List.setIfInBounds_toArray, List.set_cons_zero, List.set_cons_succ]
  refine wpList_to rfl (.slice (some ⟨w.heap.size, 0, none⟩) 1 1) (w1) (by simp [go_sem, hcv1]) ?_
  simp only [Act.put, List.setIfInBounds_toArray, List.set_cons_zero, List.set_cons_succ]
  refine wpList_call rfl (by simp [go_sem]) ((leaf_any _ 1 aF w1 hbv1 (hC.out.ext hX1) (by decide)).mono ?_)
  rintro e w2 ⟨rfl, hX2⟩
  refine ⟨_, rfl, ?_⟩
  simp only [Act.put, List.setIfInBounds_toArray, List.set_cons_zero, List.set_cons_succ]
  have hE2 := Ext.trans hX1 hX2
  clear hcv1 hbv1 hX1 hX2
  obtain ⟨w3, hcv1, hbv1, hX3⟩ := constB w2 #[.int .u8 98] 1 bF (fun j hj => by
    have : j = 0 := by omega
    subst this
    rfl)
  have hE3 := Ext.trans hE2 hX3
  refine wpList_to rfl (.slice (some ⟨w2.heap.size, 0, none⟩) 1 1) (w2.alloc (.cells #[.int .u8 98] 5)) (by simp [go_sem]) ?_
  simp only [Act.put, List.setIfInBounds_toArray, List.set_cons_zero, List.set_cons_succ]
  refine wpList_to rfl (.slice (some ⟨w2.heap.size, 0, none⟩) 1 1) (w3) (by simp [go_sem, hcv1]) ?_
  simp only [Act.put, List.setIfInBounds_toArray, List.set_cons_zero, List.set_cons_succ]
  refine wpList_call rfl (by simp [go_sem]) ((leaf_any _ 1 bF w3 hbv1 (hC.out.ext hE3) (by decide)).mono ?_)
  rintro e w4 ⟨rfl, hX4⟩
  refine ⟨_, rfl, ?_⟩
  simp only [Act.put, List.setIfInBounds_toArray, List.set_cons_zero, List.set_cons_succ]
  have hE4 := Ext.trans hE3 hX4
  clear hcv1 hbv1 hX3 hE2 hE3 hX4
  have HL : RowAt w4.heap.size 64 (lfV dAB) (w4.alloc (.cells (row 32 (yv (leafF aF 1)) ++ row 32 (yv (leafF bF 1))).toArray 25)) := by
    rw [← rowAB]
    exact RowAt.new w4 64 (lfV dAB) 25
  have hE5 := Ext.trans hE4 ((Below.refl _ w4).alloc (Nat.le_refl _) (.cells (row 32 (yv (leafF aF 1)) ++ row 32 (yv (leafF bF 1))).toArray 25))
  refine wpList_bslice rfl 22 2 [(0, .tmp 10), (1, .tmp 13)] rfl (.slice (some ⟨w4.heap.size, 0, none⟩) 2 2) _ (bs22 _ _ w4) ?_
  simp only [Act.put, List.setIfInBounds_toArray, List.set_cons_zero, List.set_cons_succ]
  generalize w4.alloc (.cells (row 32 (yv (leafF aF 1)) ++ row 32 (yv (leafF bF 1))).toArray 25) = w5 at *
  generalize w4.heap.size = lb at *
  clear hE4
  replace HL := hideit HL
  replace hE5 := hideit hE5
  have kb := build_any 2 (by decide) (by decide) (.slice (some ⟨lb, 0, none⟩) 2 2) dAB w5 (.inr ⟨_, 2, rfl, Nat.le_refl _, HL.out.lie 64 (Nat.le_refl _)⟩) (hC.out.ext hE5.out)
  rw [show lvN 2 = 1 from rfl] at kb
  obtain ⟨RT, hRT⟩ : ∃ RT, RT = (rootF 2 (digB 2 dAB 1 0)) := ⟨_, rfl⟩
  rw [← hRT] at kb
  replace hRT := hideit hRT
  replace kb := hideit kb
  go_upto_region 2 with (fail)
  refine wp_region_lit ?_
  refine wpList_run rfl (.slice (some ⟨lb, 0, none⟩) 2 2) (by simp [go_sem]) ?_
  simp only [Act.put, List.setIfInBounds_toArray, List.set_cons_zero, List.set_cons_succ]
  refine wpList_call rfl (by simp [go_sem]) ((kb.out).mono ?_)
  rintro e w6 ⟨lv, Bs, rfl, hO6, hl6, hX6⟩
  refine ⟨_, rfl, ?_⟩
  simp only [Act.put, List.setIfInBounds_toArray, List.set_cons_zero, List.set_cons_succ]
  obtain ⟨vb, vcap, rfl, -, -, -, hv6⟩ := hO6.lies (by decide)
  have hl0 := (hl6 0 (by decide)).2
  rw [show lc 2 0 = 1 from rfl] at hl0
  have HL6 := HL.out.carry hX6
  have hE6 := Ext.trans hE5.out hX6
  clear kb hO6 hl6 hX6 HL hE5
  refine wpList_run rfl (.tuple #[.slice (some ⟨vb, 0, none⟩) 1 vcap, .agg (row 32 (yv RT)).toArray, .int .i64 0]) (by simp [go_sem]) ?_
  simp only [Act.put, List.setIfInBounds_toArray, List.set_cons_zero, List.set_cons_succ]
  refine wpList_run rfl (.slice (some ⟨vb, 0, none⟩) 1 vcap) (by simp [go_sem]) ?_
  simp only [Act.put, List.setIfInBounds_toArray, List.set_cons_zero, List.set_cons_succ]
  refine wpList_run rfl (.agg (row 32 (yv RT)).toArray) (by simp [go_sem]) ?_
  simp only [Act.put, List.setIfInBounds_toArray, List.set_cons_zero, List.set_cons_succ]
  refine wpList_run rfl (.int .i64 0) (by simp [go_sem]) ?_
  simp only [Act.put, List.setIfInBounds_toArray, List.set_cons_zero, List.set_cons_succ]
  have hX7 : Ext w6 (w6.alloc (.cells (row 32 (yv fun _ => 0#8)).toArray 25)) := (Below.refl _ _).alloc (Nat.le_refl _) _
  have C7 := RowAt.new w6 32 (yv fun _ => 0#8) 25
  have hY7 := below_setCells (w := w6) w6.heap.size (Nat.le_refl _) (row 32 (yv RT)) 0 _ hX7
  have S : Hid (RowAt lb 64 (lfV dAB) ((w6.alloc (.cells (row 32 (yv fun _ => 0#8)).toArray 25)).setCells w6.heap.size 0 (row 32 (yv RT))) ∧ RowAt vb 1 (lvV 2 Bs) ((w6.alloc (.cells (row 32 (yv fun _ => 0#8)).toArray 25)).setCells w6.heap.size 0 (row 32 (yv RT))) ∧ RowAt w6.heap.size 32 (yv RT) ((w6.alloc (.cells (row 32 (yv fun _ => 0#8)).toArray 25)).setCells w6.heap.size 0 (row 32 (yv RT))) ∧ LevAt (Bs 0) 1 (nodeB 2 dAB 0) ((w6.alloc (.cells (row 32 (yv fun _ => 0#8)).toArray 25)).setCells w6.heap.size 0 (row 32 (yv RT))) ∧ TabC ((w6.alloc (.cells (row 32 (yv fun _ => 0#8)).toArray 25)).setCells w6.heap.size 0 (row 32 (yv RT))) ∧ Ext w ((w6.alloc (.cells (row 32 (yv fun _ => 0#8)).toArray 25)).setCells w6.heap.size 0 (row 32 (yv RT)))) :=
    ⟨HL6.carry hY7, hv6.carry hY7, C7.cells, hl0.carry hY7, (hC.out.ext hE6).ext hY7, Ext.trans hE6 hY7⟩
  refine wpList_to rfl (.pointer (some ⟨w6.heap.size, 0, none⟩)) (w6.alloc (.cells (row 32 (yv fun _ => 0#8)).toArray 25)) (by simp [go_sem, hz]) ?_
  simp only [Act.put, List.setIfInBounds_toArray, List.set_cons_zero, List.set_cons_succ]
  refine wpList_run rfl (.slice (some ⟨vb, 0, none⟩) 1 vcap) (by simp [go_sem]) ?_
  simp only [Act.put, List.setIfInBounds_toArray, List.set_cons_zero, List.set_cons_succ]
  refine wpList_store_mid rfl 25 (.tmp 3) (.tmp 19) rfl _ 0 (row 32 (yv RT)).toArray rfl rfl (by rw [row_size]; exact C7.there) (by rw [row_size]; exact info24) (row_one fun _ _ => rfl) ?_
  rw [show (row 32 (yv RT)).toArray.toList = row 32 (yv RT) from rfl]
  generalize (w6.alloc (.cells (row 32 (yv fun _ => 0#8)).toArray 25)).setCells w6.heap.size 0 (row 32 (yv RT)) = w7 at *
  generalize w6.heap.size = rb at *
  clear hX7 C7 hY7 HL6 hv6 hl0 hE6 hC
  simp only [Act.put]
  have lv0 : lvV 2 Bs 0 = .slice (some ⟨Bs 0, 0, none⟩) 1 1 := rfl
  have ev := S.out.2.1.1 0 (by decide)
  rw [lv0] at ev
  clear hz
  go_upto_region 5 with (fail)
  clear ev
  replace S : Hid (RowAt lb 64 (lfV dAB) w7.drew ∧ RowAt vb 1 (lvV 2 Bs) w7.drew ∧ RowAt rb 32 (yv RT) w7.drew ∧ LevAt (Bs 0) 1 (nodeB 2 dAB 0) w7.drew ∧ TabC w7.drew ∧ Ext w w7.drew) := by
    have hXX : Ext w7 w7.drew := (Ext.refl w7).draw
    exact ⟨S.out.1.carry hXX, S.out.2.1.carry hXX, S.out.2.2.1.carry hXX, S.out.2.2.2.1.carry hXX, S.out.2.2.2.2.1.ext hXX, Ext.trans S.out.2.2.2.2.2 hXX⟩
  refine wp_region_lad (fun X => RowAt lb 64 (lfV dAB) X ∧ RowAt vb 1 (lvV 2 Bs) X ∧ RowAt rb 32 (yv RT) X) [(false, 0), (false, 1), (false, 2), (false, 3), (false, 4), (false, 5), (false, 6), (true, 7), (false, 8)] (by kernel_rfl) (by kernel_rfl) (by decide +kernel) (by decide +kernel) (by decide +kernel) (by decide +kernel) ⟨S.out.1, S.out.2.1, S.out.2.2.1⟩ ?_
  refine wpX_f _ (.slice (some ⟨lb, 0, none⟩) 2 2) rfl rfl (fun X _ => by simp [go_sem]) ?_
  simp only [List.getElem_toArray, List.getElem_cons_zero, Act.put, List.setIfInBounds_toArray, List.set_cons_zero, List.set_cons_succ]
  refine wpX_f _ (.pointer (some ⟨lb, 32, none⟩)) rfl rfl (fun X _ => by simp [go_sem]) ?_
  simp only [List.getElem_toArray, List.getElem_cons_zero, List.getElem_cons_succ, Act.put, List.setIfInBounds_toArray, List.set_cons_zero, List.set_cons_succ]
  refine wpX_f _ (.agg (row 32 (yv (dAB 1))).toArray) rfl rfl (fun X hX => exec_loadR 25 (.tmp 36) rfl lb 32 32 _ rfl (leaf_range (n := 2) hX.1 1 (by decide)) Tryd.underlying25 rfl info24) ?_
  simp only [List.getElem_toArray, List.getElem_cons_zero, List.getElem_cons_succ, Act.put, List.setIfInBounds_toArray, List.set_cons_zero, List.set_cons_succ]
  refine wpX_f _ (.slice (some ⟨vb, 0, none⟩) 1 vcap) rfl rfl (fun X _ => by simp [go_sem]) ?_
  simp only [List.getElem_toArray, List.getElem_cons_zero, List.getElem_cons_succ, Act.put, List.setIfInBounds_toArray, List.set_cons_zero, List.set_cons_succ]
  refine wpX_f _ (.pointer (some ⟨vb, 0, none⟩)) rfl rfl (fun X _ => by simp [go_sem]) ?_
  simp only [List.getElem_toArray, List.getElem_cons_zero, List.getElem_cons_succ, Act.put, List.setIfInBounds_toArray, List.set_cons_zero, List.set_cons_succ]
  refine wpX_f _ (.slice (some ⟨Bs 0, 0, none⟩) 1 1) rfl rfl (fun X hX => by have e := hX.2.1.1 0 (by decide); rw [lv0] at e; simp [go_sem, e]) ?_
  simp only [List.getElem_toArray, List.getElem_cons_zero, List.getElem_cons_succ, Act.put, List.setIfInBounds_toArray, List.set_cons_zero, List.set_cons_succ]
  refine wpX_f _ (.agg (row 32 (yv RT)).toArray) rfl rfl (fun X hX => exec_loadR 25 (.tmp 3) rfl rb 0 32 _ rfl hX.2.2.range Tryd.underlying25 rfl info24) ?_
  simp only [List.getElem_toArray, List.getElem_cons_zero, List.getElem_cons_succ, Act.put, List.setIfInBounds_toArray, List.set_cons_zero, List.set_cons_succ]
  have kc := check_go 2 1 1 (by decide) (by decide) (by decide) (dAB 1) RT _ (ndV (Bs 0)) (fun _ => 512) (nodeB 2 dAB 0) w7.drew (S.out.2.2.2.1.parts) (S.out.2.2.2.2.1) rfl (fun _ _ => rfl)
  refine wpX_call _ rfl rfl (by simp [go_sem]) (kc.mono ?_)
  rintro e w8 ⟨z, rfl, hXX, hz9⟩
  obtain rfl : z = 0 := by
    rcases hz9 with ⟨h, h'⟩ | ⟨h, h'⟩
    · exact h
    · exact absurd (by rw [hRT.out]; exact ok1) h'
  replace S : Hid (RowAt lb 64 (lfV dAB) w8 ∧ RowAt vb 1 (lvV 2 Bs) w8 ∧ RowAt rb 32 (yv RT) w8 ∧ LevAt (Bs 0) 1 (nodeB 2 dAB 0) w8 ∧ TabC w8 ∧ Ext w w8) := ⟨S.out.1.carry hXX, S.out.2.1.carry hXX, S.out.2.2.1.carry hXX, S.out.2.2.2.1.carry hXX, S.out.2.2.2.2.1.ext hXX, Ext.trans S.out.2.2.2.2.2 hXX⟩
  clear kc hz9 hXX
  refine ⟨_, rfl, fun X => RowAt lb 64 (lfV dAB) X ∧ RowAt vb 1 (lvV 2 Bs) X ∧ RowAt rb 32 (yv RT) X, fun X hX => hX, ⟨S.out.1, S.out.2.1, S.out.2.2.1⟩, ?_⟩
  simp only [List.getElem_toArray, List.getElem_cons_zero, List.getElem_cons_succ, Act.put, List.setIfInBounds_toArray, List.set_cons_zero, List.set_cons_succ]
  refine wpX_f _ (.int .i64 0) rfl rfl (fun X _ => by simp [go_sem]) ?_
  simp only [List.getElem_toArray, List.getElem_cons_zero, List.getElem_cons_succ, Act.put, List.setIfInBounds_toArray, List.set_cons_zero, List.set_cons_succ]
  refine wpX_nil ?_
  go_upto_region 6 with (fail)
  replace S : Hid (RowAt lb 64 (lfV dAB) w8.drew ∧ RowAt vb 1 (lvV 2 Bs) w8.drew ∧ RowAt rb 32 (yv RT) w8.drew ∧ LevAt (Bs 0) 1 (nodeB 2 dAB 0) w8.drew ∧ TabC w8.drew ∧ Ext w w8.drew) := by
    have hXX : Ext w8 w8.drew := (Ext.refl w8).draw
    exact ⟨S.out.1.carry hXX, S.out.2.1.carry hXX, S.out.2.2.1.carry hXX, S.out.2.2.2.1.carry hXX, S.out.2.2.2.2.1.ext hXX, Ext.trans S.out.2.2.2.2.2 hXX⟩
  refine wp_region_lad (fun X => RowAt lb 64 (lfV dAB) X ∧ RowAt vb 1 (lvV 2 Bs) X ∧ RowAt rb 32 (yv RT) X) [(false, 0), (false, 1), (false, 2), (false, 3), (false, 4), (false, 5), (false, 6), (true, 7), (false, 8)] (by kernel_rfl) (by kernel_rfl) (by decide +kernel) (by decide +kernel) (by decide +kernel) (by decide +kernel) ⟨S.out.1, S.out.2.1, S.out.2.2.1⟩ ?_
  refine wpX_f _ (.slice (some ⟨lb, 0, none⟩) 2 2) rfl rfl (fun X _ => by simp [go_sem]) ?_
  simp only [List.getElem_toArray, List.getElem_cons_zero, Act.put, List.setIfInBounds_toArray, List.set_cons_zero, List.set_cons_succ]
  refine wpX_f _ (.pointer (some ⟨lb, 32, none⟩)) rfl rfl (fun X _ => by simp [go_sem]) ?_
  simp only [List.getElem_toArray, List.getElem_cons_zero, List.getElem_cons_succ, Act.put, List.setIfInBounds_toArray, List.set_cons_zero, List.set_cons_succ]
  refine wpX_f _ (.agg (row 32 (yv (dAB 1))).toArray) rfl rfl (fun X hX => exec_loadR 25 (.tmp 44) rfl lb 32 32 _ rfl (leaf_range (n := 2) hX.1 1 (by decide)) Tryd.underlying25 rfl info24) ?_
  simp only [List.getElem_toArray, List.getElem_cons_zero, List.getElem_cons_succ, Act.put, List.setIfInBounds_toArray, List.set_cons_zero, List.set_cons_succ]
  refine wpX_f _ (.slice (some ⟨vb, 0, none⟩) 1 vcap) rfl rfl (fun X _ => by simp [go_sem]) ?_
  simp only [List.getElem_toArray, List.getElem_cons_zero, List.getElem_cons_succ, Act.put, List.setIfInBounds_toArray, List.set_cons_zero, List.set_cons_succ]
  refine wpX_f _ (.pointer (some ⟨vb, 0, none⟩)) rfl rfl (fun X _ => by simp [go_sem]) ?_
  simp only [List.getElem_toArray, List.getElem_cons_zero, List.getElem_cons_succ, Act.put, List.setIfInBounds_toArray, List.set_cons_zero, List.set_cons_succ]
  refine wpX_f _ (.slice (some ⟨Bs 0, 0, none⟩) 1 1) rfl rfl (fun X hX => by have e := hX.2.1.1 0 (by decide); rw [lv0] at e; simp [go_sem, e]) ?_
  simp only [List.getElem_toArray, List.getElem_cons_zero, List.getElem_cons_succ, Act.put, List.setIfInBounds_toArray, List.set_cons_zero, List.set_cons_succ]
  refine wpX_f _ (.agg (row 32 (yv RT)).toArray) rfl rfl (fun X hX => exec_loadR 25 (.tmp 3) rfl rb 0 32 _ rfl hX.2.2.range Tryd.underlying25 rfl info24) ?_
  simp only [List.getElem_toArray, List.getElem_cons_zero, List.getElem_cons_succ, Act.put, List.setIfInBounds_toArray, List.set_cons_zero, List.set_cons_succ]
  have kc := check_go 2 0 1 (by decide) (by decide) (by decide) (dAB 1) RT _ (ndV (Bs 0)) (fun _ => 512) (nodeB 2 dAB 0) w8.drew (S.out.2.2.2.1.parts) (S.out.2.2.2.2.1) rfl (fun _ _ => rfl)
  refine wpX_call _ rfl rfl (by simp [go_sem]) (kc.mono ?_)
  rintro e w9 ⟨z, rfl, hXX, hz9⟩
  obtain rfl : z = 160 := by
    rcases hz9 with ⟨h, h'⟩ | ⟨h, h'⟩
    · exact absurd h' (by rw [hRT.out]; exact no0)
    · exact h
  replace S : Hid (RowAt lb 64 (lfV dAB) w9 ∧ RowAt vb 1 (lvV 2 Bs) w9 ∧ RowAt rb 32 (yv RT) w9 ∧ LevAt (Bs 0) 1 (nodeB 2 dAB 0) w9 ∧ TabC w9 ∧ Ext w w9) := ⟨S.out.1.carry hXX, S.out.2.1.carry hXX, S.out.2.2.1.carry hXX, S.out.2.2.2.1.carry hXX, S.out.2.2.2.2.1.ext hXX, Ext.trans S.out.2.2.2.2.2 hXX⟩
  clear kc hz9 hXX
  refine ⟨_, rfl, fun X => RowAt lb 64 (lfV dAB) X ∧ RowAt vb 1 (lvV 2 Bs) X ∧ RowAt rb 32 (yv RT) X, fun X hX => hX, ⟨S.out.1, S.out.2.1, S.out.2.2.1⟩, ?_⟩
  simp only [List.getElem_toArray, List.getElem_cons_zero, List.getElem_cons_succ, Act.put, List.setIfInBounds_toArray, List.set_cons_zero, List.set_cons_succ]
  refine wpX_f _ (.int .i64 160) rfl rfl (fun X _ => by simp [go_sem]) ?_
  simp only [List.getElem_toArray, List.getElem_cons_zero, List.getElem_cons_succ, Act.put, List.setIfInBounds_toArray, List.set_cons_zero, List.set_cons_succ]
  refine wpX_nil ?_
  have kl := hideit (levels_any 17 w9 (by decide) (by decide))
  rw [lv17] at kl
  go_upto_region 7 with (fail)
  refine wp_region_lit ?_
  refine wpList_call rfl (by simp [go_sem]) ((kl.out).mono ?_)
  rintro e w10 ⟨vl, rfl, hO, hX10⟩
  refine ⟨_, rfl, ?_⟩
  simp only [Act.put, List.setIfInBounds_toArray, List.set_cons_zero, List.set_cons_succ]
  obtain ⟨xb, xcap, rfl, -, -, -, hx10⟩ := hO.lies (by decide)
  have L10 := hideit (S.out.1.carry hX10)
  have E10 := hideit (Ext.trans S.out.2.2.2.2.2 hX10)
  replace hx10 := hideit hx10
  clear S kl hO hX10
  go_upto_region 8 with (fail)
  refine wp_region_lad (fun X => RowAt lb 64 (lfV dAB) X ∧ RowAt xb 2 (lcV 17) X) [(false, 0), (false, 1), (false, 2), (false, 3), (false, 4), (false, 5), (false, 6), (false, 7), (false, 8), (false, 9), (false, 10), (false, 11), (false, 12), (false, 13), (false, 14), (false, 15), (false, 16), (false, 17), (false, 18), (false, 19), (false, 20), (false, 21), (false, 22), (false, 23), (false, 24), (false, 25), (false, 26)] (by kernel_rfl) (by kernel_rfl) (by decide +kernel) (by decide +kernel) (by decide +kernel) (by decide +kernel) ⟨L10.out.drew, hx10.out.drew⟩ ?_
  refine wpX_f _ (.int .i64 0) rfl rfl (fun X _ => by simp [go_sem]) ?_
  simp only [List.getElem_toArray, List.getElem_cons_zero, Act.put, List.setIfInBounds_toArray, List.set_cons_zero, List.set_cons_succ]
  refine wpX_f _ (.bool true) rfl rfl (fun X _ => by simp [go_sem]) ?_
  simp only [List.getElem_toArray, List.getElem_cons_zero, List.getElem_cons_succ, Act.put, List.setIfInBounds_toArray, List.set_cons_zero, List.set_cons_succ]
  refine wpX_f _ (.bool true) rfl rfl (fun X _ => by simp [go_sem]) ?_
  simp only [List.getElem_toArray, List.getElem_cons_zero, List.getElem_cons_succ, Act.put, List.setIfInBounds_toArray, List.set_cons_zero, List.set_cons_succ]
  refine wpX_f _ (.int .i64 160) rfl rfl (fun X _ => by simp [go_sem]) ?_
  simp only [List.getElem_toArray, List.getElem_cons_zero, List.getElem_cons_succ, Act.put, List.setIfInBounds_toArray, List.set_cons_zero, List.set_cons_succ]
  refine wpX_f _ (.bool true) rfl rfl (fun X _ => by simp [go_sem]) ?_
  simp only [List.getElem_toArray, List.getElem_cons_zero, List.getElem_cons_succ, Act.put, List.setIfInBounds_toArray, List.set_cons_zero, List.set_cons_succ]
  refine wpX_f _ (.bool true) rfl rfl (fun X _ => by simp [go_sem]) ?_
  simp only [List.getElem_toArray, List.getElem_cons_zero, List.getElem_cons_succ, Act.put, List.setIfInBounds_toArray, List.set_cons_zero, List.set_cons_succ]
  refine wpX_f _ (.bool true) rfl rfl (fun X _ => by simp [go_sem]) ?_
  simp only [List.getElem_toArray, List.getElem_cons_zero, List.getElem_cons_succ, Act.put, List.setIfInBounds_toArray, List.set_cons_zero, List.set_cons_succ]
  refine wpX_f _ (.slice (some ⟨xb, 0, none⟩) 2 xcap) rfl rfl (fun X _ => by simp [go_sem]) ?_
  simp only [List.getElem_toArray, List.getElem_cons_zero, List.getElem_cons_succ, Act.put, List.setIfInBounds_toArray, List.set_cons_zero, List.set_cons_succ]
  refine wpX_f _ (.int .i64 2) rfl rfl (fun X _ => by simp [go_sem]) ?_
  simp only [List.getElem_toArray, List.getElem_cons_zero, List.getElem_cons_succ, Act.put, List.setIfInBounds_toArray, List.set_cons_zero, List.set_cons_succ]
  refine wpX_f _ (.bool true) rfl rfl (fun X _ => by simp [go_sem]) ?_
  simp only [List.getElem_toArray, List.getElem_cons_zero, List.getElem_cons_succ, Act.put, List.setIfInBounds_toArray, List.set_cons_zero, List.set_cons_succ]
  refine wpX_f _ (.bool true) rfl rfl (fun X _ => by simp [go_sem]) ?_
  simp only [List.getElem_toArray, List.getElem_cons_zero, List.getElem_cons_succ, Act.put, List.setIfInBounds_toArray, List.set_cons_zero, List.set_cons_succ]
  refine wpX_f _ (.bool true) rfl rfl (fun X _ => by simp [go_sem]) ?_
  simp only [List.getElem_toArray, List.getElem_cons_zero, List.getElem_cons_succ, Act.put, List.setIfInBounds_toArray, List.set_cons_zero, List.set_cons_succ]
  refine wpX_f _ (.slice (some ⟨xb, 0, none⟩) 2 xcap) rfl rfl (fun X _ => by simp [go_sem]) ?_
  simp only [List.getElem_toArray, List.getElem_cons_zero, List.getElem_cons_succ, Act.put, List.setIfInBounds_toArray, List.set_cons_zero, List.set_cons_succ]
  refine wpX_f _ (.pointer (some ⟨xb, 0, none⟩)) rfl rfl (fun X _ => by simp [go_sem]) ?_
  simp only [List.getElem_toArray, List.getElem_cons_zero, List.getElem_cons_succ, Act.put, List.setIfInBounds_toArray, List.set_cons_zero, List.set_cons_succ]
  refine wpX_f _ (.int .i64 2) rfl rfl (fun X hX => by have e := hX.2.1 0 (by decide); rw [show lcV 17 0 = .int .i64 2 from rfl] at e; simp [go_sem, e]) ?_
  simp only [List.getElem_toArray, List.getElem_cons_zero, List.getElem_cons_succ, Act.put, List.setIfInBounds_toArray, List.set_cons_zero, List.set_cons_succ]
  refine wpX_f _ (.bool true) rfl rfl (fun X _ => by simp [go_sem]) ?_
  simp only [List.getElem_toArray, List.getElem_cons_zero, List.getElem_cons_succ, Act.put, List.setIfInBounds_toArray, List.set_cons_zero, List.set_cons_succ]
  refine wpX_f _ (.bool true) rfl rfl (fun X _ => by simp [go_sem]) ?_
  simp only [List.getElem_toArray, List.getElem_cons_zero, List.getElem_cons_succ, Act.put, List.setIfInBounds_toArray, List.set_cons_zero, List.set_cons_succ]
  refine wpX_f _ (.bool true) rfl rfl (fun X _ => by simp [go_sem]) ?_
  simp only [List.getElem_toArray, List.getElem_cons_zero, List.getElem_cons_succ, Act.put, List.setIfInBounds_toArray, List.set_cons_zero, List.set_cons_succ]
  refine wpX_f _ (.slice (some ⟨lb, 0, none⟩) 2 2) rfl rfl (fun X _ => by simp [go_sem]) ?_
  simp only [List.getElem_toArray, List.getElem_cons_zero, List.getElem_cons_succ, Act.put, List.setIfInBounds_toArray, List.set_cons_zero, List.set_cons_succ]
  refine wpX_f _ (.pointer (some ⟨lb, 0, none⟩)) rfl rfl (fun X _ => by simp [go_sem]) ?_
  simp only [List.getElem_toArray, List.getElem_cons_zero, List.getElem_cons_succ, Act.put, List.setIfInBounds_toArray, List.set_cons_zero, List.set_cons_succ]
  refine wpX_f _ (.agg (row 32 (yv (dAB 0))).toArray) rfl rfl (fun X hX => exec_loadR 25 (.tmp 71) rfl lb 0 32 _ rfl (leaf_range (n := 2) hX.1 0 (by decide)) Tryd.underlying25 rfl info24) ?_
  simp only [List.getElem_toArray, List.getElem_cons_zero, List.getElem_cons_succ, Act.put, List.setIfInBounds_toArray, List.set_cons_zero, List.set_cons_succ]
  refine wpX_f _ (.slice (some ⟨lb, 0, none⟩) 2 2) rfl rfl (fun X _ => by simp [go_sem]) ?_
  simp only [List.getElem_toArray, List.getElem_cons_zero, List.getElem_cons_succ, Act.put, List.setIfInBounds_toArray, List.set_cons_zero, List.set_cons_succ]
  refine wpX_f _ (.pointer (some ⟨lb, 32, none⟩)) rfl rfl (fun X _ => by simp [go_sem]) ?_
  simp only [List.getElem_toArray, List.getElem_cons_zero, List.getElem_cons_succ, Act.put, List.setIfInBounds_toArray, List.set_cons_zero, List.set_cons_succ]
  refine wpX_f _ (.agg (row 32 (yv (dAB 1))).toArray) rfl rfl (fun X hX => exec_loadR 25 (.tmp 74) rfl lb 32 32 _ rfl (leaf_range (n := 2) hX.1 1 (by decide)) Tryd.underlying25 rfl info24) ?_
  simp only [List.getElem_toArray, List.getElem_cons_zero, List.getElem_cons_succ, Act.put, List.setIfInBounds_toArray, List.set_cons_zero, List.set_cons_succ]
  refine wpX_f _ (.bool true) rfl rfl (fun X hX => exec_cmp .neq 25 25 (.tmp 72) (.tmp 75) rfl _ _ rfl rfl (by kernel_rfl) true ((neq25 _ _ X).trans (by rw [neAB]; rfl))) ?_
  simp only [List.getElem_toArray, List.getElem_cons_zero, List.getElem_cons_succ, Act.put, List.setIfInBounds_toArray, List.set_cons_zero, List.set_cons_succ]
  refine wpX_f _ (.bool true) rfl rfl (fun X _ => by simp [go_sem]) ?_
  simp only [List.getElem_toArray, List.getElem_cons_zero, List.getElem_cons_succ, Act.put, List.setIfInBounds_toArray, List.set_cons_zero, List.set_cons_succ]
  refine wpX_f _ (.bool true) rfl rfl (fun X _ => by simp [go_sem]) ?_
  simp only [List.getElem_toArray, List.getElem_cons_zero, List.getElem_cons_succ, Act.put, List.setIfInBounds_toArray, List.set_cons_zero]
  refine wpX_nil ?_
  go_wp2
  go_ret
  exact ⟨rfl, Ext.trans E10.out (Ext.refl _).draw⟩
end Go.Proofs.YtapmheocllicnaaDoor
