/-
  The same is told again.
-/
import Derived.Test.YtfbmeclpcgdmhabDoorQ34
namespace Go.Proofs.YtfbmeclpcgdmhabDoor
open Go.RowKit Go.BigFrame
set_option linter.unusedVariables false
theorem zeroPa (w : World) : Sem.run Tryd.prog (zeroValue 31) w = .ok (.agg (row 3 (pav 0 0 0)).toArray) w := by kernel_rfl
theorem okP181 : okP 1 8 1 := ⟨⟨by decide, by decide⟩, ⟨by decide, by decide⟩, by decide, by decide⟩
theorem bld181 (X : World) : (Instr.build 31 #[(0, .int .i64 1), (1, .int .i64 8), (2, .int .i64 1)]).run Tryd.prog X = .ok (.agg (row 3 (pav 1 8 1)).toArray) X := by kernel_rfl
theorem conv_nil (w : World) : (convert 32 9 (.slice none 0 0)).run Tryd.prog w = .ok (.string ⟨#[]⟩) w := convV (.slice none 0 0) 0 (fun _ => 0#8) w (.inl ⟨rfl, rfl⟩)
set_option maxRecDepth 20000 in
set_option maxHeartbeats 4000000 in
theorem again_no (n : Int) (o : Nat → Option Addr) (l k : Nat → Nat) (w : World) (f : Nat → Nat → BitVec 8) (hb : ∀ i, i < 4 → BV (.slice (o i) (l i) (k i)) (l i) (f i) w) (hC : TabC w) (hTM : TabM w) (hk : ¬ okK n 1 8 1 l) : Calls Tryd.prog 6 #[.int .i64 n, .agg (row 4 (scv (.slice (o 0) (l 0) (k 0)) (.slice (o 1) (l 1) (k 1)) (.slice (o 2) (l 2) (k 2)) (.slice (o 3) (l 3) (k 3)))).toArray] w fun e w' => e = .returned (.bool true) ∧ Ext w w' := by
  have hnil := conv_nil
  replace hC := hideit hC
  replace hTM := hideit hTM
  replace hb := hideit hb
  replace hk := hideit hk
  obtain ⟨d, w1, hw, hc, H1, hE⟩ := boxes1 w 4 (scv (.slice (o 0) (l 0) (k 0)) (.slice (o 1) (l 1) (k 1)) (.slice (o 2) (l 2) (k 2)) (.slice (o 3) (l 3) (k 3))) 34
  replace hC := hideit (hC.out.ext hE.out)
  replace hTM := hideit (hTM.out.ext hE.out)
  go_enter Tryd.func6, Tryd.ntmps6
  go_upto_region 1 with (fail)
  rw [← hw.out, ← hc.out]
  clear hw hc
  refine wp_region_lit ?_
  refine wpList_run rfl (.agg (row 3 (pav 1 8 1)).toArray) (xbuild 31 [(0, .const (.int .i64 1)), (1, .const (.int .i64 8)), (2, .const (.int .i64 1))] rfl _ (bld181 _)) ?_
  simp only [Act.put, List.setIfInBounds_toArray, List.set_cons_zero, List.set_cons_succ]
  refine wpList_to rfl (.pointer (some ⟨w1.heap.size, 0, none⟩)) (w1.alloc (.cells (row 3 (pav 0 0 0)).toArray 31)) (xalloc 31 _ rfl (zeroPa _)) ?_
  simp only [Act.put, List.setIfInBounds_toArray, List.set_cons_zero, List.set_cons_succ]
  have H0 := hideit ((RowAt.new w1 3 (pav 0 0 0) 31).cells (g' := pav 1 8 1))
  have XE : Ext w1 ((w1.alloc (.cells (row 3 (pav 0 0 0)).toArray 31)).setCells w1.heap.size 0 (row 3 (pav 1 8 1))) := below_setCells w1.heap.size (Nat.le_refl _) _ 0 _ ((Below.refl _ _).alloc (Nat.le_refl _) _)
  refine xst rfl ((w1.alloc (.cells (row 3 (pav 0 0 0)).toArray 31)).setCells w1.heap.size 0 (row 3 (pav 1 8 1))) (xstore 31 (.tmp 5) (.tmp 10) rfl w1.heap.size 3 _ (pav 1 8 1) rfl rfl (RowAt.new w1 3 (pav 0 0 0) 31) infoPa (fun j _ => by unfold pav; (repeat' split) <;> rfl)) ?_
  simp only [Act.put]
  generalize (w1.alloc (.cells (row 3 (pav 0 0 0)).toArray 31)).setCells w1.heap.size 0 (row 3 (pav 1 8 1)) = x2 at H0 XE ⊢
  obtain ⟨c, ec⟩ : ∃ b, b = w1.heap.size := ⟨_, rfl⟩
  rw [← ec] at H0 ⊢
  clear ec
  replace H1 := hideit (H1.out.carry XE)
  replace hC := hideit (hC.out.ext XE)
  replace hTM := hideit (hTM.out.ext XE)
  replace hE := hideit (Ext.trans hE.out XE)
  clear XE
  go_upto_region 2 with (fail)
  refine wp_region_lit ?_
  refine xm [some (.int .i64 (n))] (by kernel_rfl) (by simp [xr, go_sem]) ?_
  simp only [xw, p0, p1, p2, p3]
  refine wpList_run rfl (.agg (row 3 (pav 1 8 1)).toArray) (xload 31 (.tmp 5) rfl c 0 3 _ rfl H0.out.range Tryd.underlying31 rfl infoPa) ?_
  simp only [Act.put, List.setIfInBounds_toArray, List.set_cons_zero, List.set_cons_succ]
  refine wpList_run rfl (.agg (row 4 (scv (.slice (o 0) (l 0) (k 0)) (.slice (o 1) (l 1) (k 1)) (.slice (o 2) (l 2) (k 2)) (.slice (o 3) (l 3) (k 3)))).toArray) (xload 34 (.tmp 3) rfl d 0 4 _ rfl H1.out.range Tryd.underlying34 rfl infoSc) ?_
  simp only [Act.put, List.setIfInBounds_toArray, List.set_cons_zero, List.set_cons_succ]
  refine wpList_call rfl (by simp [go_sem]) ((key_no n 1 8 1 o l k x2 hk.out).mono ?_)
  rintro e y1 ⟨rfl, hX2⟩
  refine ⟨_, rfl, ?_⟩
  simp only [Act.put, List.setIfInBounds_toArray, List.set_cons_zero, List.set_cons_succ]
  replace H1 := hideit (H1.out.carry hX2)
  replace H0 := hideit (H0.out.carry hX2)
  replace hC := hideit (hC.out.ext hX2)
  replace hTM := hideit (hTM.out.ext hX2)
  replace hE := hideit (Ext.trans hE.out hX2)

  clear hX2
  refine xm [some (.tuple #[.slice none 0 0, .int .i64 80]), some (.slice none 0 0), some (.int .i64 80), some (.slice none 0 0), some (.int .i64 80)] (by kernel_rfl) (by simp [xr, go_sem]) ?_
  simp only [xw, p0, p1, p2, p3]
  go_upto_region 3 with (fail)
  refine wp_region_lit ?_
  refine xm [some (.int .i64 (n))] (by kernel_rfl) (by simp [xr, go_sem]) ?_
  simp only [xw, p0, p1, p2, p3]
  refine wpList_run rfl (.agg (row 3 (pav 1 8 1)).toArray) (xload 31 (.tmp 5) rfl c 0 3 _ rfl H0.out.range Tryd.underlying31 rfl infoPa) ?_
  simp only [Act.put, List.setIfInBounds_toArray, List.set_cons_zero, List.set_cons_succ]
  refine wpList_run rfl (.agg (row 4 (scv (.slice (o 0) (l 0) (k 0)) (.slice (o 1) (l 1) (k 1)) (.slice (o 2) (l 2) (k 2)) (.slice (o 3) (l 3) (k 3)))).toArray) (xload 34 (.tmp 3) rfl d 0 4 _ rfl H1.out.range Tryd.underlying34 rfl infoSc) ?_
  simp only [Act.put, List.setIfInBounds_toArray, List.set_cons_zero, List.set_cons_succ]
  refine wpList_call rfl (by simp [go_sem]) ((key_no n 1 8 1 o l k y1 hk.out).mono ?_)
  rintro e y3 ⟨rfl, hX4⟩
  refine ⟨_, rfl, ?_⟩
  simp only [Act.put, List.setIfInBounds_toArray, List.set_cons_zero, List.set_cons_succ]
  replace H1 := hideit (H1.out.carry hX4)
  replace H0 := hideit (H0.out.carry hX4)
  replace hC := hideit (hC.out.ext hX4)
  replace hTM := hideit (hTM.out.ext hX4)
  replace hE := hideit (Ext.trans hE.out hX4)

  clear hX4
  refine xm [some (.tuple #[.slice none 0 0, .int .i64 80]), some (.slice none 0 0), some (.int .i64 80), some (.slice none 0 0), some (.int .i64 80)] (by kernel_rfl) (by simp [xr, go_sem]) ?_
  simp only [xw, p0, p1, p2, p3]
  go_upto_region 4 with (fail)
  refine wp_region_lit ?_
  refine wpList_call rfl (by simp [go_sem]) ((alives y3 hC.out hTM.out).mono ?_)
  rintro e y5 ⟨rfl, hX6⟩
  refine ⟨_, rfl, ?_⟩
  simp only [Act.put, List.setIfInBounds_toArray, List.set_cons_zero, List.set_cons_succ]
  replace H1 := hideit (H1.out.carry hX6)
  replace H0 := hideit (H0.out.carry hX6)
  replace hC := hideit (hC.out.ext hX6)
  replace hTM := hideit (hTM.out.ext hX6)
  replace hE := hideit (Ext.trans hE.out hX6)

  clear hX6
  refine xm [some (.bool false), some (.bool false), some (.slice none 0 0), some (.string ⟨#[]⟩), some (.slice none 0 0), some (.string ⟨#[]⟩), some (.bool false), some (.bool false), some (.bool false), some (.int .i64 80), some (.int .i64 80), some (.bool false), some (.bool false)] (by kernel_rfl) (by simp [xr, go_sem, hnil]) ?_
  simp only [xw, p0, p1, p2, p3]
  go_upto_region 6 with (fail)
  refine wp_region_lit ?_
  refine xm [some (.int .i64 80), some (.bool false), some (.bool false), some (.slice none 0 0), some (.int .i64 0), some (.bool true), some (.bool true), some (.int .i64 80), some (.bool true), some (.bool true), some (.bool true), some (.bool true)] (by kernel_rfl) (by simp [xr, go_sem]) ?_
  simp only [xw, p0, p1, p2, p3]
  go_wp2
  go_ret
  exact ⟨rfl, hE.out⟩
set_option maxRecDepth 20000 in
set_option maxHeartbeats 4000000 in
theorem again_ok (n : Nat) (o : Nat → Option Addr) (l k : Nat → Nat) (w : World) (f : Nat → Nat → BitVec 8) (hb : ∀ i, i < 4 → BV (.slice (o i) (l i) (k i)) (l i) (f i) w) (hC : TabC w) (hTM : TabM w) (hk : okK (n : Int) 1 8 1 l) : Calls Tryd.prog 6 #[.int .i64 (n : Int), .agg (row 4 (scv (.slice (o 0) (l 0) (k 0)) (.slice (o 1) (l 1) (k 1)) (.slice (o 2) (l 2) (k 2)) (.slice (o 3) (l 3) (k 3)))).toArray] w fun e w' => e = .returned (.bool true) ∧ Ext w w' := by
  have hn1 : Hid (0 < n) := by have := hk.1.1; show 0 < n; omega
  obtain ⟨KS, hKS⟩ : ∃ K, K = bstr n fun j => ((keyA n (8 / (4 * 1)) 1 1 (sdF n 1 8 1 l f) j).toNat : Int) := ⟨_, rfl⟩
  replace hC := hideit hC
  replace hTM := hideit hTM
  replace hb := hideit hb
  replace hk := hideit hk
  obtain ⟨d, w1, hw, hc, H1, hE⟩ := boxes1 w 4 (scv (.slice (o 0) (l 0) (k 0)) (.slice (o 1) (l 1) (k 1)) (.slice (o 2) (l 2) (k 2)) (.slice (o 3) (l 3) (k 3))) 34
  replace hC := hideit (hC.out.ext hE.out)
  replace hTM := hideit (hTM.out.ext hE.out)
  go_enter Tryd.func6, Tryd.ntmps6
  go_upto_region 1 with (fail)
  rw [← hw.out, ← hc.out]
  clear hw hc
  refine wp_region_lit ?_
  refine wpList_run rfl (.agg (row 3 (pav 1 8 1)).toArray) (xbuild 31 [(0, .const (.int .i64 1)), (1, .const (.int .i64 8)), (2, .const (.int .i64 1))] rfl _ (bld181 _)) ?_
  simp only [Act.put, List.setIfInBounds_toArray, List.set_cons_zero, List.set_cons_succ]
  refine wpList_to rfl (.pointer (some ⟨w1.heap.size, 0, none⟩)) (w1.alloc (.cells (row 3 (pav 0 0 0)).toArray 31)) (xalloc 31 _ rfl (zeroPa _)) ?_
  simp only [Act.put, List.setIfInBounds_toArray, List.set_cons_zero, List.set_cons_succ]
  have H0 := hideit ((RowAt.new w1 3 (pav 0 0 0) 31).cells (g' := pav 1 8 1))
  have XE : Ext w1 ((w1.alloc (.cells (row 3 (pav 0 0 0)).toArray 31)).setCells w1.heap.size 0 (row 3 (pav 1 8 1))) := below_setCells w1.heap.size (Nat.le_refl _) _ 0 _ ((Below.refl _ _).alloc (Nat.le_refl _) _)
  refine xst rfl ((w1.alloc (.cells (row 3 (pav 0 0 0)).toArray 31)).setCells w1.heap.size 0 (row 3 (pav 1 8 1))) (xstore 31 (.tmp 5) (.tmp 10) rfl w1.heap.size 3 _ (pav 1 8 1) rfl rfl (RowAt.new w1 3 (pav 0 0 0) 31) infoPa (fun j _ => by unfold pav; (repeat' split) <;> rfl)) ?_
  simp only [Act.put]
  generalize (w1.alloc (.cells (row 3 (pav 0 0 0)).toArray 31)).setCells w1.heap.size 0 (row 3 (pav 1 8 1)) = x2 at H0 XE ⊢
  obtain ⟨c, ec⟩ : ∃ b, b = w1.heap.size := ⟨_, rfl⟩
  rw [← ec] at H0 ⊢
  clear ec
  replace H1 := hideit (H1.out.carry XE)
  replace hC := hideit (hC.out.ext XE)
  replace hTM := hideit (hTM.out.ext XE)
  replace hE := hideit (Ext.trans hE.out XE)
  clear XE
  go_upto_region 2 with (fail)
  refine wp_region_lit ?_
  refine xm [some (.int .i64 (n : Int))] (by kernel_rfl) (by simp [xr, go_sem]) ?_
  simp only [xw, p0, p1, p2, p3]
  refine wpList_run rfl (.agg (row 3 (pav 1 8 1)).toArray) (xload 31 (.tmp 5) rfl c 0 3 _ rfl H0.out.range Tryd.underlying31 rfl infoPa) ?_
  simp only [Act.put, List.setIfInBounds_toArray, List.set_cons_zero, List.set_cons_succ]
  refine wpList_run rfl (.agg (row 4 (scv (.slice (o 0) (l 0) (k 0)) (.slice (o 1) (l 1) (k 1)) (.slice (o 2) (l 2) (k 2)) (.slice (o 3) (l 3) (k 3)))).toArray) (xload 34 (.tmp 3) rfl d 0 4 _ rfl H1.out.range Tryd.underlying34 rfl infoSc) ?_
  simp only [Act.put, List.setIfInBounds_toArray, List.set_cons_zero, List.set_cons_succ]
  refine wpList_call rfl (by simp [go_sem]) ((key_ok n 1 8 1 o l k f x2 hk.out (fun i hi => (hb.out i hi).ext hE.out) hC.out hTM.out).mono ?_)
  rintro e y8 ⟨va, rfl, hO, hX8⟩
  refine ⟨_, rfl, ?_⟩
  simp only [Act.put, List.setIfInBounds_toArray, List.set_cons_zero, List.set_cons_succ]
  replace H1 := hideit (H1.out.carry hX8)
  replace H0 := hideit (H0.out.carry hX8)
  replace hC := hideit (hC.out.ext hX8)
  replace hTM := hideit (hTM.out.ext hX8)
  replace hE := hideit (Ext.trans hE.out hX8)
  obtain ⟨a8, c8, rfl, _, hc8, _, hR8⟩ := hO.lies hn1.out
  have V8 : Hid (BV (.slice (some ⟨a8, 0, none⟩) n c8) n (keyA n (8 / (4 * 1)) 1 1 (sdF n 1 8 1 l f)) y8) := .inr ⟨_, _, rfl, hc8, hR8.lie n (Nat.le_refl _)⟩
  clear hO hR8 hX8
  refine xm [some (.tuple #[.slice (some ⟨a8, 0, none⟩) n c8, .int .i64 0]), some (.slice (some ⟨a8, 0, none⟩) n c8), some (.int .i64 0), some (.slice (some ⟨a8, 0, none⟩) n c8), some (.int .i64 0)] (by kernel_rfl) (by simp [xr, go_sem]) ?_
  simp only [xw, p0, p1, p2, p3]
  go_upto_region 3 with (fail)
  refine wp_region_lit ?_
  refine xm [some (.int .i64 (n : Int))] (by kernel_rfl) (by simp [xr, go_sem]) ?_
  simp only [xw, p0, p1, p2, p3]
  refine wpList_run rfl (.agg (row 3 (pav 1 8 1)).toArray) (xload 31 (.tmp 5) rfl c 0 3 _ rfl H0.out.range Tryd.underlying31 rfl infoPa) ?_
  simp only [Act.put, List.setIfInBounds_toArray, List.set_cons_zero, List.set_cons_succ]
  refine wpList_run rfl (.agg (row 4 (scv (.slice (o 0) (l 0) (k 0)) (.slice (o 1) (l 1) (k 1)) (.slice (o 2) (l 2) (k 2)) (.slice (o 3) (l 3) (k 3)))).toArray) (xload 34 (.tmp 3) rfl d 0 4 _ rfl H1.out.range Tryd.underlying34 rfl infoSc) ?_
  simp only [Act.put, List.setIfInBounds_toArray, List.set_cons_zero, List.set_cons_succ]
  refine wpList_call rfl (by simp [go_sem]) ((key_ok n 1 8 1 o l k f y8 hk.out (fun i hi => (hb.out i hi).ext hE.out) hC.out hTM.out).mono ?_)
  rintro e y9 ⟨va, rfl, hO, hX9⟩
  refine ⟨_, rfl, ?_⟩
  simp only [Act.put, List.setIfInBounds_toArray, List.set_cons_zero, List.set_cons_succ]
  replace H1 := hideit (H1.out.carry hX9)
  replace H0 := hideit (H0.out.carry hX9)
  replace hC := hideit (hC.out.ext hX9)
  replace hTM := hideit (hTM.out.ext hX9)
  replace V8 := hideit (V8.out.ext hX9)
  replace hE := hideit (Ext.trans hE.out hX9)
  obtain ⟨a9, c9, rfl, _, hc9, _, hR9⟩ := hO.lies hn1.out
  have V9 : Hid (BV (.slice (some ⟨a9, 0, none⟩) n c9) n (keyA n (8 / (4 * 1)) 1 1 (sdF n 1 8 1 l f)) y9) := .inr ⟨_, _, rfl, hc9, hR9.lie n (Nat.le_refl _)⟩
  clear hO hR9 hX9
  refine xm [some (.tuple #[.slice (some ⟨a9, 0, none⟩) n c9, .int .i64 0]), some (.slice (some ⟨a9, 0, none⟩) n c9), some (.int .i64 0), some (.slice (some ⟨a9, 0, none⟩) n c9), some (.int .i64 0)] (by kernel_rfl) (by simp [xr, go_sem]) ?_
  simp only [xw, p0, p1, p2, p3]
  go_upto_region 4 with (fail)
  refine wp_region_lit ?_
  refine wpList_call rfl (by simp [go_sem]) ((alives y9 hC.out hTM.out).mono ?_)
  rintro e y1 ⟨rfl, hX2⟩
  refine ⟨_, rfl, ?_⟩
  simp only [Act.put, List.setIfInBounds_toArray, List.set_cons_zero, List.set_cons_succ]
  replace H1 := hideit (H1.out.carry hX2)
  replace H0 := hideit (H0.out.carry hX2)
  replace hC := hideit (hC.out.ext hX2)
  replace hTM := hideit (hTM.out.ext hX2)
  replace V8 := hideit (V8.out.ext hX2)
  replace V9 := hideit (V9.out.ext hX2)
  replace hE := hideit (Ext.trans hE.out hX2)

  clear hX2
  refine xm [some (.bool false), some (.bool false), some (.slice (some ⟨a8, 0, none⟩) n c8)] (by kernel_rfl) (by simp [xr, go_sem]) ?_
  simp only [xw, p0, p1, p2, p3]
  refine wpList_runW rfl (.string KS) ((by have q := convV _ _ _ y1 V8.out; rw [← hKS] at q; simp [go_sem, q])) ?_
  simp only [Act.put, List.setIfInBounds_toArray, List.set_cons_zero, List.set_cons_succ]
  refine xm [some (.slice (some ⟨a9, 0, none⟩) n c9)] (by kernel_rfl) (by simp [xr, go_sem]) ?_
  simp only [xw, p0, p1, p2, p3]
  refine wpList_runW rfl (.string KS) ((by have q := convV _ _ _ y1 V9.out; rw [← hKS] at q; simp [go_sem, q])) ?_
  simp only [Act.put, List.setIfInBounds_toArray, List.set_cons_zero, List.set_cons_succ]
  refine xm [some (.bool false), some (.bool false), some (.bool false), some (.int .i64 0), some (.int .i64 0), some (.bool false), some (.bool false)] (by kernel_rfl) (by simp [xr, go_sem]) ?_
  simp only [xw, p0, p1, p2, p3]
  go_upto_region 6 with (fail)
  refine wp_region_lit ?_
  refine xm [some (.int .i64 0), some (.bool true), some (.bool true), none, none, none, none, none, none, none, some (.bool true), some (.bool true)] (by kernel_rfl) (by simp [xr, go_sem]) ?_
  simp only [xw, p0, p1, p2, p3]
  go_wp2
  go_ret
  exact ⟨rfl, hE.out⟩
theorem again_any (n : Int) (o : Nat → Option Addr) (l k : Nat → Nat) (w : World) (f : Nat → Nat → BitVec 8) (hb : ∀ i, i < 4 → BV (.slice (o i) (l i) (k i)) (l i) (f i) w) (hC : TabC w) (hTM : TabM w) : Calls Tryd.prog 6 #[.int .i64 n, .agg (row 4 (scv (.slice (o 0) (l 0) (k 0)) (.slice (o 1) (l 1) (k 1)) (.slice (o 2) (l 2) (k 2)) (.slice (o 3) (l 3) (k 3)))).toArray] w fun e w' => e = .returned (.bool true) ∧ Ext w w' := by
  by_cases hk : okK n 1 8 1 l
  · obtain ⟨N, rfl⟩ : ∃ N : Nat, n = (N : Int) := ⟨n.toNat, by have := hk.1.1; omega⟩
    exact again_ok N o l k w f hb hC hTM hk
  · exact again_no n o l k w f hb hC hTM hk
end Go.Proofs.YtfbmeclpcgdmhabDoor
