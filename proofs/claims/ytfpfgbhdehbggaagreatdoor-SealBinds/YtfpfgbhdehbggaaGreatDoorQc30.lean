/-
  A sector is opened. Sealing and opening where they may not be. A block made of some bytes.
-/
import Derived.Test.YtfpfgbhdehbggaaGreatDoorQc1
import Derived.Test.YtfpfgbhdehbggaaGreatDoorQc29
import Derived.Test.YtfpfgbhdehbggaaGreatDoorQc9
import Derived.Test.YtfpfgbhdehbggaaGreatDoorQc27
import Derived.Test.YtfpfgbhdehbggaaGreatDoorQc14
namespace Go.Proofs.YtfpfgbhdehbggaaGreatDoor
open Go.RowKit Go.BigFrame
set_option linter.unusedVariables false
set_option maxRecDepth 20000
def opF (D : Nat → BitVec 8) (n : Nat) (g : Nat → BitVec 8) : Nat → BitVec 8 := xD (schedK 4 D) (schedK 4 fun j => D (16 + j)) 10 (n4 n) g 512
theorem op_se (D : Nat → BitVec 8) (n : Nat) (f : Nat → BitVec 8) (j : Nat) (hj : j < 512) : opF D n (seF D n f) j = f j := xD_xE _ _ 10 (by decide) (n4 n) f 512 (by decide) j hj
set_option maxRecDepth 20000 in
set_option maxHeartbeats 4000000 in
theorem open_yes (e n : Nat) (D T R : Nat → BitVec 8) (v : Value) (g : Nat → BitVec 8) (w : World) (hV : BV v 512 g w) (hC : TabC w) (he1 : 1 ≤ e) (he : e < 4294967296) (hn : n < 1024) (hR : ∀ j, j < 64 → R j = rcF e n T g 512 j) : Calls Tryz.prog 9 #[.agg (row 65 (ekV e D T)).toArray, .int .i64 (n : Int), v, .agg (row 64 (yv R)).toArray] w fun e' w' => ∃ v', e' = .returned (.tuple #[v', .int .i64 0]) ∧ OwnB w.heap.size 5 v' 512 (yv (opF D n g)) w' ∧ Ext w w' := by
  have hr : true = true ↔ 64 = 64 ∧ ∀ j, j < 64 → R j = rcF e n T g 512 j := ⟨fun _ => ⟨rfl, hR⟩, fun _ => rfl⟩
  have hcn : IntKind.u64.wrap (n : Int) = ((n4 n).toNat : Int) := by rw [n4_nat (by omega), IntKind.wrap_u64]; omega
  obtain ⟨vo, vc, rfl⟩ := hV.form
  have hE := hideit (Ext.refl w)
  go_enter Tryz.func9, Tryz.ntmps9
  go_upto_region 0 with (fail)
  refine wp_region_lit ?_
  have A0 := hideit (RowAt.new w 65 (ekV e D T) 24)
  have XB : Ext w (w.alloc (.cells (row 65 (ekV e D T)).toArray 24)) := (Below.refl _ _).alloc (Nat.le_refl _) _
  have AE := hideit (Ext.trans hE.out (XB))
  have AB := hideit (hE.out.size)
  clear XB
  refine wpList_to rfl (.pointer (some ⟨w.heap.size, 0, none⟩)) (w.alloc (.cells (row 65 (ekV e D T)).toArray 24)) (by simp [go_sem]) ?_
  simp only [zp0, zp1, zp2, zp3]
  generalize w.alloc (.cells (row 65 (ekV e D T)).toArray 24) = x1 at A0 AE ⊢
  obtain ⟨c4, ec4⟩ : ∃ b, b = w.heap.size := ⟨_, rfl⟩
  have ABc4 : Hid (w.heap.size ≤ c4) := by rw [ec4]; exact AB.out
  clear AB
  rw [← ec4] at A0  ⊢
  clear ec4
  have Hc4 := A0
  clear A0
  replace hE := AE
  clear AE
  have A0 := hideit (RowAt.new x1 64 (yv R) 26)
  have XB : Ext x1 (x1.alloc (.cells (row 64 (yv R)).toArray 26)) := (Below.refl _ _).alloc (Nat.le_refl _) _
  have A1 := hideit (Hc4.out.carry XB)
  have AE := hideit (Ext.trans hE.out (XB))
  have AB := hideit (hE.out.size)
  have D0 : Hid (c4 ≠ x1.heap.size) := Nat.ne_of_lt Hc4.out.2.2
  clear XB
  refine wpList_to rfl (.pointer (some ⟨x1.heap.size, 0, none⟩)) (x1.alloc (.cells (row 64 (yv R)).toArray 26)) (by simp [go_sem]) ?_
  simp only [zp0, zp1, zp2, zp3]
  generalize x1.alloc (.cells (row 64 (yv R)).toArray 26) = x2 at A0 A1 AE ⊢
  obtain ⟨c7, ec7⟩ : ∃ b, b = x1.heap.size := ⟨_, rfl⟩
  have ABc7 : Hid (w.heap.size ≤ c7) := by rw [ec7]; exact AB.out
  clear AB
  rw [← ec7] at A0 D0 ⊢
  clear ec7
  have Hc7 := A0
  clear A0
  replace Hc4 := A1
  clear A1
  replace hE := AE
  clear AE
  have Dc7_0 := D0
  clear D0
  refine xm [some (.slice none 0 0), some (.int .i64 0)] (by kernel_rfl) (by simp [xr, go_sem]) ?_
  simp only [xw, p0, p1, p2, p3]
  go_upto_region 1 with (fail)
  refine wp_region_lit ?_
  refine wpList_run rfl (.agg (row 65 (ekV e D T)).toArray) (xload 24 (.tmp 4) rfl c4 0 65 _ rfl Hc4.out.range Tryz.underlying24 rfl inf50) ?_
  simp only [zp0, zp1, zp2, zp3]
  refine xm [some (.int .i64 (n : Int)), some (.slice vo 512 vc)] (by kernel_rfl) (by simp [xr, go_sem]) ?_
  simp only [xw, p0, p1, p2, p3]
  refine wpList_call rfl (by simp [go_sem]) ((cip_ok e n D T vo vc x2 he1 he hn).mono ?_)
  rintro e y1 ⟨q, c1, c2, rfl, hP, hX1⟩
  refine ⟨_, rfl, ?_⟩
  simp only [zp0, zp1, zp2, zp3]
  replace Hc4 := hideit (Hc4.out.carry hX1)
  replace Hc7 := hideit (Hc7.out.carry hX1)
  replace hE := hideit (Ext.trans hE.out (hX1))
  replace hP := hideit hP
  have hY := hideit (Ext.refl y1)
  clear hX1
  refine xm [some (.tuple #[.pointer (some ⟨q, 0, none⟩), .int .i64 0]), some (.pointer (some ⟨q, 0, none⟩)), some (.int .i64 0), some (.pointer (some ⟨q, 0, none⟩)), some (.int .i64 0)] (by kernel_rfl) (by simp [xr, go_sem]) ?_
  simp only [xw, p0, p1, p2, p3]
  go_upto_region 2 with (fail)
  refine wp_region_lit ?_
  refine xm [some (.int .i64 0), some (.bool false)] (by kernel_rfl) (by simp [xr, go_sem]) ?_
  simp only [xw, p0, p1, p2, p3]
  go_upto_region 4 with (fail)
  refine wp_region_lit ?_
  refine wpList_run rfl (.agg (row 65 (ekV e D T)).toArray) (xload 24 (.tmp 4) rfl c4 0 65 _ rfl Hc4.out.range Tryz.underlying24 rfl inf50) ?_
  simp only [zp0, zp1, zp2, zp3]
  refine xm [some (.int .i64 (n : Int)), some (.slice vo 512 vc)] (by kernel_rfl) (by simp [xr, go_sem]) ?_
  simp only [xw, p0, p1, p2, p3]
  refine wpList_call rfl (by simp [go_sem]) ((rof_any e n D T (.slice vo 512 vc) 512 g y1 (hV.ext (Ext.trans hE.out hY.out)) (hC.ext (Ext.trans hE.out hY.out)) he (by omega) sum512).mono ?_)
  rintro e y3 ⟨rfl, hX3⟩
  refine ⟨_, rfl, ?_⟩
  simp only [zp0, zp1, zp2, zp3]
  replace Hc4 := hideit (Hc4.out.carry hX3)
  replace Hc7 := hideit (Hc7.out.carry hX3)
  replace hY := hideit (Ext.trans hY.out (hX3))
  clear hX3
  have A0 := hideit (RowAt.new y3 64 (yv fun _ => 0#8) 26)
  have A1 := hideit (Hc4.out.alloc (.cells (row 64 (yv fun _ => 0#8)).toArray 26))
  have A2 := hideit (Hc7.out.alloc (.cells (row 64 (yv fun _ => 0#8)).toArray 26))
  have AE := hideit (Below.alloc hY.out (Below.size hY.out) (.cells (row 64 (yv fun _ => 0#8)).toArray 26))
  have AB := hideit (Below.size hY.out)
  have D0 : Hid (c4 ≠ y3.heap.size) := Nat.ne_of_lt Hc4.out.2.2
  have D1 : Hid (c7 ≠ y3.heap.size) := Nat.ne_of_lt Hc7.out.2.2
  refine wpList_to rfl (.pointer (some ⟨y3.heap.size, 0, none⟩)) (y3.alloc (.cells (row 64 (yv fun _ => 0#8)).toArray 26)) (xalloc 26 (row 64 (yv fun _ => 0#8)).toArray rfl (zero23 y3)) ?_
  simp only [zp0, zp1, zp2, zp3]
  generalize y3.alloc (.cells (row 64 (yv fun _ => 0#8)).toArray 26) = x4 at A0 A1 A2 AE ⊢
  obtain ⟨z3, ez3⟩ : ∃ b, b = y3.heap.size := ⟨_, rfl⟩
  rw [← ez3] at A0 D0 D1 AB ⊢
  clear ez3
  have Hz3 := A0
  clear A0
  replace Hc4 := A1
  clear A1
  replace Hc7 := A2
  clear A2
  replace hY := AE
  clear AE
  have ABz3 := AB
  clear AB
  have Dz3_0 := D0
  clear D0
  have Dz3_1 := D1
  clear D1
  have N0 := hideit (Hz3.out.cells (g' := yv (rcF e n T g 512)))
  have N1 := hideit (Hc4.out.cellsOther (Ne.symm (Dz3_0.out)) (row 64 (yv (rcF e n T g 512))) 0)
  have N2 := hideit (Hc7.out.cellsOther (Ne.symm (Dz3_1.out)) (row 64 (yv (rcF e n T g 512))) 0)
  have NE := hideit (below_setCells z3 (ABz3.out) (row 64 (yv (rcF e n T g 512))) 0 _ hY.out)
  refine xst rfl (x4.setCells z3 0 (row 64 (yv (rcF e n T g 512)))) (xstore 26 (.tmp 12) (.tmp 26) rfl z3 64 _ (yv (rcF e n T g 512)) rfl rfl Hz3.out inf23 (fun j _ => rfl)) ?_
  simp only [Act.put]
  generalize x4.setCells z3 0 (row 64 (yv (rcF e n T g 512))) = x5 at N0 N1 N2 NE ⊢
  replace Hz3 := N0
  replace Hc4 := N1
  replace Hc7 := N2
  replace hY := NE
  clear N0 N1 N2 NE
  go_upto_region 5 with (fail)
  replace Hc4 := hideit Hc4.out.drew
  replace Hc7 := hideit Hc7.out.drew
  replace Hz3 := hideit Hz3.out.drew
  replace hY := hideit (Ext.draw hY.out)
  refine wp_region_ladz (fun X => Ext x5.drew X) [2] [(false, 0), (false, 1), (true, 2), (false, 3)] (by kernel_rfl) (by kernel_rfl) (by decide +kernel) (by decide +kernel) (by decide +kernel) (by decide +kernel) (Ext.refl _) ?_
  refine wpZ_f _ (.slice (some ⟨c7, 0, none⟩) 64 64) rfl rfl (fun X _ => by simp [go_sem]) ?_
  simp only [List.getElem_toArray, List.getElem_cons_zero, Act.put, List.setIfInBounds_toArray, List.set_cons_zero, List.set_cons_succ]
  refine wpZ_f _ (.slice (some ⟨z3, 0, none⟩) 64 64) rfl rfl (fun X _ => by simp [go_sem]) ?_
  simp only [zp4, zp5, zp6, zp0, zp1, zp2, zp3]
  refine wpZ_call _ rfl rfl (by simp [go_sem]) ((equal_any (.slice (some ⟨c7, 0, none⟩) 64 64) (.slice (some ⟨z3, 0, none⟩) 64 64) 64 64 R (rcF e n T g 512) x5.drew (.inr ⟨⟨c7, 0, none⟩, 64, rfl, Nat.le_refl _, RowAt.lie Hc7.out 64 (Nat.le_refl _)⟩) (.inr ⟨⟨z3, 0, none⟩, 64, rfl, Nat.le_refl _, RowAt.lie Hz3.out 64 (Nat.le_refl _)⟩) (by decide) (by decide) true hr).mono ?_)
  rintro e _ ⟨rfl, rfl⟩
  refine ⟨_, rfl, fun X => Ext x5.drew X, .inr (fun X hX => hX), Ext.refl _, ?_⟩
  simp only [zp4, zp5, zp6, zp0, zp1, zp2, zp3]
  refine wpZ_f _ (.bool false) rfl rfl (fun X _ => by simp [go_sem]) ?_
  simp only [zp4, zp5, zp6, zp0, zp1, zp2, zp3]
  refine wpZ_nil ?_
  go_upto_region 7 with (fail)
  refine wp_region_lit ?_
  refine xm [some (.pointer (some ⟨q, 0, none⟩)), some (.int .i64 (n : Int))] (by kernel_rfl) (by simp [xr, go_sem]) ?_
  simp only [xw, p0, p1, p2, p3]
  refine xm [some (.int .u64 ((n4 n).toNat : Int)), some (.slice vo 512 vc)] (by kernel_rfl) (by simp [xr, go_sem, hcn]) ?_
  simp only [xw, p0, p1, p2, p3]
  have hb := hideit (Below.size (Ext.trans hE.out hY.out))
  refine wpList_call rfl (by simp [go_sem]) ((xdecV q c1 c2 10 512 _ _ (by decide) (by decide) (n4 n) (.slice vo 512 vc) g x5.drew (hP.out.ext hY.out) (by decide) (by decide) (hV.ext (Ext.trans hE.out hY.out))).mono ?_)
  rintro e y6 ⟨v6, rfl, hO, hX6⟩
  refine ⟨_, rfl, ?_⟩
  simp only [zp0, zp1, zp2, zp3]
  replace Hc4 := hideit (Hc4.out.carry hX6)
  replace Hc7 := hideit (Hc7.out.carry hX6)
  replace Hz3 := hideit (Hz3.out.carry hX6)
  replace hY := hideit (Ext.trans hY.out (hX6))
  replace hO := hideit (show OwnB w.heap.size 5 v6 512 (yv (opF D n g)) y6 from hO.down hb.out)
  clear hX6 hb
  refine xm [some (v6), some (.int .i64 0), some (v6), some (.int .i64 0)] (by kernel_rfl) (by simp [xr, go_sem]) ?_
  simp only [xw, p0, p1, p2, p3]
  go_wp2
  refine bodyPost_ret (res2 rfl _ _ _) rfl ?_
  exact ⟨_, rfl, hO.out, Ext.trans hE.out hY.out⟩
set_option maxRecDepth 20000 in
set_option maxHeartbeats 4000000 in
theorem open_no (e n : Nat) (D T R : Nat → BitVec 8) (v : Value) (g : Nat → BitVec 8) (w : World) (hV : BV v 512 g w) (hC : TabC w) (he1 : 1 ≤ e) (he : e < 4294967296) (hn : n < 1024) (hR : ¬ ∀ j, j < 64 → R j = rcF e n T g 512 j) : Calls Tryz.prog 9 #[.agg (row 65 (ekV e D T)).toArray, .int .i64 (n : Int), v, .agg (row 64 (yv R)).toArray] w fun e' w' => e' = .returned (.tuple #[.slice none 0 0, .int .i64 160]) ∧ Ext w w' := by
  have hr : false = true ↔ 64 = 64 ∧ ∀ j, j < 64 → R j = rcF e n T g 512 j := ⟨fun q => Bool.noConfusion q, fun q => (hR q.2).elim⟩
  obtain ⟨vo, vc, rfl⟩ := hV.form
  have hE := hideit (Ext.refl w)
  go_enter Tryz.func9, Tryz.ntmps9
  go_upto_region 0 with (fail)
  refine wp_region_lit ?_
  have A0 := hideit (RowAt.new w 65 (ekV e D T) 24)
  have XB : Ext w (w.alloc (.cells (row 65 (ekV e D T)).toArray 24)) := (Below.refl _ _).alloc (Nat.le_refl _) _
  have AE := hideit (Ext.trans hE.out (XB))
  have AB := hideit (hE.out.size)
  clear XB
  refine wpList_to rfl (.pointer (some ⟨w.heap.size, 0, none⟩)) (w.alloc (.cells (row 65 (ekV e D T)).toArray 24)) (by simp [go_sem]) ?_
  simp only [zp0, zp1, zp2, zp3]
  generalize w.alloc (.cells (row 65 (ekV e D T)).toArray 24) = x1 at A0 AE ⊢
  obtain ⟨c4, ec4⟩ : ∃ b, b = w.heap.size := ⟨_, rfl⟩
  have ABc4 : Hid (w.heap.size ≤ c4) := by rw [ec4]; exact AB.out
  clear AB
  rw [← ec4] at A0  ⊢
  clear ec4
  have Hc4 := A0
  clear A0
  replace hE := AE
  clear AE
  have A0 := hideit (RowAt.new x1 64 (yv R) 26)
  have XB : Ext x1 (x1.alloc (.cells (row 64 (yv R)).toArray 26)) := (Below.refl _ _).alloc (Nat.le_refl _) _
  have A1 := hideit (Hc4.out.carry XB)
  have AE := hideit (Ext.trans hE.out (XB))
  have AB := hideit (hE.out.size)
  have D0 : Hid (c4 ≠ x1.heap.size) := Nat.ne_of_lt Hc4.out.2.2
  clear XB
  refine wpList_to rfl (.pointer (some ⟨x1.heap.size, 0, none⟩)) (x1.alloc (.cells (row 64 (yv R)).toArray 26)) (by simp [go_sem]) ?_
  simp only [zp0, zp1, zp2, zp3]
  generalize x1.alloc (.cells (row 64 (yv R)).toArray 26) = x2 at A0 A1 AE ⊢
  obtain ⟨c7, ec7⟩ : ∃ b, b = x1.heap.size := ⟨_, rfl⟩
  have ABc7 : Hid (w.heap.size ≤ c7) := by rw [ec7]; exact AB.out
  clear AB
  rw [← ec7] at A0 D0 ⊢
  clear ec7
  have Hc7 := A0
  clear A0
  replace Hc4 := A1
  clear A1
  replace hE := AE
  clear AE
  have Dc7_0 := D0
  clear D0
  refine xm [some (.slice none 0 0), some (.int .i64 0)] (by kernel_rfl) (by simp [xr, go_sem]) ?_
  simp only [xw, p0, p1, p2, p3]
  go_upto_region 1 with (fail)
  refine wp_region_lit ?_
  refine wpList_run rfl (.agg (row 65 (ekV e D T)).toArray) (xload 24 (.tmp 4) rfl c4 0 65 _ rfl Hc4.out.range Tryz.underlying24 rfl inf50) ?_
  simp only [zp0, zp1, zp2, zp3]
  refine xm [some (.int .i64 (n : Int)), some (.slice vo 512 vc)] (by kernel_rfl) (by simp [xr, go_sem]) ?_
  simp only [xw, p0, p1, p2, p3]
  refine wpList_call rfl (by simp [go_sem]) ((cip_ok e n D T vo vc x2 he1 he hn).mono ?_)
  rintro e y1 ⟨q, c1, c2, rfl, hP, hX1⟩
  refine ⟨_, rfl, ?_⟩
  simp only [zp0, zp1, zp2, zp3]
  replace Hc4 := hideit (Hc4.out.carry hX1)
  replace Hc7 := hideit (Hc7.out.carry hX1)
  replace hE := hideit (Ext.trans hE.out (hX1))
  replace hP := hideit hP
  have hY := hideit (Ext.refl y1)
  clear hX1
  refine xm [some (.tuple #[.pointer (some ⟨q, 0, none⟩), .int .i64 0]), some (.pointer (some ⟨q, 0, none⟩)), some (.int .i64 0), some (.pointer (some ⟨q, 0, none⟩)), some (.int .i64 0)] (by kernel_rfl) (by simp [xr, go_sem]) ?_
  simp only [xw, p0, p1, p2, p3]
  go_upto_region 2 with (fail)
  refine wp_region_lit ?_
  refine xm [some (.int .i64 0), some (.bool false)] (by kernel_rfl) (by simp [xr, go_sem]) ?_
  simp only [xw, p0, p1, p2, p3]
  go_upto_region 4 with (fail)
  refine wp_region_lit ?_
  refine wpList_run rfl (.agg (row 65 (ekV e D T)).toArray) (xload 24 (.tmp 4) rfl c4 0 65 _ rfl Hc4.out.range Tryz.underlying24 rfl inf50) ?_
  simp only [zp0, zp1, zp2, zp3]
  refine xm [some (.int .i64 (n : Int)), some (.slice vo 512 vc)] (by kernel_rfl) (by simp [xr, go_sem]) ?_
  simp only [xw, p0, p1, p2, p3]
  refine wpList_call rfl (by simp [go_sem]) ((rof_any e n D T (.slice vo 512 vc) 512 g y1 (hV.ext (Ext.trans hE.out hY.out)) (hC.ext (Ext.trans hE.out hY.out)) he (by omega) sum512).mono ?_)
  rintro e y3 ⟨rfl, hX3⟩
  refine ⟨_, rfl, ?_⟩
  simp only [zp0, zp1, zp2, zp3]
  replace Hc4 := hideit (Hc4.out.carry hX3)
  replace Hc7 := hideit (Hc7.out.carry hX3)
  replace hY := hideit (Ext.trans hY.out (hX3))
  clear hX3
  have A0 := hideit (RowAt.new y3 64 (yv fun _ => 0#8) 26)
  have A1 := hideit (Hc4.out.alloc (.cells (row 64 (yv fun _ => 0#8)).toArray 26))
  have A2 := hideit (Hc7.out.alloc (.cells (row 64 (yv fun _ => 0#8)).toArray 26))
  have AE := hideit (Below.alloc hY.out (Below.size hY.out) (.cells (row 64 (yv fun _ => 0#8)).toArray 26))
  have AB := hideit (Below.size hY.out)
  have D0 : Hid (c4 ≠ y3.heap.size) := Nat.ne_of_lt Hc4.out.2.2
  have D1 : Hid (c7 ≠ y3.heap.size) := Nat.ne_of_lt Hc7.out.2.2
  refine wpList_to rfl (.pointer (some ⟨y3.heap.size, 0, none⟩)) (y3.alloc (.cells (row 64 (yv fun _ => 0#8)).toArray 26)) (xalloc 26 (row 64 (yv fun _ => 0#8)).toArray rfl (zero23 y3)) ?_
  simp only [zp0, zp1, zp2, zp3]
  generalize y3.alloc (.cells (row 64 (yv fun _ => 0#8)).toArray 26) = x4 at A0 A1 A2 AE ⊢
  obtain ⟨z3, ez3⟩ : ∃ b, b = y3.heap.size := ⟨_, rfl⟩
  rw [← ez3] at A0 D0 D1 AB ⊢
  clear ez3
  have Hz3 := A0
  clear A0
  replace Hc4 := A1
  clear A1
  replace Hc7 := A2
  clear A2
  replace hY := AE
  clear AE
  have ABz3 := AB
  clear AB
  have Dz3_0 := D0
  clear D0
  have Dz3_1 := D1
  clear D1
  have N0 := hideit (Hz3.out.cells (g' := yv (rcF e n T g 512)))
  have N1 := hideit (Hc4.out.cellsOther (Ne.symm (Dz3_0.out)) (row 64 (yv (rcF e n T g 512))) 0)
  have N2 := hideit (Hc7.out.cellsOther (Ne.symm (Dz3_1.out)) (row 64 (yv (rcF e n T g 512))) 0)
  have NE := hideit (below_setCells z3 (ABz3.out) (row 64 (yv (rcF e n T g 512))) 0 _ hY.out)
  refine xst rfl (x4.setCells z3 0 (row 64 (yv (rcF e n T g 512)))) (xstore 26 (.tmp 12) (.tmp 26) rfl z3 64 _ (yv (rcF e n T g 512)) rfl rfl Hz3.out inf23 (fun j _ => rfl)) ?_
  simp only [Act.put]
  generalize x4.setCells z3 0 (row 64 (yv (rcF e n T g 512))) = x5 at N0 N1 N2 NE ⊢
  replace Hz3 := N0
  replace Hc4 := N1
  replace Hc7 := N2
  replace hY := NE
  clear N0 N1 N2 NE
  go_upto_region 5 with (fail)
  replace Hc4 := hideit Hc4.out.drew
  replace Hc7 := hideit Hc7.out.drew
  replace Hz3 := hideit Hz3.out.drew
  replace hY := hideit (Ext.draw hY.out)
  refine wp_region_ladz (fun X => Ext x5.drew X) [2] [(false, 0), (false, 1), (true, 2), (false, 3)] (by kernel_rfl) (by kernel_rfl) (by decide +kernel) (by decide +kernel) (by decide +kernel) (by decide +kernel) (Ext.refl _) ?_
  refine wpZ_f _ (.slice (some ⟨c7, 0, none⟩) 64 64) rfl rfl (fun X _ => by simp [go_sem]) ?_
  simp only [List.getElem_toArray, List.getElem_cons_zero, Act.put, List.setIfInBounds_toArray, List.set_cons_zero, List.set_cons_succ]
  refine wpZ_f _ (.slice (some ⟨z3, 0, none⟩) 64 64) rfl rfl (fun X _ => by simp [go_sem]) ?_
  simp only [zp4, zp5, zp6, zp0, zp1, zp2, zp3]
  refine wpZ_call _ rfl rfl (by simp [go_sem]) ((equal_any (.slice (some ⟨c7, 0, none⟩) 64 64) (.slice (some ⟨z3, 0, none⟩) 64 64) 64 64 R (rcF e n T g 512) x5.drew (.inr ⟨⟨c7, 0, none⟩, 64, rfl, Nat.le_refl _, RowAt.lie Hc7.out 64 (Nat.le_refl _)⟩) (.inr ⟨⟨z3, 0, none⟩, 64, rfl, Nat.le_refl _, RowAt.lie Hz3.out 64 (Nat.le_refl _)⟩) (by decide) (by decide) false hr).mono ?_)
  rintro e _ ⟨rfl, rfl⟩
  refine ⟨_, rfl, fun X => Ext x5.drew X, .inr (fun X hX => hX), Ext.refl _, ?_⟩
  simp only [zp4, zp5, zp6, zp0, zp1, zp2, zp3]
  refine wpZ_f _ (.bool true) rfl rfl (fun X _ => by simp [go_sem]) ?_
  simp only [zp4, zp5, zp6, zp0, zp1, zp2, zp3]
  refine wpZ_nil ?_
  go_upto_region 6 with (fail)
  refine wp_region_lit ?_
  refine xm [some (.slice none 0 0), some (.int .i64 160)] (by kernel_rfl) (by simp [xr, go_sem]) ?_
  simp only [xw, p0, p1, p2, p3]
  go_wp2
  refine bodyPost_ret (res2 rfl _ _ _) rfl ?_
  exact ⟨rfl, Ext.trans hE.out hY.out⟩
end Go.Proofs.YtfpfgbhdehbggaaGreatDoor
namespace Go.Proofs.YtfpfgbhdehbggaaGreatDoor
open Go.RowKit Go.BigFrame
set_option linter.unusedVariables false
set_option maxRecDepth 20000
def ekI (e : Int) (D T : Nat → BitVec 8) (j : Nat) : Value := if j = 0 then .int .i64 e else if j < 33 then yv D (j - 1) else yv T (j - 33)
def okK (e n : Int) : Prop := 1 ≤ e ∧ e ≤ 4294967295 ∧ 0 ≤ n ∧ n < 1024
instance (e n : Int) : Decidable (okK e n) := inferInstanceAs (Decidable (_ ∧ _))
def sC (e n : Int) (l : Nat) : Int := if okK e n then (if l = 512 then 0 else 101) else 1
theorem sC_ok {e n : Int} {l : Nat} (h : sC e n l = 0) : okK e n ∧ l = 512 := by
  unfold sC at h
  by_cases h1 : okK e n
  · rw [if_pos h1] at h
    by_cases h2 : l = 512
    · exact ⟨h1, h2⟩
    · rw [if_neg h2] at h; cases h
  · rw [if_neg h1] at h; cases h
theorem sC_1 {e n : Int} {l : Nat} (h : ¬ okK e n) : sC e n l = 1 := if_neg h
theorem sC_0 {e n : Int} {l : Nat} (h : okK e n) (h2 : l = 512) : sC e n l = 0 := (if_pos h).trans (if_pos h2)
theorem sC_101 {e n : Int} {l : Nat} (h : okK e n) (h2 : ¬ l = 512) : sC e n l = 101 := (if_pos h).trans (if_neg h2)
theorem build26 (w : World) : (Instr.build 26 #[]).run Tryz.prog w = .ok (.agg (row 64 (yv fun _ => 0#8)).toArray) w := by kernel_rfl
set_option maxRecDepth 20000 in
set_option maxHeartbeats 4000000 in
theorem cip_a (e n : Int) (D T : Nat → BitVec 8) (o : Option Addr) (l k : Nat) (w : World) (h1 : e < 1) : Calls Tryz.prog 14 #[.agg (row 65 (ekI e D T)).toArray, .int .i64 n, .slice o l k] w fun e' w' => e' = .returned (.tuple #[.pointer none, .int .i64 1]) ∧ Ext w w' := by
  have hE := hideit (Ext.refl w)
  go_enter Tryz.func14, Tryz.ntmps14
  go_upto_region 0 with (fail)
  refine wp_region_lit ?_
  have A0 := hideit (RowAt.new w 65 (ekI e D T) 24)
  have XB : Ext w (w.alloc (.cells (row 65 (ekI e D T)).toArray 24)) := (Below.refl _ _).alloc (Nat.le_refl _) _
  have AE := hideit (Ext.trans hE.out (XB))
  have AB := hideit (hE.out.size)
  clear XB
  refine wpList_to rfl (.pointer (some ⟨w.heap.size, 0, none⟩)) (w.alloc (.cells (row 65 (ekI e D T)).toArray 24)) (by simp [go_sem]) ?_
  simp only [zp0, zp1, zp2, zp3]
  generalize w.alloc (.cells (row 65 (ekI e D T)).toArray 24) = x1 at A0 AE ⊢
  obtain ⟨c3, ec3⟩ : ∃ b, b = w.heap.size := ⟨_, rfl⟩
  have ABc3 : Hid (w.heap.size ≤ c3) := by rw [ec3]; exact AB.out
  clear AB
  rw [← ec3] at A0  ⊢
  clear ec3
  have Hc3 := A0
  clear A0
  replace hE := AE
  clear AE
  refine xm [some (.pointer none), some (.int .i64 0)] (by kernel_rfl) (by simp [xr, go_sem]) ?_
  simp only [xw, p0, p1, p2, p3]
  go_upto_region 1 with (fail)
  refine wp_region_lit ?_
  have m2 : x1.cell? ⟨c3, 0, none⟩ = some (.int .i64 (e)) := Hc3.out.1 0 (by decide)
  refine xm [some (.pointer (some ⟨c3, 0, none⟩)), some (.int .i64 (e)), some (.bool true), some (.bool true), none, none, none, none, some (.bool true), some (.bool true), none, none, some (.bool true), some (.bool true), none, none, some (.bool true)] (by kernel_rfl) (by simp [xr, go_sem, m2, h1]) ?_
  simp only [xw, p0, p1, p2, p3]
  clear m2
  go_upto_region 2 with (fail)
  refine wp_region_lit ?_
  refine xm [some (.pointer none), some (.int .i64 1)] (by kernel_rfl) (by simp [xr, go_sem]) ?_
  simp only [xw, p0, p1, p2, p3]
  go_wp2
  refine bodyPost_ret (res2 rfl _ _ _) rfl ?_
  exact ⟨rfl, hE.out⟩
set_option maxRecDepth 20000 in
set_option maxHeartbeats 4000000 in
theorem cip_b (e n : Int) (D T : Nat → BitVec 8) (o : Option Addr) (l k : Nat) (w : World) (h1 : 1 ≤ e) (h9 : e < 9223372036854775808) (h2 : 4294967295 < e) : Calls Tryz.prog 14 #[.agg (row 65 (ekI e D T)).toArray, .int .i64 n, .slice o l k] w fun e' w' => e' = .returned (.tuple #[.pointer none, .int .i64 1]) ∧ Ext w w' := by
  have hcv : Hid (IntKind.u64.wrap e = e) := by show IntKind.u64.wrap e = e; rw [IntKind.wrap_u64]; omega
  have hE := hideit (Ext.refl w)
  go_enter Tryz.func14, Tryz.ntmps14
  go_upto_region 0 with (fail)
  refine wp_region_lit ?_
  have A0 := hideit (RowAt.new w 65 (ekI e D T) 24)
  have XB : Ext w (w.alloc (.cells (row 65 (ekI e D T)).toArray 24)) := (Below.refl _ _).alloc (Nat.le_refl _) _
  have AE := hideit (Ext.trans hE.out (XB))
  have AB := hideit (hE.out.size)
  clear XB
  refine wpList_to rfl (.pointer (some ⟨w.heap.size, 0, none⟩)) (w.alloc (.cells (row 65 (ekI e D T)).toArray 24)) (by simp [go_sem]) ?_
  simp only [zp0, zp1, zp2, zp3]
  generalize w.alloc (.cells (row 65 (ekI e D T)).toArray 24) = x1 at A0 AE ⊢
  obtain ⟨c3, ec3⟩ : ∃ b, b = w.heap.size := ⟨_, rfl⟩
  have ABc3 : Hid (w.heap.size ≤ c3) := by rw [ec3]; exact AB.out
  clear AB
  rw [← ec3] at A0  ⊢
  clear ec3
  have Hc3 := A0
  clear A0
  replace hE := AE
  clear AE
  refine xm [some (.pointer none), some (.int .i64 0)] (by kernel_rfl) (by simp [xr, go_sem]) ?_
  simp only [xw, p0, p1, p2, p3]
  go_upto_region 1 with (fail)
  refine wp_region_lit ?_
  have m2 : x1.cell? ⟨c3, 0, none⟩ = some (.int .i64 (e)) := Hc3.out.1 0 (by decide)
  refine xm [some (.pointer (some ⟨c3, 0, none⟩)), some (.int .i64 (e)), some (.bool false), some (.bool false), some (.pointer (some ⟨c3, 0, none⟩)), some (.int .i64 (e))] (by kernel_rfl) (by simp [xr, go_sem, m2, h1]) ?_
  simp only [xw, p0, p1, p2, p3]
  clear m2
  refine xm [some (.int .u64 (e)), some (.bool true), some (.bool true), some (.bool true), none, none, some (.bool true), some (.bool true), none, none, some (.bool true)] (by kernel_rfl) (by simp [xr, go_sem, hcv.out, h2]) ?_
  simp only [xw, p0, p1, p2, p3]
  go_upto_region 2 with (fail)
  refine wp_region_lit ?_
  refine xm [some (.pointer none), some (.int .i64 1)] (by kernel_rfl) (by simp [xr, go_sem]) ?_
  simp only [xw, p0, p1, p2, p3]
  go_wp2
  refine bodyPost_ret (res2 rfl _ _ _) rfl ?_
  exact ⟨rfl, hE.out⟩
set_option maxRecDepth 20000 in
set_option maxHeartbeats 4000000 in
theorem cip_c (e n : Int) (D T : Nat → BitVec 8) (o : Option Addr) (l k : Nat) (w : World) (h1 : 1 ≤ e) (h2 : e ≤ 4294967295) (h3 : n < 0) : Calls Tryz.prog 14 #[.agg (row 65 (ekI e D T)).toArray, .int .i64 n, .slice o l k] w fun e' w' => e' = .returned (.tuple #[.pointer none, .int .i64 1]) ∧ Ext w w' := by
  have hcv : Hid (IntKind.u64.wrap e = e) := by show IntKind.u64.wrap e = e; rw [IntKind.wrap_u64]; omega
  have hE := hideit (Ext.refl w)
  go_enter Tryz.func14, Tryz.ntmps14
  go_upto_region 0 with (fail)
  refine wp_region_lit ?_
  have A0 := hideit (RowAt.new w 65 (ekI e D T) 24)
  have XB : Ext w (w.alloc (.cells (row 65 (ekI e D T)).toArray 24)) := (Below.refl _ _).alloc (Nat.le_refl _) _
  have AE := hideit (Ext.trans hE.out (XB))
  have AB := hideit (hE.out.size)
  clear XB
  refine wpList_to rfl (.pointer (some ⟨w.heap.size, 0, none⟩)) (w.alloc (.cells (row 65 (ekI e D T)).toArray 24)) (by simp [go_sem]) ?_
  simp only [zp0, zp1, zp2, zp3]
  generalize w.alloc (.cells (row 65 (ekI e D T)).toArray 24) = x1 at A0 AE ⊢
  obtain ⟨c3, ec3⟩ : ∃ b, b = w.heap.size := ⟨_, rfl⟩
  have ABc3 : Hid (w.heap.size ≤ c3) := by rw [ec3]; exact AB.out
  clear AB
  rw [← ec3] at A0  ⊢
  clear ec3
  have Hc3 := A0
  clear A0
  replace hE := AE
  clear AE
  refine xm [some (.pointer none), some (.int .i64 0)] (by kernel_rfl) (by simp [xr, go_sem]) ?_
  simp only [xw, p0, p1, p2, p3]
  go_upto_region 1 with (fail)
  refine wp_region_lit ?_
  have m2 : x1.cell? ⟨c3, 0, none⟩ = some (.int .i64 (e)) := Hc3.out.1 0 (by decide)
  refine xm [some (.pointer (some ⟨c3, 0, none⟩)), some (.int .i64 (e)), some (.bool false), some (.bool false), some (.pointer (some ⟨c3, 0, none⟩)), some (.int .i64 (e))] (by kernel_rfl) (by simp [xr, go_sem, m2, h1]) ?_
  simp only [xw, p0, p1, p2, p3]
  clear m2
  refine xm [some (.int .u64 (e)), some (.bool false), some (.bool false), some (.bool false), some (.int .i64 (n)), some (.bool true), some (.bool true), some (.bool true), none, none, some (.bool true)] (by kernel_rfl) (by simp [xr, go_sem, hcv.out, h2, h3]) ?_
  simp only [xw, p0, p1, p2, p3]
  go_upto_region 2 with (fail)
  refine wp_region_lit ?_
  refine xm [some (.pointer none), some (.int .i64 1)] (by kernel_rfl) (by simp [xr, go_sem]) ?_
  simp only [xw, p0, p1, p2, p3]
  go_wp2
  refine bodyPost_ret (res2 rfl _ _ _) rfl ?_
  exact ⟨rfl, hE.out⟩
set_option maxRecDepth 20000 in
set_option maxHeartbeats 4000000 in
theorem cip_d (e n : Int) (D T : Nat → BitVec 8) (o : Option Addr) (l k : Nat) (w : World) (h1 : 1 ≤ e) (h2 : e ≤ 4294967295) (h3 : 0 ≤ n) (h4 : 1024 ≤ n) : Calls Tryz.prog 14 #[.agg (row 65 (ekI e D T)).toArray, .int .i64 n, .slice o l k] w fun e' w' => e' = .returned (.tuple #[.pointer none, .int .i64 1]) ∧ Ext w w' := by
  have hcv : Hid (IntKind.u64.wrap e = e) := by show IntKind.u64.wrap e = e; rw [IntKind.wrap_u64]; omega
  have hE := hideit (Ext.refl w)
  go_enter Tryz.func14, Tryz.ntmps14
  go_upto_region 0 with (fail)
  refine wp_region_lit ?_
  have A0 := hideit (RowAt.new w 65 (ekI e D T) 24)
  have XB : Ext w (w.alloc (.cells (row 65 (ekI e D T)).toArray 24)) := (Below.refl _ _).alloc (Nat.le_refl _) _
  have AE := hideit (Ext.trans hE.out (XB))
  have AB := hideit (hE.out.size)
  clear XB
  refine wpList_to rfl (.pointer (some ⟨w.heap.size, 0, none⟩)) (w.alloc (.cells (row 65 (ekI e D T)).toArray 24)) (by simp [go_sem]) ?_
  simp only [zp0, zp1, zp2, zp3]
  generalize w.alloc (.cells (row 65 (ekI e D T)).toArray 24) = x1 at A0 AE ⊢
  obtain ⟨c3, ec3⟩ : ∃ b, b = w.heap.size := ⟨_, rfl⟩
  have ABc3 : Hid (w.heap.size ≤ c3) := by rw [ec3]; exact AB.out
  clear AB
  rw [← ec3] at A0  ⊢
  clear ec3
  have Hc3 := A0
  clear A0
  replace hE := AE
  clear AE
  refine xm [some (.pointer none), some (.int .i64 0)] (by kernel_rfl) (by simp [xr, go_sem]) ?_
  simp only [xw, p0, p1, p2, p3]
  go_upto_region 1 with (fail)
  refine wp_region_lit ?_
  have m2 : x1.cell? ⟨c3, 0, none⟩ = some (.int .i64 (e)) := Hc3.out.1 0 (by decide)
  refine xm [some (.pointer (some ⟨c3, 0, none⟩)), some (.int .i64 (e)), some (.bool false), some (.bool false), some (.pointer (some ⟨c3, 0, none⟩)), some (.int .i64 (e))] (by kernel_rfl) (by simp [xr, go_sem, m2, h1]) ?_
  simp only [xw, p0, p1, p2, p3]
  clear m2
  refine xm [some (.int .u64 (e)), some (.bool false), some (.bool false), some (.bool false), some (.int .i64 (n)), some (.bool false), some (.bool false), some (.bool false), some (.int .i64 (n)), some (.bool true), some (.bool true)] (by kernel_rfl) (by simp [xr, go_sem, hcv.out, h2, h3, h4]) ?_
  simp only [xw, p0, p1, p2, p3]
  go_upto_region 2 with (fail)
  refine wp_region_lit ?_
  refine xm [some (.pointer none), some (.int .i64 1)] (by kernel_rfl) (by simp [xr, go_sem]) ?_
  simp only [xw, p0, p1, p2, p3]
  go_wp2
  refine bodyPost_ret (res2 rfl _ _ _) rfl ?_
  exact ⟨rfl, hE.out⟩
set_option maxRecDepth 20000 in
set_option maxHeartbeats 4000000 in
theorem cip_e (e n : Int) (D T : Nat → BitVec 8) (o : Option Addr) (l k : Nat) (w : World) (h1 : 1 ≤ e) (h2 : e ≤ 4294967295) (h3 : 0 ≤ n) (h4 : n < 1024) (h5 : ¬ (l : Int) = 512) : Calls Tryz.prog 14 #[.agg (row 65 (ekI e D T)).toArray, .int .i64 n, .slice o l k] w fun e' w' => e' = .returned (.tuple #[.pointer none, .int .i64 101]) ∧ Ext w w' := by
  have hcv : Hid (IntKind.u64.wrap e = e) := by show IntKind.u64.wrap e = e; rw [IntKind.wrap_u64]; omega
  have hE := hideit (Ext.refl w)
  go_enter Tryz.func14, Tryz.ntmps14
  go_upto_region 0 with (fail)
  refine wp_region_lit ?_
  have A0 := hideit (RowAt.new w 65 (ekI e D T) 24)
  have XB : Ext w (w.alloc (.cells (row 65 (ekI e D T)).toArray 24)) := (Below.refl _ _).alloc (Nat.le_refl _) _
  have AE := hideit (Ext.trans hE.out (XB))
  have AB := hideit (hE.out.size)
  clear XB
  refine wpList_to rfl (.pointer (some ⟨w.heap.size, 0, none⟩)) (w.alloc (.cells (row 65 (ekI e D T)).toArray 24)) (by simp [go_sem]) ?_
  simp only [zp0, zp1, zp2, zp3]
  generalize w.alloc (.cells (row 65 (ekI e D T)).toArray 24) = x1 at A0 AE ⊢
  obtain ⟨c3, ec3⟩ : ∃ b, b = w.heap.size := ⟨_, rfl⟩
  have ABc3 : Hid (w.heap.size ≤ c3) := by rw [ec3]; exact AB.out
  clear AB
  rw [← ec3] at A0  ⊢
  clear ec3
  have Hc3 := A0
  clear A0
  replace hE := AE
  clear AE
  refine xm [some (.pointer none), some (.int .i64 0)] (by kernel_rfl) (by simp [xr, go_sem]) ?_
  simp only [xw, p0, p1, p2, p3]
  go_upto_region 1 with (fail)
  refine wp_region_lit ?_
  have m2 : x1.cell? ⟨c3, 0, none⟩ = some (.int .i64 (e)) := Hc3.out.1 0 (by decide)
  refine xm [some (.pointer (some ⟨c3, 0, none⟩)), some (.int .i64 (e)), some (.bool false), some (.bool false), some (.pointer (some ⟨c3, 0, none⟩)), some (.int .i64 (e))] (by kernel_rfl) (by simp [xr, go_sem, m2, h1]) ?_
  simp only [xw, p0, p1, p2, p3]
  clear m2
  refine xm [some (.int .u64 (e)), some (.bool false), some (.bool false), some (.bool false), some (.int .i64 (n)), some (.bool false), some (.bool false), some (.bool false), some (.int .i64 (n)), some (.bool false), some (.bool false)] (by kernel_rfl) (by simp [xr, go_sem, hcv.out, h2, h3, h4]) ?_
  simp only [xw, p0, p1, p2, p3]
  go_upto_region 3 with (fail)
  refine wp_region_lit ?_
  refine xm [some (.slice o l k), some (.int .i64 (l : Int)), some (.bool true)] (by kernel_rfl) (by simp [xr, go_sem, h5]) ?_
  simp only [xw, p0, p1, p2, p3]
  go_upto_region 4 with (fail)
  refine wp_region_lit ?_
  refine xm [some (.pointer none), some (.int .i64 101)] (by kernel_rfl) (by simp [xr, go_sem]) ?_
  simp only [xw, p0, p1, p2, p3]
  go_wp2
  refine bodyPost_ret (res2 rfl _ _ _) rfl ?_
  exact ⟨rfl, hE.out⟩
theorem cip_no (e n : Int) (D T : Nat → BitVec 8) (o : Option Addr) (l k : Nat) (w : World) (h9 : e < 9223372036854775808) (h : ¬ sC e n l = 0) : Calls Tryz.prog 14 #[.agg (row 65 (ekI e D T)).toArray, .int .i64 n, .slice o l k] w fun e' w' => e' = .returned (.tuple #[.pointer none, .int .i64 (sC e n l)]) ∧ Ext w w' := by
  by_cases h1 : e < 1
  · rw [sC_1 (l := l) (show ¬ okK e n by unfold okK; omega)]
    exact cip_a e n D T o l k w h1
  by_cases h2 : 4294967295 < e
  · rw [sC_1 (l := l) (show ¬ okK e n by unfold okK; omega)]
    exact cip_b e n D T o l k w (by omega) h9 h2
  by_cases h3 : n < 0
  · rw [sC_1 (l := l) (show ¬ okK e n by unfold okK; omega)]
    exact cip_c e n D T o l k w (by omega) (by omega) h3
  by_cases h4 : 1024 ≤ n
  · rw [sC_1 (l := l) (show ¬ okK e n by unfold okK; omega)]
    exact cip_d e n D T o l k w (by omega) (by omega) (by omega) h4
  have h5 : ¬ l = 512 := fun q => h (sC_0 (show okK e n by unfold okK; omega) q)
  rw [sC_101 (show okK e n by unfold okK; omega) h5]
  exact cip_e e n D T o l k w (by omega) (by omega) (by omega) (by omega) (by omega)
set_option maxRecDepth 20000 in
set_option maxHeartbeats 4000000 in
theorem open_bad (e n : Int) (D T : Nat → BitVec 8) (o : Option Addr) (l k : Nat) (w : World) (R : Nat → BitVec 8) (h9 : e < 9223372036854775808) (h : ¬ sC e n l = 0) : Calls Tryz.prog 9 #[.agg (row 65 (ekI e D T)).toArray, .int .i64 n, .slice o l k, .agg (row 64 (yv R)).toArray] w fun e' w' => e' = .returned (.tuple #[.slice none 0 0, .int .i64 (sC e n l)]) ∧ Ext w w' := by
  obtain ⟨c, hcd⟩ : ∃ c, c = sC e n l := ⟨_, rfl⟩
  have hcip : ∀ X, Ext w X → Calls Tryz.prog 14 #[.agg (row 65 (ekI e D T)).toArray, .int .i64 n, .slice o l k] X fun e' w' => e' = .returned (.tuple #[.pointer none, .int .i64 c]) ∧ Ext X w' := fun X _ => by rw [hcd]; exact cip_no e n D T o l k X h9 h
  have hc : ¬ c = 0 := by rw [hcd]; exact h
  rw [← hcd]
  clear hcd h
  have hE := hideit (Ext.refl w)
  go_enter Tryz.func9, Tryz.ntmps9
  go_upto_region 0 with (fail)
  refine wp_region_lit ?_
  have A0 := hideit (RowAt.new w 65 (ekI e D T) 24)
  have XB : Ext w (w.alloc (.cells (row 65 (ekI e D T)).toArray 24)) := (Below.refl _ _).alloc (Nat.le_refl _) _
  have AE := hideit (Ext.trans hE.out (XB))
  have AB := hideit (hE.out.size)
  clear XB
  refine wpList_to rfl (.pointer (some ⟨w.heap.size, 0, none⟩)) (w.alloc (.cells (row 65 (ekI e D T)).toArray 24)) (by simp [go_sem]) ?_
  simp only [zp0, zp1, zp2, zp3]
  generalize w.alloc (.cells (row 65 (ekI e D T)).toArray 24) = x1 at A0 AE ⊢
  obtain ⟨c4, ec4⟩ : ∃ b, b = w.heap.size := ⟨_, rfl⟩
  have ABc4 : Hid (w.heap.size ≤ c4) := by rw [ec4]; exact AB.out
  clear AB
  rw [← ec4] at A0  ⊢
  clear ec4
  have Hc4 := A0
  clear A0
  replace hE := AE
  clear AE
  have A0 := hideit (RowAt.new x1 64 (yv R) 26)
  have XB : Ext x1 (x1.alloc (.cells (row 64 (yv R)).toArray 26)) := (Below.refl _ _).alloc (Nat.le_refl _) _
  have A1 := hideit (Hc4.out.carry XB)
  have AE := hideit (Ext.trans hE.out (XB))
  have AB := hideit (hE.out.size)
  have D0 : Hid (c4 ≠ x1.heap.size) := Nat.ne_of_lt Hc4.out.2.2
  clear XB
  refine wpList_to rfl (.pointer (some ⟨x1.heap.size, 0, none⟩)) (x1.alloc (.cells (row 64 (yv R)).toArray 26)) (by simp [go_sem]) ?_
  simp only [zp0, zp1, zp2, zp3]
  generalize x1.alloc (.cells (row 64 (yv R)).toArray 26) = x2 at A0 A1 AE ⊢
  obtain ⟨c7, ec7⟩ : ∃ b, b = x1.heap.size := ⟨_, rfl⟩
  have ABc7 : Hid (w.heap.size ≤ c7) := by rw [ec7]; exact AB.out
  clear AB
  rw [← ec7] at A0 D0 ⊢
  clear ec7
  have Hc7 := A0
  clear A0
  replace Hc4 := A1
  clear A1
  replace hE := AE
  clear AE
  have Dc7_0 := D0
  clear D0
  refine xm [some (.slice none 0 0), some (.int .i64 0)] (by kernel_rfl) (by simp [xr, go_sem]) ?_
  simp only [xw, p0, p1, p2, p3]
  go_upto_region 1 with (fail)
  refine wp_region_lit ?_
  refine wpList_run rfl (.agg (row 65 (ekI e D T)).toArray) (xload 24 (.tmp 4) rfl c4 0 65 _ rfl Hc4.out.range Tryz.underlying24 rfl inf50) ?_
  simp only [zp0, zp1, zp2, zp3]
  refine xm [some (.int .i64 (n)), some (.slice o l k)] (by kernel_rfl) (by simp [xr, go_sem]) ?_
  simp only [xw, p0, p1, p2, p3]
  refine wpList_call rfl (by simp [go_sem]) ((hcip x2 hE.out).mono ?_)
  rintro e y3 ⟨rfl, hX4⟩
  refine ⟨_, rfl, ?_⟩
  simp only [zp0, zp1, zp2, zp3]
  replace Hc4 := hideit (Hc4.out.carry hX4)
  replace Hc7 := hideit (Hc7.out.carry hX4)
  replace hE := hideit (Ext.trans hE.out (hX4))
  clear hX4
  refine xm [some (.tuple #[.pointer none, .int .i64 (c)]), some (.pointer none), some (.int .i64 (c)), some (.pointer none), some (.int .i64 (c))] (by kernel_rfl) (by simp [xr, go_sem]) ?_
  simp only [xw, p0, p1, p2, p3]
  go_upto_region 2 with (fail)
  refine wp_region_lit ?_
  refine xm [some (.int .i64 (c)), some (.bool true)] (by kernel_rfl) (by simp [xr, go_sem, hc]) ?_
  simp only [xw, p0, p1, p2, p3]
  go_upto_region 3 with (fail)
  refine wp_region_lit ?_
  refine xm [some (.int .i64 (c)), some (.slice none 0 0), some (.int .i64 (c))] (by kernel_rfl) (by simp [xr, go_sem]) ?_
  simp only [xw, p0, p1, p2, p3]
  go_wp2
  refine bodyPost_ret (res2 rfl _ _ _) rfl ?_
  exact ⟨rfl, hE.out⟩
end Go.Proofs.YtfpfgbhdehbggaaGreatDoor
namespace Go.Proofs.YtfpfgbhdehbggaaGreatDoor
open Go.RowKit Go.BigFrame
set_option linter.unusedVariables false
set_option maxRecDepth 20000
theorem addr0 (b j : Nat) : (⟨b, 0, none⟩ : Addr).add j = ⟨b, j, none⟩ := by unfold Addr.add; split <;> simp_all
def blkF (l : Nat) (f : Nat → BitVec 8) (j : Nat) : BitVec 8 := if l = 0 then 0#8 else f (j % l)
def blkP (l : Nat) (f : Nat → BitVec 8) (i j : Nat) : BitVec 8 := if j < i then blkF l f j else 0#8
theorem blk_next (l : Nat) (f : Nat → BitVec 8) (i m : Nat) (hm : m = i % l) (hl : 0 < l) (j : Nat) (hj : j < 512) : (if j = i then Value.int .u8 ((f m).toNat : Int) else yv (blkP l f i) j) = yv (blkP l f (i + 1)) j := by
  subst hm
  unfold yv blkP
  by_cases e : j = i
  · subst e
    rw [if_pos rfl, if_pos (by omega)]
    unfold blkF
    rw [if_neg (by omega)]
  · rw [if_neg e]
    by_cases e2 : j < i
    · rw [if_pos e2, if_pos (by omega)]
    · rw [if_neg e2, if_neg (by omega)]
theorem own_row512 {W X : World} {g : Nat → Value} (h : OwnB W.heap.size 5 (.slice (some ⟨W.heap.size, 0, none⟩) 512 512) 512 g X) : RowAt W.heap.size 512 g X := by
  obtain ⟨b, cap, h1, _, _, _, hR⟩ := h.lies (by decide)
  injection h1 with h1
  injection h1 with h1
  injection h1 with h1
  rw [h1]
  exact hR
theorem BV.lie {a : Addr} {l c : Nat} {f : Nat → BitVec 8} {w : World} (h : BV (.slice (some a) l c) l f w) : LieAt a l (yv f) w := by
  rcases h with ⟨h, _⟩ | ⟨a', c', h, _, h3⟩
  · cases h
  · injection h with h1 h2 h3'; injection h1 with h1; subst h1; exact h3
theorem BV.butz {a : Addr} {l k z : Nat} {f : Nat → BitVec 8} {w X : World} (h : BV (.slice (some a) l k) l f w) (hB : But z w X) (ha : a.block ≠ z) : BV (.slice (some a) l k) l f X := by
  rcases h with ⟨h, _⟩ | ⟨a', c, h, h2, h3⟩
  · injection h with h; cases h
  · injection h with h h1 h4
    injection h with h
    subst h
    exact .inr ⟨a, c, by rw [h4], h2, h3.but hB ha⟩
set_option maxRecDepth 20000 in
set_option maxHeartbeats 4000000 in
theorem blk512_any (o : Option Addr) (l k : Nat) (f : Nat → BitVec 8) (w : World) (hV : BV (.slice o l k) l f w) (hl63 : l ≤ 140737488355328) : Calls Tryz.prog 20 #[.slice o l k] w fun e w' => ∃ z, e = .returned (.slice (some ⟨z, 0, none⟩) 512 512) ∧ w.heap.size ≤ z ∧ RowAt z 512 (yv (blkF l f)) w' ∧ Ext w w' := by
  have hno : Hid (∀ z, w.heap.size ≤ z → ∀ a, o = some a → a.block ≠ z) := fun z hz a e => by
    rcases hV with ⟨h, _⟩ | ⟨a', c, h, _, h3⟩
    · injection h with h; rw [e] at h; cases h
    · injection h with h; rw [e] at h; injection h with h; have := h3.2; rw [h]; omega
  replace hV := hideit hV
  have hE := hideit (Ext.refl w)
  go_enter Tryz.func20, Tryz.ntmps20
  go_upto_region 1 with (fail)
  refine wp_region_lit ?_
  refine wpList_made w Tryz.underlying25 (by kernel_rfl) rfl _ _ rfl 512 rfl rfl (by decide) ?_
  intro x1 hO1 hX1
  have Hz := hideit ((own_row512 hO1).congr (g' := yv (blkP l f 0)) fun j hj => by unfold yv blkP; rw [if_neg (by omega)])
  replace hV := hideit (hV.out.ext hX1)
  replace hE := hideit (Ext.trans hE.out hX1)
  simp only [zp0, zp1, zp2, zp3]
  clear hO1 hX1
  obtain ⟨z, ez⟩ : ∃ b, b = w.heap.size := ⟨_, rfl⟩
  have ABz : Hid (w.heap.size ≤ z) := by rw [ez]; exact Nat.le_refl _
  rw [← ez] at Hz ⊢
  clear ez
  refine xm [some (.slice (some ⟨z, 0, none⟩) 512 512)] (by kernel_rfl) (by simp [xr, go_sem]) ?_
  simp only [xw, p0, p1, p2, p3]
  go_wp2
  go_loopw [4] (fun t X => ∃ i : Nat, i ≤ 512 ∧ t = .int .i64 (i : Int) ∧ RowAt z 512 (yv (blkP l f i)) X ∧ BV (.slice o l k) l f X ∧ Ext w X) (fun t _ => 512 - (intOf t).toNat)
  case atStart => exact ⟨0, by omega, rfl, Hz.out, hV.out, hE.out⟩
  case round =>
    obtain ⟨i, hi5, rfl, r0, rV, rE⟩ := hrel
    clear Hz hV hE
    replace r0 := hideit r0
    replace rV := hideit rV
    replace rE := hideit rE
    by_cases hi2 : (i : Int) < 512
    · have hi := hideit hi2
      have hin : Hid (i < 512) := by show i < 512; omega
      have ek : IntKind.i64.wrap ((i : Int) + 1) = ((i + 1 : Nat) : Int) := by rw [IntKind.wrap_i64]; omega
      have hge : Hid (¬ 512 ≤ (i : Int)) := by show ¬ 512 ≤ (i : Int); omega
      clear hi2 hi5
      by_cases hl1 : (l : Int) > 0
      · have hl := hideit hl1
        have hl0 : Hid (0 < l) := by show 0 < l; omega
        have hl2 : Hid (¬ l = 0) := by show ¬ l = 0; omega
        clear hl1
        obtain ⟨a, rfl⟩ : ∃ a, o = some a := by
          rcases rV.out with ⟨_, h0⟩ | ⟨a, c, h1, _⟩
          · have := hl0.out; omega
          · injection h1 with h1; exact ⟨a, h1⟩
        have haz : Hid (a.block ≠ z) := hno.out z ABz.out a rfl
        obtain ⟨m, hm⟩ : ∃ m : Nat, m = i % l := ⟨_, rfl⟩
        have hml : Hid (m < l) := by rw [hm]; exact Nat.mod_lt i hl0.out
        have hel : Hid (wr.cell? (a.add m) = some (.int .u8 ((f m).toNat : Int))) := rV.out.lie.1 m hml.out
        have hmod : Hid ((i : Int).tmod (l : Int) = (m : Int)) := by show (i : Int).tmod (l : Int) = _; rw [Int.tmod_eq_emod_of_nonneg (by omega), hm]; simp
        replace hm := hideit hm
        go_upto_region 3 with (fail)
        refine wp_region_lit ?_
        refine xm [some (.int .i64 (i : Int)), some (.bool true), some (.bool true), some (.slice (some a) l k), some (.int .i64 (l : Int)), some (.bool true), some (.bool true)] (by kernel_rfl) (by simp [xr, go_sem, hi.out, hl0.out]) ?_
        simp only [xw, p0, p1, p2, p3]
        go_upto_region 5 with (fail)
        refine wp_region_lit ?_
        refine xm [some (.slice (some ⟨z, 0, none⟩) 512 512), some (.int .i64 (i : Int)), some (.slice (some a) l k), some (.int .i64 (i : Int)), some (.slice (some a) l k), some (.int .i64 (l : Int)), some (.int .i64 (m : Int)), some (.pointer (some (a.add m))), some (.int .u8 ((f m).toNat : Int)), some (.pointer (some ⟨z, i, none⟩))] (by kernel_rfl) (by simp [xr, go_sem, hmod.out, hl2.out, hml.out, hel.out, hge.out, addr0]) ?_
        simp only [xw, p0, p1, p2, p3]
        have M0 : wr.cell? ⟨z, i, none⟩ = some (yv (blkP l f i) i) := r0.out.1 i hin.out
        have M1 : wr.frozen? ⟨z, i, none⟩ = false := r0.out.2.1 i hin.out
        have N0 := hideit ((r0.out.set i (.int .u8 ((f m).toNat : Int))).congr (g' := yv (blkP l f (i + 1))) (blk_next l f i m hm.out hl0.out))
        have NE := hideit (rE.out.setCell (p := ⟨z, i, none⟩) ABz.out (.int .u8 ((f m).toNat : Int)))
        have NV := hideit (BV.butz rV.out (show But z wr (wr.setCell ⟨z, i, none⟩ (.int .u8 ((f m).toNat : Int))) from (But.refl z wr).set i _) haz.out)
        refine xst rfl (wr.setCell ⟨z, i, none⟩ (.int .u8 ((f m).toNat : Int))) (by simp [go_sem, M0, M1]) ?_
        simp only [Act.put]
        generalize wr.setCell ⟨z, i, none⟩ (.int .u8 ((f m).toNat : Int)) = w9 at N0 NE NV ⊢
        clear M0 M1
        go_upto_region 4 with (fail)
        refine wp_region_lit ?_
        refine xm [some (.int .i64 (i : Int)), some (.int .i64 ((i + 1 : Nat) : Int)), some (.int .i64 ((i + 1 : Nat) : Int))] (by kernel_rfl) (by simp [xr, go_sem, ek]) ?_
        simp only [xw, p0, p1, p2, p3]
        go_wp2
        go_round
        case rel => exact ⟨i + 1, by have := hin.out; omega, rfl, N0.out, NV.out, NE.out⟩
        case measure => have := hin.out; simp [intOf]; omega
      · have hl := hideit hl1
        have hl0 : l = 0 := by omega
        have r9 := hideit (r0.out.congr (g' := yv (blkF l f)) fun j hj => by unfold yv blkP blkF; rw [if_pos hl0]; split <;> rfl)
        replace hl0 : Hid (¬ 0 < l) := by show ¬ 0 < l; omega
        clear hl1 r0 rV
        go_upto_region 3 with (fail)
        refine wp_region_lit ?_
        refine xm [some (.int .i64 (i : Int)), some (.bool true), some (.bool true), some (.slice o l k), some (.int .i64 (l : Int)), some (.bool false), some (.bool false)] (by kernel_rfl) (by simp [xr, go_sem, hi.out, hl0.out]) ?_
        simp only [xw, p0, p1, p2, p3]
        go_upto_region 6 with (fail)
        refine wp_region_lit ?_
        refine xm [some (.slice (some ⟨z, 0, none⟩) 512 512), some (.slice (some ⟨z, 0, none⟩) 512 512)] (by kernel_rfl) (by simp [xr, go_sem]) ?_
        simp only [xw, p0, p1, p2, p3]
        go_wp2
        go_ret
        exact ⟨z, rfl, ABz.out, r9.out, rE.out⟩
    · have hi := hideit hi2
      have hi6 : i = 512 := by omega
      have r9 := hideit (r0.out.congr (g' := yv (blkF l f)) fun j hj => by unfold yv blkP; rw [if_pos (by omega)])
      have hge : Hid (512 ≤ (i : Int)) := by show 512 ≤ (i : Int); omega
      clear hi2 hi5 r0 rV hi6
      go_upto_region 3 with (fail)
      refine wp_region_lit ?_
      refine xm [some (.int .i64 (i : Int)), some (.bool false), some (.bool false), none, none, none, some (.bool false)] (by kernel_rfl) (by simp [xr, go_sem, hge.out]) ?_
      simp only [xw, p0, p1, p2, p3]
      go_upto_region 6 with (fail)
      refine wp_region_lit ?_
      refine xm [some (.slice (some ⟨z, 0, none⟩) 512 512), some (.slice (some ⟨z, 0, none⟩) 512 512)] (by kernel_rfl) (by simp [xr, go_sem]) ?_
      simp only [xw, p0, p1, p2, p3]
      go_wp2
      go_ret
      exact ⟨z, rfl, ABz.out, r9.out, rE.out⟩
end Go.Proofs.YtfpfgbhdehbggaaGreatDoor
