/-
  Opening: the program and the document tell the same. Sealing: the program and the document do the same, and it opens again. How headers that came in read.
-/
import Derived.Test.YtfpfgbhdehbggaaGreatDoorQa41
import Derived.Test.YtfpfgbhdehbggaaGreatDoorQa45
import Derived.Test.YtfpfgbhdehbggaaGreatDoorQa1
import Derived.Test.YtfpfgbhdehbggaaGreatDoorQa31
import Derived.Test.YtfpfgbhdehbggaaGreatDoorQa8
import Derived.Test.YtfpfgbhdehbggaaGreatDoorQa30
import Derived.Test.YtfpfgbhdehbggaaGreatDoorQa7
import Derived.Deep.Slices
namespace Go.Proofs.YtfpfgbhdehbggaaGreatDoor
open Go.RowKit Go.BigFrame
set_option linter.unusedVariables false
set_option maxRecDepth 20000
end Go.Proofs.YtfpfgbhdehbggaaGreatDoor
namespace Go.Proofs.YtfpfgbhdehbggaaGreatDoor
open Go.RowKit Go.BigFrame
set_option linter.unusedVariables false
set_option maxRecDepth 20000
theorem op_back {e n : Int} {D T : Nat → BitVec 8} {l : Nat} {f : Nat → BitVec 8} (h : sC e n l = 0) : opC e n T (seL e n l) (seF D n.toNat f) (srF e n D T l f) = 0 := by
  obtain ⟨h1, rfl⟩ := sC_ok h
  rw [show seL e n 512 = 512 from if_pos h]
  exact opC_0 h fun j hj => (if_pos h).symm
theorem op_str {e n : Int} {D T : Nat → BitVec 8} {l : Nat} {f : Nat → BitVec 8} (h : sC e n l = 0) : bS (opL e n T (seL e n l) (seF D n.toNat f) (srF e n D T l f)) (opF D n.toNat (seF D n.toNat f)) = bS l f := by
  rw [opL_0 (op_back h), (sC_ok h).2]
  exact bS_congr fun j hj => op_se D n.toNat f j hj
set_option maxRecDepth 20000 in
set_option maxHeartbeats 4000000 in
theorem seals_any (e n : Int) (D T : Nat → BitVec 8) (v : Value) (l : Nat) (f : Nat → BitVec 8) (w : World) (hV : BV v l f w) (hl : l ≤ 140737488351232) (h9 : e < 9223372036854775808) (hC : TabC w) : Calls Tryz.prog 3 #[.agg (row 65 (ekI e D T)).toArray, .int .i64 n, v] w fun e' w' => e' = .returned (.bool true) ∧ Ext w w' := by
  obtain ⟨o, k, rfl⟩ := hV.form
  replace hV := hideit hV
  have hE := hideit (Ext.refl w)
  go_enter Tryz.func3, Tryz.ntmps3
  go_upto_region 0 with (fail)
  refine wp_region_lit ?_
  have A0 := hideit (RowAt.new w 65 (ekI e D T) 24)
  have XB : Ext w (w.alloc (.cells (row 65 (ekI e D T)).toArray 24)) := (Below.refl _ _).alloc (Nat.le_refl _) _
  have L0 := hideit (hV.out.ext XB)
  have AE := hideit (Ext.trans hE.out (XB))
  have AB := hideit (hE.out.size)
  clear XB
  refine wpList_to rfl (.pointer (some ⟨w.heap.size, 0, none⟩)) (w.alloc (.cells (row 65 (ekI e D T)).toArray 24)) (by simp [go_sem]) ?_
  simp only [zp0, zp1, zp2, zp3]
  generalize w.alloc (.cells (row 65 (ekI e D T)).toArray 24) = x1 at A0 L0 AE ⊢
  obtain ⟨c3, ec3⟩ : ∃ b, b = w.heap.size := ⟨_, rfl⟩
  have ABc3 : Hid (w.heap.size ≤ c3) := by rw [ec3]; exact AB.out
  clear AB
  rw [← ec3] at A0  ⊢
  clear ec3
  have Hc3 := A0
  clear A0
  replace hV := L0
  clear L0
  replace hE := AE
  clear AE
  refine xm [some (.bool false)] (by kernel_rfl) (by simp [xr, go_sem]) ?_
  simp only [xw, p0, p1, p2, p3]
  go_upto_region 1 with (fail)
  refine wp_region_lit ?_
  have hG := hideit (GB.empty x1 (Ext.refl x1) f)
  have XB : Ext x1 (x1.alloc (.cells #[] 5)) := (Below.refl _ _).alloc (Nat.le_refl _) _
  have hVa := hideit (hV.out.ext XB)
  refine wpList_to rfl (.slice (some ⟨x1.heap.size, 0, none⟩) 0 0) (x1.alloc (.cells #[] 5)) (by simp [go_sem]) ?_
  simp only [zp0, zp1, zp2, zp3]
  refine xm [some (.slice o l k)] (by kernel_rfl) (by simp [xr, go_sem]) ?_
  simp only [xw, p0, p1, p2, p3]
  refine wpList_gb rfl (.tmp 15) (.tmp 16) rfl rfl hG.out (.slice o l k) l f rfl hVa.out (by omega) ?_
  intro v9 X9 hG9
  simp only [zp0, zp1, zp2, zp3]
  obtain ⟨o9, k9, rfl⟩ := hG9.form
  rw [Nat.zero_add] at hG9 ⊢
  obtain ⟨hO9, hX9⟩ := hG9
  have hW := hideit (hO9.bv.congr (g := f) fun j hj => by unfold catF; rw [if_neg (by omega), Nat.sub_zero])
  replace Hc3 := hideit (Hc3.out.carry hX9)
  replace hV := hideit (hV.out.ext hX9)
  replace hE := hideit (Ext.trans hE.out (hX9))
  clear hO9 hX9 hG hVa XB
  refine xm [some (.slice o9 l k9)] (by kernel_rfl) (by simp [xr, go_sem]) ?_
  simp only [xw, p0, p1, p2, p3]
  have hF := hideit (Ext.refl X9)
  go_upto_region 2 with (fail)
  refine wp_region_lit ?_
  refine wpList_run rfl (.agg (row 65 (ekI e D T)).toArray) (xload 24 (.tmp 3) rfl c3 0 65 _ rfl Hc3.out.range Tryz.underlying24 rfl inf50) ?_
  simp only [zp0, zp1, zp2, zp3]
  refine xm [some (.int .i64 (n)), some (.slice o9 l k9)] (by kernel_rfl) (by simp [xr, go_sem]) ?_
  simp only [xw, p0, p1, p2, p3]
  refine wpList_call rfl (by simp [go_sem]) ((seal_any e n D T (.slice o9 l k9) l f X9 (hW.out.ext hF.out) h9 (hC.ext (Ext.trans hE.out hF.out))).mono ?_)
  rintro e y2 ⟨ua, rfl, hua, hXua⟩
  refine ⟨_, rfl, ?_⟩
  simp only [zp0, zp1, zp2, zp3]
  replace Hc3 := hideit (Hc3.out.carry hXua)
  replace hF := hideit (Ext.trans hF.out (hXua))
  obtain ⟨oua, kua, rfl⟩ := hua.form
  replace hua := hideit hua
  clear hXua
  replace hE := hideit (Ext.trans hE.out hF.out)
  replace hV := hideit (hV.out.ext hF.out)
  replace hW := hideit (hW.out.ext hF.out)
  replace hF := hideit (Ext.refl y2)
  refine xm [some (.tuple #[.slice oua (seL e n l) kua, .agg (row 64 (yv (srF e n D T l f))).toArray, .int .i64 (sC e n l)]), some (.slice oua (seL e n l) kua), some (.agg (row 64 (yv (srF e n D T l f))).toArray), some (.int .i64 (sC e n l))] (by kernel_rfl) (by simp [xr, go_sem]) ?_
  simp only [xw, p0, p1, p2, p3]
  have A0 := hideit (RowAt.new y2 64 (yv fun _ => 0#8) 26)
  have A1 := hideit (Hc3.out.alloc (.cells (row 64 (yv fun _ => 0#8)).toArray 26))
  have AE := hideit (Below.alloc hF.out (Below.size hF.out) (.cells (row 64 (yv fun _ => 0#8)).toArray 26))
  have AB := hideit (Below.size hF.out)
  have D0 : Hid (c3 ≠ y2.heap.size) := Nat.ne_of_lt Hc3.out.2.2
  refine wpList_to rfl (.pointer (some ⟨y2.heap.size, 0, none⟩)) (y2.alloc (.cells (row 64 (yv fun _ => 0#8)).toArray 26)) (xalloc 26 (row 64 (yv fun _ => 0#8)).toArray rfl (zero23 y2)) ?_
  simp only [zp0, zp1, zp2, zp3]
  generalize y2.alloc (.cells (row 64 (yv fun _ => 0#8)).toArray 26) = x4 at A0 A1 AE ⊢
  obtain ⟨z3, ez3⟩ : ∃ b, b = y2.heap.size := ⟨_, rfl⟩
  replace AB : Hid (y2.heap.size ≤ z3) := by rw [ez3]; exact AB.out
  rw [← ez3] at A0 D0 ⊢
  clear ez3
  have Hz3 := A0
  clear A0
  replace Hc3 := A1
  clear A1
  replace hF := AE
  clear AE
  have ABz3 := AB
  clear AB
  have Dz3_0 := D0
  clear D0
  refine xm [some (.slice oua (seL e n l) kua)] (by kernel_rfl) (by simp [xr, go_sem]) ?_
  simp only [xw, p0, p1, p2, p3]
  have N0 := hideit (Hz3.out.cells (g' := yv (srF e n D T l f)))
  have N1 := hideit (Hc3.out.cellsOther (Ne.symm (Dz3_0.out)) (row 64 (yv (srF e n D T l f))) 0)
  have NE := hideit (below_setCells z3 (ABz3.out) (row 64 (yv (srF e n D T l f))) 0 _ hF.out)
  refine xst rfl (x4.setCells z3 0 (row 64 (yv (srF e n D T l f)))) (xstore 26 (.tmp 9) (.tmp 24) rfl z3 64 _ (yv (srF e n D T l f)) rfl rfl Hz3.out inf23 (fun j _ => rfl)) ?_
  simp only [Act.put]
  generalize x4.setCells z3 0 (row 64 (yv (srF e n D T l f))) = x5 at N0 N1 NE ⊢
  replace Hz3 := N0
  replace Hc3 := N1
  replace hF := NE
  clear N0 N1 NE
  refine xm [some (.int .i64 (sC e n l))] (by kernel_rfl) (by simp [xr, go_sem]) ?_
  simp only [xw, p0, p1, p2, p3]
  go_upto_region 3 with (fail)
  refine wp_region_lit ?_
  refine wpList_run rfl (.agg (row 65 (ekI e D T)).toArray) (xload 24 (.tmp 3) rfl c3 0 65 _ rfl Hc3.out.range Tryz.underlying24 rfl inf50) ?_
  simp only [zp0, zp1, zp2, zp3]
  refine xm [some (.int .i64 (n)), some (.slice o l k)] (by kernel_rfl) (by simp [xr, go_sem]) ?_
  simp only [xw, p0, p1, p2, p3]
  refine wpList_call rfl (by simp [go_sem]) ((rseal_any e n D T (.slice o l k) l f x5 (hV.out.ext hF.out) h9).mono ?_)
  rintro e y6 ⟨ub, rfl, hub, hXub⟩
  refine ⟨_, rfl, ?_⟩
  simp only [zp0, zp1, zp2, zp3]
  replace Hc3 := hideit (Hc3.out.carry hXub)
  replace Hz3 := hideit (Hz3.out.carry hXub)
  replace hF := hideit (Ext.trans hF.out (hXub))
  obtain ⟨oub, kub, rfl⟩ := hub.form
  replace hub := hideit hub
  clear hXub
  replace hE := hideit (Ext.trans hE.out hF.out)
  replace hV := hideit (hV.out.ext hF.out)
  replace hW := hideit (hW.out.ext hF.out)
  replace hua := hideit (hua.out.ext hF.out)
  replace hF := hideit (Ext.refl y6)
  refine xm [some (.tuple #[.slice oub (seL e n l) kub, .agg (row 64 (yv (srF e n D T l f))).toArray, .int .i64 (sC e n l)]), some (.slice oub (seL e n l) kub), some (.agg (row 64 (yv (srF e n D T l f))).toArray), some (.int .i64 (sC e n l))] (by kernel_rfl) (by simp [xr, go_sem]) ?_
  simp only [xw, p0, p1, p2, p3]
  have A0 := hideit (RowAt.new y6 64 (yv fun _ => 0#8) 26)
  have A1 := hideit (Hc3.out.alloc (.cells (row 64 (yv fun _ => 0#8)).toArray 26))
  have A2 := hideit (Hz3.out.alloc (.cells (row 64 (yv fun _ => 0#8)).toArray 26))
  have AE := hideit (Below.alloc hF.out (Below.size hF.out) (.cells (row 64 (yv fun _ => 0#8)).toArray 26))
  have AB := hideit (Below.size hF.out)
  have D0 : Hid (c3 ≠ y6.heap.size) := Nat.ne_of_lt Hc3.out.2.2
  have D1 : Hid (z3 ≠ y6.heap.size) := Nat.ne_of_lt Hz3.out.2.2
  refine wpList_to rfl (.pointer (some ⟨y6.heap.size, 0, none⟩)) (y6.alloc (.cells (row 64 (yv fun _ => 0#8)).toArray 26)) (xalloc 26 (row 64 (yv fun _ => 0#8)).toArray rfl (zero23 y6)) ?_
  simp only [zp0, zp1, zp2, zp3]
  generalize y6.alloc (.cells (row 64 (yv fun _ => 0#8)).toArray 26) = x8 at A0 A1 A2 AE ⊢
  obtain ⟨z7, ez7⟩ : ∃ b, b = y6.heap.size := ⟨_, rfl⟩
  replace AB : Hid (y6.heap.size ≤ z7) := by rw [ez7]; exact AB.out
  rw [← ez7] at A0 D0 D1 ⊢
  clear ez7
  have Hz7 := A0
  clear A0
  replace Hc3 := A1
  clear A1
  replace Hz3 := A2
  clear A2
  replace hF := AE
  clear AE
  have ABz7 := AB
  clear AB
  have Dz7_0 := D0
  clear D0
  have Dz7_1 := D1
  clear D1
  refine xm [some (.slice oub (seL e n l) kub)] (by kernel_rfl) (by simp [xr, go_sem]) ?_
  simp only [xw, p0, p1, p2, p3]
  have N0 := hideit (Hz7.out.cells (g' := yv (srF e n D T l f)))
  have N1 := hideit (Hc3.out.cellsOther (Ne.symm (Dz7_0.out)) (row 64 (yv (srF e n D T l f))) 0)
  have N2 := hideit (Hz3.out.cellsOther (Ne.symm (Dz7_1.out)) (row 64 (yv (srF e n D T l f))) 0)
  have NE := hideit (below_setCells z7 (ABz7.out) (row 64 (yv (srF e n D T l f))) 0 _ hF.out)
  refine xst rfl (x8.setCells z7 0 (row 64 (yv (srF e n D T l f)))) (xstore 26 (.tmp 12) (.tmp 32) rfl z7 64 _ (yv (srF e n D T l f)) rfl rfl Hz7.out inf23 (fun j _ => rfl)) ?_
  simp only [Act.put]
  generalize x8.setCells z7 0 (row 64 (yv (srF e n D T l f))) = x9 at N0 N1 N2 NE ⊢
  replace Hz7 := N0
  replace Hc3 := N1
  replace Hz3 := N2
  replace hF := NE
  clear N0 N1 N2 NE
  refine xm [some (.int .i64 (sC e n l))] (by kernel_rfl) (by simp [xr, go_sem]) ?_
  simp only [xw, p0, p1, p2, p3]
  go_upto_region 4 with (fail)
  refine wp_region_lit ?_
  refine wpList_call rfl (by simp [go_sem]) ((lives_any x9 (hC.ext (Ext.trans hE.out hF.out))).mono ?_)
  rintro e y10 ⟨rfl, hX11⟩
  refine ⟨_, rfl, ?_⟩
  simp only [zp0, zp1, zp2, zp3]
  replace Hc3 := hideit (Hc3.out.carry hX11)
  replace Hz3 := hideit (Hz3.out.carry hX11)
  replace Hz7 := hideit (Hz7.out.carry hX11)
  replace hF := hideit (Ext.trans hF.out (hX11))
  clear hX11
  refine xm [some (.bool false), some (.bool false), some (.slice oua (seL e n l) kua)] (by kernel_rfl) (by simp [xr, go_sem]) ?_
  simp only [xw, p0, p1, p2, p3]
  have cv12 := convS (.slice oua (seL e n l) kua) (seL e n l) (seF D n.toNat f) y10 (hua.out.ext hF.out)
  refine xm [some (.string (bS (seL e n l) (seF D n.toNat f))), some (.slice oub (seL e n l) kub)] (by kernel_rfl) (by simp [xr, go_sem, cv12]) ?_
  simp only [xw, p0, p1, p2, p3]
  clear cv12
  have cv13 := convS (.slice oub (seL e n l) kub) (seL e n l) (seF D n.toNat f) y10 (hub.out.ext hF.out)
  refine xm [some (.string (bS (seL e n l) (seF D n.toNat f))), some (.bool false), some (.bool false), some (.bool false)] (by kernel_rfl) (by simp [xr, go_sem, cv13]) ?_
  simp only [xw, p0, p1, p2, p3]
  clear cv13
  refine wpList_runW rfl (.agg (row 64 (yv (srF e n D T l f))).toArray) (xload 26 (.tmp 9) rfl z3 0 64 _ rfl Hz3.out.range Tryz.underlying26 rfl inf23) ?_
  simp only [zp0, zp1, zp2, zp3]
  refine wpList_runW rfl (.agg (row 64 (yv (srF e n D T l f))).toArray) (xload 26 (.tmp 12) rfl z7 0 64 _ rfl Hz7.out.range Tryz.underlying26 rfl inf23) ?_
  simp only [zp0, zp1, zp2, zp3]
  refine wpList_runW rfl (.bool false) (xcmp .neq 26 26 (.tmp 44) (.tmp 45) rfl _ _ rfl rfl eqG26 false (neq26 (srF e n D T l f) (srF e n D T l f) true ⟨fun _ _ _ => rfl, fun _ => rfl⟩ _)) ?_
  simp only [zp0, zp1, zp2, zp3]
  refine xm [some (.bool false), some (.bool false), some (.int .i64 (sC e n l)), some (.int .i64 (sC e n l)), some (.bool false), some (.bool false), some (.bool false), some (.slice o9 l k9)] (by kernel_rfl) (by simp [xr, go_sem]) ?_
  simp only [xw, p0, p1, p2, p3]
  have cv14 := convS (.slice o9 l k9) l (f) y10 (hW.out.ext hF.out)
  refine xm [some (.string (bS l (f))), some (.slice o l k)] (by kernel_rfl) (by simp [xr, go_sem, cv14]) ?_
  simp only [xw, p0, p1, p2, p3]
  clear cv14
  have cv15 := convS (.slice o l k) l (f) y10 (hV.out.ext hF.out)
  refine xm [some (.string (bS l (f))), some (.bool false), some (.bool false)] (by kernel_rfl) (by simp [xr, go_sem, cv15]) ?_
  simp only [xw, p0, p1, p2, p3]
  clear cv15
  by_cases hg9 : sC e n l = 0
  · have hg := hideit hg9
    have hg2 := hideit (op_back (D := D) (T := T) (f := f) hg9)
    have hbs := hideit (op_str (D := D) (T := T) (f := f) hg9)
    clear hg9
    go_upto_region 6 with (fail)
    refine wp_region_lit ?_
    refine xm [some (.int .i64 (sC e n l)), some (.bool false)] (by kernel_rfl) (by simp [xr, go_sem, hg.out]) ?_
    simp only [xw, p0, p1, p2, p3]
    go_upto_region 8 with (fail)
    refine wp_region_lit ?_
    refine wpList_run rfl (.agg (row 65 (ekI e D T)).toArray) (xload 24 (.tmp 3) rfl c3 0 65 _ rfl Hc3.out.range Tryz.underlying24 rfl inf50) ?_
    simp only [zp0, zp1, zp2, zp3]
    refine xm [some (.int .i64 (n)), some (.slice oua (seL e n l) kua)] (by kernel_rfl) (by simp [xr, go_sem]) ?_
    simp only [xw, p0, p1, p2, p3]
    refine wpList_run rfl (.agg (row 64 (yv (srF e n D T l f))).toArray) (xload 26 (.tmp 9) rfl z3 0 64 _ rfl Hz3.out.range Tryz.underlying26 rfl inf23) ?_
    simp only [zp0, zp1, zp2, zp3]
    refine wpList_call rfl (by simp [go_sem]) ((open_any e n D T (srF e n D T l f) (.slice oua (seL e n l) kua) (seL e n l) (seF D n.toNat f) y10 (hua.out.ext hF.out) h9 (hC.ext (Ext.trans hE.out hF.out))).mono ?_)
    rintro e y16 ⟨uc, rfl, huc, hXuc⟩
    refine ⟨_, rfl, ?_⟩
    simp only [zp0, zp1, zp2, zp3]
    replace Hc3 := hideit (Hc3.out.carry hXuc)
    replace Hz3 := hideit (Hz3.out.carry hXuc)
    replace Hz7 := hideit (Hz7.out.carry hXuc)
    replace hF := hideit (Ext.trans hF.out (hXuc))
    obtain ⟨ouc, kuc, rfl⟩ := huc.form
    replace huc := hideit huc
    clear hXuc
    replace hE := hideit (Ext.trans hE.out hF.out)
    replace hV := hideit (hV.out.ext hF.out)
    replace hF := hideit (Ext.refl y16)
    refine xm [some (.tuple #[.slice ouc (opL e n T (seL e n l) (seF D n.toNat f) (srF e n D T l f)) kuc, .int .i64 (opC e n T (seL e n l) (seF D n.toNat f) (srF e n D T l f))]), some (.slice ouc (opL e n T (seL e n l) (seF D n.toNat f) (srF e n D T l f)) kuc), some (.int .i64 (opC e n T (seL e n l) (seF D n.toNat f) (srF e n D T l f))), some (.slice ouc (opL e n T (seL e n l) (seF D n.toNat f) (srF e n D T l f)) kuc), some (.int .i64 (opC e n T (seL e n l) (seF D n.toNat f) (srF e n D T l f)))] (by kernel_rfl) (by simp [xr, go_sem]) ?_
    simp only [xw, p0, p1, p2, p3]
    go_upto_region 9 with (fail)
    refine wp_region_lit ?_
    refine xm [some (.int .i64 (opC e n T (seL e n l) (seF D n.toNat f) (srF e n D T l f))), some (.bool true), some (.bool true), some (.slice ouc (opL e n T (seL e n l) (seF D n.toNat f) (srF e n D T l f)) kuc)] (by kernel_rfl) (by simp [xr, go_sem, hg2.out]) ?_
    simp only [xw, p0, p1, p2, p3]
    have cv17 := convS (.slice ouc (opL e n T (seL e n l) (seF D n.toNat f) (srF e n D T l f)) kuc) (opL e n T (seL e n l) (seF D n.toNat f) (srF e n D T l f)) (opF D n.toNat (seF D n.toNat f)) y16 (huc.out.ext hF.out)
    rw [hbs.out] at cv17
    refine xm [some (.string (bS l (f))), some (.slice o l k)] (by kernel_rfl) (by simp [xr, go_sem, cv17]) ?_
    simp only [xw, p0, p1, p2, p3]
    clear cv17
    have cv18 := convS (.slice o l k) l (f) y16 (hV.out.ext hF.out)
    refine xm [some (.string (bS l (f))), some (.bool true), some (.bool true), some (.bool true)] (by kernel_rfl) (by simp [xr, go_sem, cv18]) ?_
    simp only [xw, p0, p1, p2, p3]
    clear cv18
    go_wp2
    go_ret
    exact ⟨rfl, Ext.trans hE.out hF.out⟩
  · have hg := hideit hg9
    clear hg9
    go_upto_region 6 with (fail)
    refine wp_region_lit ?_
    refine xm [some (.int .i64 (sC e n l)), some (.bool true)] (by kernel_rfl) (by simp [xr, go_sem, hg.out]) ?_
    simp only [xw, p0, p1, p2, p3]
    go_upto_region 7 with (fail)
    refine wp_region_lit ?_
    refine xm [some (.bool true)] (by kernel_rfl) (by simp [xr, go_sem]) ?_
    simp only [xw, p0, p1, p2, p3]
    go_wp2
    go_ret
    exact ⟨rfl, Ext.trans hE.out hF.out⟩
end Go.Proofs.YtfpfgbhdehbggaaGreatDoor
namespace Go.Proofs.YtfpfgbhdehbggaaGreatDoor
set_option maxRecDepth 100000
open Go.ChangeShapes Go.WideShapes Go.ChangeAt Go.RowKit
theorem arr_cells {H : Type} {enc : TypeId × Value → H} {W : World} {base : Nat} {spare : Nat → Bool} {held : Bool} {n : Nat} {cs : List Value} {x : DataW H × List MemPlace} {t : TypeId} {N : Nat} (hu : Tryz.prog.underlying t = some (.array N 5)) (h : DataW.trod enc Tryz.prog W base spare held n t cs = some x) :
    ∃ f : Nat → BitVec 8, ∀ i, i < N → cs[i]? = some (.int .u8 ((f i).toNat : Int)) := by
  have hc5 : Tryz.prog.cellsOf 5 = 1 := by kernel_rfl
  obtain ⟨xs, m, _, _, _, hxl, hx⟩ := DataW.trod_array hu h
  have hall : ∀ i, i < N → ∃ b : BitVec 8, cs[i]? = some (.int .u8 (b.toNat : Int)) := by
    intro i hi
    have h1 := hx i hi
    rw [List.getElem?_eq_getElem (by omega)] at h1
    obtain ⟨n, e0, _, w0⟩ := DataW.trod_int Tryz.underlying5 h1
    obtain ⟨b, rfl⟩ := of_wf8 w0
    refine ⟨b, ?_⟩
    rw [hc5] at e0
    have h2 : (List.take 1 (List.drop (i * 1) cs))[0]? = some (.int .u8 (b.toNat : Int)) := by rw [e0]; rfl
    simpa [List.getElem?_take, List.getElem?_drop] using h2
  refine ⟨fun i => if h : i < N then (hall i h).choose else 0#8, fun i hi => ?_⟩
  rw [(hall i hi).choose_spec]
  simp only [dif_pos hi]
theorem sub_cells {cs : List Value} {off m i : Nat} (hi : i < m) : ((cs.drop off).take m)[i]? = cs[off + i]? := by
  rw [List.getElem?_take_of_lt hi, List.getElem?_drop]
theorem row_of {cs : List Value} {n : Nat} {g : Nat → Value} (hl : cs.length = n) (h : ∀ i, i < n → cs[i]? = some (g i)) : cs = row n g := by
  apply List.ext_getElem?
  intro i
  by_cases hi : i < n
  · rw [h i hi, row_get n g i hi]
  · rw [List.getElem?_eq_none (by omega), List.getElem?_eq_none (by rw [row_length]; omega)]
theorem okWide_st {P : Program} {w : World} {r : Reach} {base : Nat} {t : TypeId} {v : Value} {fs : Array Field} (ht : P.underlying t = some (.struct fs)) (h : Value.okWide P w r base t v) : ∃ cs, v = .agg cs ∧ cs.size = P.cellsOf t ∧ Row.okWide P w r base t cs := by
  unfold Value.okWide at h
  rw [ht] at h
  exact h
theorem trod_st {H : Type} {enc : TypeId × Value → H} {P : Program} {w : World} {base : Nat} {spare : Nat → Bool} {held : Bool} {t : TypeId} {fs : List Field} {fuel : Nat} {cs : List Value} {x : DataW H × List MemPlace} (ht : P.underlying t = some (.struct fs.toArray)) (h : DataW.trod enc P w base spare held fuel t cs = some x) :
    ∃ n, cs.length = P.cellsOf t ∧ ∀ (i : Nat) (f : Field), fs[i]? = some f → ∃ y, DataW.trod enc P w base spare held n f.type ((cs.drop f.offset).take (P.cellsOf f.type)) = some y := by
  obtain ⟨xs, n, _, _, hl, hlen, hf⟩ := DataW.trod_struct ht h
  refine ⟨n, hl, fun i f hi => ?_⟩
  have hi2 : fs.toArray[i]? = some f := by simpa using hi
  have hlt : i < xs.length := by
    have := (List.getElem?_eq_some_iff.1 hi).1
    simp at hlen
    omega
  refine ⟨xs[i], ?_⟩
  rw [hf i f hi2, List.getElem?_eq_getElem hlt]
set_option maxRecDepth 100000 in
theorem keys_cells {H : Type} {enc : TypeId × Value → H} {W : World} {base : Nat} {spare : Nat → Bool} {held : Bool} {n : Nat} {cs : List Value} {x : DataW H × List MemPlace} (h : DataW.trod enc Tryz.prog W base spare held n 24 cs = some x) :
    ∃ e D T, cs = row 65 (ekI e D T) ∧ (Lit.int .i64 e).wf = true := by
  have hC : Tryz.prog.cellsOf 24 = 65 := by kernel_rfl
  have c3 : Tryz.prog.cellsOf 3 = 1 := by kernel_rfl
  have c22 : Tryz.prog.cellsOf 22 = 32 := by kernel_rfl
  obtain ⟨m, hl, hf⟩ := trod_st (fs := [_, _, _]) Tryz.underlying24 h
  rw [hC] at hl
  obtain ⟨y0, h0⟩ := hf 0 _ rfl
  obtain ⟨y1, h1⟩ := hf 1 _ rfl
  obtain ⟨y2, h2⟩ := hf 2 _ rfl
  simp only [c3, c22] at h0 h1 h2
  obtain ⟨k0, e0, _, w0⟩ := DataW.trod_int Tryz.underlying3 h0
  obtain ⟨D, e1⟩ := arr_cells Tryz.underlying22 h1
  obtain ⟨T, e2⟩ := arr_cells Tryz.underlying22 h2
  have q0 := congrArg (·[0]?) e0
  simp only [sub_cells (show 0 < 1 by decide)] at q0
  refine ⟨k0, D, T, row_of hl fun i hi => ?_, w0⟩
  by_cases c1 : i < 1
  · obtain rfl : i = 0 := by omega
    exact q0
  · by_cases c2 : i < 33
    · have := e1 (i - 1) (by omega)
      rw [sub_cells (by omega), show 1 + (i - 1) = i by omega] at this
      rw [this]
      unfold ekI
      rw [if_neg (by omega), if_pos c2]
      rfl
    · have := e2 (i - 33) (by omega)
      rw [sub_cells (by omega), show 33 + (i - 33) = i by omega] at this
      rw [this]
      unfold ekI
      rw [if_neg (by omega), if_neg c2]
      rfl
theorem open_keys {H : Type} {enc : TypeId × Value → H} {W : World} {r : Reach} {b0 base : Nat} {spare : Nat → Bool} {held : Bool} {v : Value} {d : DataW H} {p : List MemPlace}
    (hv : Value.okWide Tryz.prog W r b0 24 v) (h : DataW.Trod enc Tryz.prog W base spare held 24 v d p) : ∃ e D T, v = .agg (row 65 (ekI e D T)).toArray ∧ (Lit.int .i64 e).wf = true := by
  obtain ⟨cs, rfl, _, _⟩ := okWide_st Tryz.underlying24 hv
  obtain ⟨fuel, hf⟩ := h
  obtain ⟨e, D, T, q, hw⟩ := keys_cells hf
  refine ⟨e, D, T, ?_, hw⟩
  rw [← q]
  simp [Value.cells]
theorem keys_lt {e : Int} (h : (Lit.int .i64 e).wf = true) : e < 9223372036854775808 := by
  have q := bounds_i64 h
  omega
end Go.Proofs.YtfpfgbhdehbggaaGreatDoor
