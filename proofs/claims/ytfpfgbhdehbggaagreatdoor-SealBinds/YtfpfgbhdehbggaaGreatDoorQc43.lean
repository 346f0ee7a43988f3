/-
  Whether a root may be. A root's bytes. What bytes say of a root.
-/
import Derived.Test.YtfpfgbhdehbggaaGreatDoorQc1
import Derived.Test.YtfpfgbhdehbggaaGreatDoorQc42
namespace Go.Proofs.YtfpfgbhdehbggaaGreatDoor
open Go.RowKit Go.BigFrame
set_option linter.unusedVariables false
set_option maxRecDepth 20000
def rtV (g : BitVec 64) (b : Bool) (s : Int) (H : Nat → BitVec 8) (j : Nat) : Value := if j = 0 then .int .u64 (g.toNat : Int) else if j = 1 then .bool b else if j = 2 then .int .i64 s else yv H (j - 3)
theorem inf39 : (Tryz.prog.info? 57).map (·.size) = some 35 := by kernel_rfl
def mbB (h : Hd) (b : Bool) (s : Int) : Bool := if b then decide (0 ≤ s ∧ s ≤ h.se) else decide (s = 0)
set_option maxRecDepth 20000 in
set_option maxHeartbeats 4000000 in
theorem mb_off0 (h : Hd) (g : BitVec 64) (s : Int) (H : Nat → BitVec 8) (w : World) (q1 : s = 0) : Calls Tryz.prog 44 #[.agg (row 24 (hdv h)).toArray, .agg (row 35 (rtV g false s H)).toArray] w fun e w' => e = .returned (.bool true) ∧ Ext w w' := by
  have hE := hideit (Ext.refl w)
  go_enter Tryz.func44, Tryz.ntmps44
  go_upto_region 0 with (fail)
  refine wp_region_lit ?_
  have A0 := hideit (RowAt.new w 24 (hdv h) 54)
  have XB : Ext w (w.alloc (.cells (row 24 (hdv h)).toArray 54)) := (Below.refl _ _).alloc (Nat.le_refl _) _
  have AE := hideit (Ext.trans hE.out (XB))
  have AB := hideit (hE.out.size)
  clear XB
  refine wpList_to rfl (.pointer (some ⟨w.heap.size, 0, none⟩)) (w.alloc (.cells (row 24 (hdv h)).toArray 54)) (by simp [go_sem]) ?_
  simp only [zp0, zp1, zp2, zp3]
  generalize w.alloc (.cells (row 24 (hdv h)).toArray 54) = x1 at A0 AE ⊢
  obtain ⟨c2, ec2⟩ : ∃ b, b = w.heap.size := ⟨_, rfl⟩
  have ABc2 : Hid (w.heap.size ≤ c2) := by rw [ec2]; exact AB.out
  clear AB
  rw [← ec2] at A0  ⊢
  clear ec2
  have Hc2 := A0
  clear A0
  replace hE := AE
  clear AE
  have A0 := hideit (RowAt.new x1 35 (rtV g false s H) 57)
  have XB : Ext x1 (x1.alloc (.cells (row 35 (rtV g false s H)).toArray 57)) := (Below.refl _ _).alloc (Nat.le_refl _) _
  have A1 := hideit (Hc2.out.carry XB)
  have AE := hideit (Ext.trans hE.out (XB))
  have AB := hideit (hE.out.size)
  have D0 : Hid (c2 ≠ x1.heap.size) := Nat.ne_of_lt Hc2.out.2.2
  clear XB
  refine wpList_to rfl (.pointer (some ⟨x1.heap.size, 0, none⟩)) (x1.alloc (.cells (row 35 (rtV g false s H)).toArray 57)) (by simp [go_sem]) ?_
  simp only [zp0, zp1, zp2, zp3]
  generalize x1.alloc (.cells (row 35 (rtV g false s H)).toArray 57) = x2 at A0 A1 AE ⊢
  obtain ⟨c3, ec3⟩ : ∃ b, b = x1.heap.size := ⟨_, rfl⟩
  have ABc3 : Hid (w.heap.size ≤ c3) := by rw [ec3]; exact AB.out
  clear AB
  rw [← ec3] at A0 D0 ⊢
  clear ec3
  have Hc3 := A0
  clear A0
  replace Hc2 := A1
  clear A1
  replace hE := AE
  clear AE
  have Dc3_0 := D0
  clear D0
  refine xm [some (.bool false)] (by kernel_rfl) (by simp [xr, go_sem]) ?_
  simp only [xw, p0, p1, p2, p3]
  go_upto_region 1 with (fail)
  refine wp_region_lit ?_
  have m3 : x2.cell? ⟨c3, 1, none⟩ = some (.bool false) := Hc3.out.1 1 (by decide)
  refine xm [some (.pointer (some ⟨c3, 1, none⟩)), some (.bool false), some (.bool true)] (by kernel_rfl) (by simp [xr, go_sem, m3]) ?_
  simp only [xw, p0, p1, p2, p3]
  clear m3
  go_upto_region 2 with (fail)
  refine wp_region_lit ?_
  have m4 : x2.cell? ⟨c3, 2, none⟩ = some (.int .i64 (s)) := Hc3.out.1 2 (by decide)
  refine xm [some (.pointer (some ⟨c3, 2, none⟩)), some (.int .i64 (s)), some (.bool true), some (.bool true)] (by kernel_rfl) (by simp [xr, go_sem, m4, q1]) ?_
  simp only [xw, p0, p1, p2, p3]
  clear m4
  go_wp2
  go_ret
  exact ⟨rfl, hE.out⟩
set_option maxRecDepth 20000 in
set_option maxHeartbeats 4000000 in
theorem mb_off1 (h : Hd) (g : BitVec 64) (s : Int) (H : Nat → BitVec 8) (w : World) (q1 : ¬ s = 0) : Calls Tryz.prog 44 #[.agg (row 24 (hdv h)).toArray, .agg (row 35 (rtV g false s H)).toArray] w fun e w' => e = .returned (.bool false) ∧ Ext w w' := by
  have hE := hideit (Ext.refl w)
  go_enter Tryz.func44, Tryz.ntmps44
  go_upto_region 0 with (fail)
  refine wp_region_lit ?_
  have A0 := hideit (RowAt.new w 24 (hdv h) 54)
  have XB : Ext w (w.alloc (.cells (row 24 (hdv h)).toArray 54)) := (Below.refl _ _).alloc (Nat.le_refl _) _
  have AE := hideit (Ext.trans hE.out (XB))
  have AB := hideit (hE.out.size)
  clear XB
  refine wpList_to rfl (.pointer (some ⟨w.heap.size, 0, none⟩)) (w.alloc (.cells (row 24 (hdv h)).toArray 54)) (by simp [go_sem]) ?_
  simp only [zp0, zp1, zp2, zp3]
  generalize w.alloc (.cells (row 24 (hdv h)).toArray 54) = x1 at A0 AE ⊢
  obtain ⟨c2, ec2⟩ : ∃ b, b = w.heap.size := ⟨_, rfl⟩
  have ABc2 : Hid (w.heap.size ≤ c2) := by rw [ec2]; exact AB.out
  clear AB
  rw [← ec2] at A0  ⊢
  clear ec2
  have Hc2 := A0
  clear A0
  replace hE := AE
  clear AE
  have A0 := hideit (RowAt.new x1 35 (rtV g false s H) 57)
  have XB : Ext x1 (x1.alloc (.cells (row 35 (rtV g false s H)).toArray 57)) := (Below.refl _ _).alloc (Nat.le_refl _) _
  have A1 := hideit (Hc2.out.carry XB)
  have AE := hideit (Ext.trans hE.out (XB))
  have AB := hideit (hE.out.size)
  have D0 : Hid (c2 ≠ x1.heap.size) := Nat.ne_of_lt Hc2.out.2.2
  clear XB
  refine wpList_to rfl (.pointer (some ⟨x1.heap.size, 0, none⟩)) (x1.alloc (.cells (row 35 (rtV g false s H)).toArray 57)) (by simp [go_sem]) ?_
  simp only [zp0, zp1, zp2, zp3]
  generalize x1.alloc (.cells (row 35 (rtV g false s H)).toArray 57) = x2 at A0 A1 AE ⊢
  obtain ⟨c3, ec3⟩ : ∃ b, b = x1.heap.size := ⟨_, rfl⟩
  have ABc3 : Hid (w.heap.size ≤ c3) := by rw [ec3]; exact AB.out
  clear AB
  rw [← ec3] at A0 D0 ⊢
  clear ec3
  have Hc3 := A0
  clear A0
  replace Hc2 := A1
  clear A1
  replace hE := AE
  clear AE
  have Dc3_0 := D0
  clear D0
  refine xm [some (.bool false)] (by kernel_rfl) (by simp [xr, go_sem]) ?_
  simp only [xw, p0, p1, p2, p3]
  go_upto_region 1 with (fail)
  refine wp_region_lit ?_
  have m3 : x2.cell? ⟨c3, 1, none⟩ = some (.bool false) := Hc3.out.1 1 (by decide)
  refine xm [some (.pointer (some ⟨c3, 1, none⟩)), some (.bool false), some (.bool true)] (by kernel_rfl) (by simp [xr, go_sem, m3]) ?_
  simp only [xw, p0, p1, p2, p3]
  clear m3
  go_upto_region 2 with (fail)
  refine wp_region_lit ?_
  have m4 : x2.cell? ⟨c3, 2, none⟩ = some (.int .i64 (s)) := Hc3.out.1 2 (by decide)
  refine xm [some (.pointer (some ⟨c3, 2, none⟩)), some (.int .i64 (s)), some (.bool false), some (.bool false)] (by kernel_rfl) (by simp [xr, go_sem, m4, q1]) ?_
  simp only [xw, p0, p1, p2, p3]
  clear m4
  go_wp2
  go_ret
  exact ⟨rfl, hE.out⟩
set_option maxRecDepth 20000 in
set_option maxHeartbeats 4000000 in
theorem mb_neg (h : Hd) (g : BitVec 64) (s : Int) (H : Nat → BitVec 8) (w : World) (q1 : s < 0) : Calls Tryz.prog 44 #[.agg (row 24 (hdv h)).toArray, .agg (row 35 (rtV g true s H)).toArray] w fun e w' => e = .returned (.bool false) ∧ Ext w w' := by
  have hE := hideit (Ext.refl w)
  go_enter Tryz.func44, Tryz.ntmps44
  go_upto_region 0 with (fail)
  refine wp_region_lit ?_
  have A0 := hideit (RowAt.new w 24 (hdv h) 54)
  have XB : Ext w (w.alloc (.cells (row 24 (hdv h)).toArray 54)) := (Below.refl _ _).alloc (Nat.le_refl _) _
  have AE := hideit (Ext.trans hE.out (XB))
  have AB := hideit (hE.out.size)
  clear XB
  refine wpList_to rfl (.pointer (some ⟨w.heap.size, 0, none⟩)) (w.alloc (.cells (row 24 (hdv h)).toArray 54)) (by simp [go_sem]) ?_
  simp only [zp0, zp1, zp2, zp3]
  generalize w.alloc (.cells (row 24 (hdv h)).toArray 54) = x1 at A0 AE ⊢
  obtain ⟨c2, ec2⟩ : ∃ b, b = w.heap.size := ⟨_, rfl⟩
  have ABc2 : Hid (w.heap.size ≤ c2) := by rw [ec2]; exact AB.out
  clear AB
  rw [← ec2] at A0  ⊢
  clear ec2
  have Hc2 := A0
  clear A0
  replace hE := AE
  clear AE
  have A0 := hideit (RowAt.new x1 35 (rtV g true s H) 57)
  have XB : Ext x1 (x1.alloc (.cells (row 35 (rtV g true s H)).toArray 57)) := (Below.refl _ _).alloc (Nat.le_refl _) _
  have A1 := hideit (Hc2.out.carry XB)
  have AE := hideit (Ext.trans hE.out (XB))
  have AB := hideit (hE.out.size)
  have D0 : Hid (c2 ≠ x1.heap.size) := Nat.ne_of_lt Hc2.out.2.2
  clear XB
  refine wpList_to rfl (.pointer (some ⟨x1.heap.size, 0, none⟩)) (x1.alloc (.cells (row 35 (rtV g true s H)).toArray 57)) (by simp [go_sem]) ?_
  simp only [zp0, zp1, zp2, zp3]
  generalize x1.alloc (.cells (row 35 (rtV g true s H)).toArray 57) = x2 at A0 A1 AE ⊢
  obtain ⟨c3, ec3⟩ : ∃ b, b = x1.heap.size := ⟨_, rfl⟩
  have ABc3 : Hid (w.heap.size ≤ c3) := by rw [ec3]; exact AB.out
  clear AB
  rw [← ec3] at A0 D0 ⊢
  clear ec3
  have Hc3 := A0
  clear A0
  replace Hc2 := A1
  clear A1
  replace hE := AE
  clear AE
  have Dc3_0 := D0
  clear D0
  refine xm [some (.bool false)] (by kernel_rfl) (by simp [xr, go_sem]) ?_
  simp only [xw, p0, p1, p2, p3]
  go_upto_region 1 with (fail)
  refine wp_region_lit ?_
  have m3 : x2.cell? ⟨c3, 1, none⟩ = some (.bool true) := Hc3.out.1 1 (by decide)
  refine xm [some (.pointer (some ⟨c3, 1, none⟩)), some (.bool true), some (.bool false)] (by kernel_rfl) (by simp [xr, go_sem, m3]) ?_
  simp only [xw, p0, p1, p2, p3]
  clear m3
  go_upto_region 3 with (fail)
  refine wp_region_lit ?_
  have m4 : x2.cell? ⟨c3, 2, none⟩ = some (.int .i64 (s)) := Hc3.out.1 2 (by decide)
  refine xm [some (.pointer (some ⟨c3, 2, none⟩)), some (.int .i64 (s)), some (.bool false), some (.bool false), none, none, none, none, none, some (.bool false), some (.bool false)] (by kernel_rfl) (by simp [xr, go_sem, m4, q1]) ?_
  simp only [xw, p0, p1, p2, p3]
  clear m4
  go_wp2
  go_ret
  exact ⟨rfl, hE.out⟩
set_option maxRecDepth 20000 in
set_option maxHeartbeats 4000000 in
theorem mb_in (h : Hd) (g : BitVec 64) (s : Int) (H : Nat → BitVec 8) (w : World) (q1 : 0 ≤ s) (q2 : s ≤ h.se) : Calls Tryz.prog 44 #[.agg (row 24 (hdv h)).toArray, .agg (row 35 (rtV g true s H)).toArray] w fun e w' => e = .returned (.bool true) ∧ Ext w w' := by
  have hE := hideit (Ext.refl w)
  go_enter Tryz.func44, Tryz.ntmps44
  go_upto_region 0 with (fail)
  refine wp_region_lit ?_
  have A0 := hideit (RowAt.new w 24 (hdv h) 54)
  have XB : Ext w (w.alloc (.cells (row 24 (hdv h)).toArray 54)) := (Below.refl _ _).alloc (Nat.le_refl _) _
  have AE := hideit (Ext.trans hE.out (XB))
  have AB := hideit (hE.out.size)
  clear XB
  refine wpList_to rfl (.pointer (some ⟨w.heap.size, 0, none⟩)) (w.alloc (.cells (row 24 (hdv h)).toArray 54)) (by simp [go_sem]) ?_
  simp only [zp0, zp1, zp2, zp3]
  generalize w.alloc (.cells (row 24 (hdv h)).toArray 54) = x1 at A0 AE ⊢
  obtain ⟨c2, ec2⟩ : ∃ b, b = w.heap.size := ⟨_, rfl⟩
  have ABc2 : Hid (w.heap.size ≤ c2) := by rw [ec2]; exact AB.out
  clear AB
  rw [← ec2] at A0  ⊢
  clear ec2
  have Hc2 := A0
  clear A0
  replace hE := AE
  clear AE
  have A0 := hideit (RowAt.new x1 35 (rtV g true s H) 57)
  have XB : Ext x1 (x1.alloc (.cells (row 35 (rtV g true s H)).toArray 57)) := (Below.refl _ _).alloc (Nat.le_refl _) _
  have A1 := hideit (Hc2.out.carry XB)
  have AE := hideit (Ext.trans hE.out (XB))
  have AB := hideit (hE.out.size)
  have D0 : Hid (c2 ≠ x1.heap.size) := Nat.ne_of_lt Hc2.out.2.2
  clear XB
  refine wpList_to rfl (.pointer (some ⟨x1.heap.size, 0, none⟩)) (x1.alloc (.cells (row 35 (rtV g true s H)).toArray 57)) (by simp [go_sem]) ?_
  simp only [zp0, zp1, zp2, zp3]
  generalize x1.alloc (.cells (row 35 (rtV g true s H)).toArray 57) = x2 at A0 A1 AE ⊢
  obtain ⟨c3, ec3⟩ : ∃ b, b = x1.heap.size := ⟨_, rfl⟩
  have ABc3 : Hid (w.heap.size ≤ c3) := by rw [ec3]; exact AB.out
  clear AB
  rw [← ec3] at A0 D0 ⊢
  clear ec3
  have Hc3 := A0
  clear A0
  replace Hc2 := A1
  clear A1
  replace hE := AE
  clear AE
  have Dc3_0 := D0
  clear D0
  refine xm [some (.bool false)] (by kernel_rfl) (by simp [xr, go_sem]) ?_
  simp only [xw, p0, p1, p2, p3]
  go_upto_region 1 with (fail)
  refine wp_region_lit ?_
  have m3 : x2.cell? ⟨c3, 1, none⟩ = some (.bool true) := Hc3.out.1 1 (by decide)
  refine xm [some (.pointer (some ⟨c3, 1, none⟩)), some (.bool true), some (.bool false)] (by kernel_rfl) (by simp [xr, go_sem, m3]) ?_
  simp only [xw, p0, p1, p2, p3]
  clear m3
  go_upto_region 3 with (fail)
  refine wp_region_lit ?_
  have m4 : x2.cell? ⟨c3, 2, none⟩ = some (.int .i64 (s)) := Hc3.out.1 2 (by decide)
  have m6 : x2.cell? ⟨c2, 1, none⟩ = some (.int .i64 (h.se)) := Hc2.out.1 1 (by decide)
  refine xm [some (.pointer (some ⟨c3, 2, none⟩)), some (.int .i64 (s)), some (.bool true), some (.bool true), some (.pointer (some ⟨c3, 2, none⟩)), some (.int .i64 (s)), some (.pointer (some ⟨c2, 1, none⟩)), some (.int .i64 (h.se)), some (.bool true), some (.bool true), some (.bool true)] (by kernel_rfl) (by simp [xr, go_sem, m4, q1, m6, q2]) ?_
  simp only [xw, p0, p1, p2, p3]
  clear m4
  clear m6
  go_wp2
  go_ret
  exact ⟨rfl, hE.out⟩
set_option maxRecDepth 20000 in
set_option maxHeartbeats 4000000 in
theorem mb_past (h : Hd) (g : BitVec 64) (s : Int) (H : Nat → BitVec 8) (w : World) (q1 : 0 ≤ s) (q2 : h.se < s) : Calls Tryz.prog 44 #[.agg (row 24 (hdv h)).toArray, .agg (row 35 (rtV g true s H)).toArray] w fun e w' => e = .returned (.bool false) ∧ Ext w w' := by
  have hE := hideit (Ext.refl w)
  go_enter Tryz.func44, Tryz.ntmps44
  go_upto_region 0 with (fail)
  refine wp_region_lit ?_
  have A0 := hideit (RowAt.new w 24 (hdv h) 54)
  have XB : Ext w (w.alloc (.cells (row 24 (hdv h)).toArray 54)) := (Below.refl _ _).alloc (Nat.le_refl _) _
  have AE := hideit (Ext.trans hE.out (XB))
  have AB := hideit (hE.out.size)
  clear XB
  refine wpList_to rfl (.pointer (some ⟨w.heap.size, 0, none⟩)) (w.alloc (.cells (row 24 (hdv h)).toArray 54)) (by simp [go_sem]) ?_
  simp only [zp0, zp1, zp2, zp3]
  generalize w.alloc (.cells (row 24 (hdv h)).toArray 54) = x1 at A0 AE ⊢
  obtain ⟨c2, ec2⟩ : ∃ b, b = w.heap.size := ⟨_, rfl⟩
  have ABc2 : Hid (w.heap.size ≤ c2) := by rw [ec2]; exact AB.out
  clear AB
  rw [← ec2] at A0  ⊢
  clear ec2
  have Hc2 := A0
  clear A0
  replace hE := AE
  clear AE
  have A0 := hideit (RowAt.new x1 35 (rtV g true s H) 57)
  have XB : Ext x1 (x1.alloc (.cells (row 35 (rtV g true s H)).toArray 57)) := (Below.refl _ _).alloc (Nat.le_refl _) _
  have A1 := hideit (Hc2.out.carry XB)
  have AE := hideit (Ext.trans hE.out (XB))
  have AB := hideit (hE.out.size)
  have D0 : Hid (c2 ≠ x1.heap.size) := Nat.ne_of_lt Hc2.out.2.2
  clear XB
  refine wpList_to rfl (.pointer (some ⟨x1.heap.size, 0, none⟩)) (x1.alloc (.cells (row 35 (rtV g true s H)).toArray 57)) (by simp [go_sem]) ?_
  simp only [zp0, zp1, zp2, zp3]
  generalize x1.alloc (.cells (row 35 (rtV g true s H)).toArray 57) = x2 at A0 A1 AE ⊢
  obtain ⟨c3, ec3⟩ : ∃ b, b = x1.heap.size := ⟨_, rfl⟩
  have ABc3 : Hid (w.heap.size ≤ c3) := by rw [ec3]; exact AB.out
  clear AB
  rw [← ec3] at A0 D0 ⊢
  clear ec3
  have Hc3 := A0
  clear A0
  replace Hc2 := A1
  clear A1
  replace hE := AE
  clear AE
  have Dc3_0 := D0
  clear D0
  refine xm [some (.bool false)] (by kernel_rfl) (by simp [xr, go_sem]) ?_
  simp only [xw, p0, p1, p2, p3]
  go_upto_region 1 with (fail)
  refine wp_region_lit ?_
  have m3 : x2.cell? ⟨c3, 1, none⟩ = some (.bool true) := Hc3.out.1 1 (by decide)
  refine xm [some (.pointer (some ⟨c3, 1, none⟩)), some (.bool true), some (.bool false)] (by kernel_rfl) (by simp [xr, go_sem, m3]) ?_
  simp only [xw, p0, p1, p2, p3]
  clear m3
  go_upto_region 3 with (fail)
  refine wp_region_lit ?_
  have m4 : x2.cell? ⟨c3, 2, none⟩ = some (.int .i64 (s)) := Hc3.out.1 2 (by decide)
  have m6 : x2.cell? ⟨c2, 1, none⟩ = some (.int .i64 (h.se)) := Hc2.out.1 1 (by decide)
  refine xm [some (.pointer (some ⟨c3, 2, none⟩)), some (.int .i64 (s)), some (.bool true), some (.bool true), some (.pointer (some ⟨c3, 2, none⟩)), some (.int .i64 (s)), some (.pointer (some ⟨c2, 1, none⟩)), some (.int .i64 (h.se)), some (.bool false), some (.bool false), some (.bool false)] (by kernel_rfl) (by simp [xr, go_sem, m4, q1, m6, q2]) ?_
  simp only [xw, p0, p1, p2, p3]
  clear m4
  clear m6
  go_wp2
  go_ret
  exact ⟨rfl, hE.out⟩
theorem mb_any (h : Hd) (g : BitVec 64) (b : Bool) (s : Int) (H : Nat → BitVec 8) (w : World) : Calls Tryz.prog 44 #[.agg (row 24 (hdv h)).toArray, .agg (row 35 (rtV g b s H)).toArray] w fun e w' => e = .returned (.bool (mbB h b s)) ∧ Ext w w' := by
  unfold mbB
  cases b
  · rw [if_neg (by decide)]
    by_cases q : s = 0
    · rw [decide_eq_true q]
      exact mb_off0 h g s H w q
    · rw [decide_eq_false q]
      exact mb_off1 h g s H w q
  · rw [if_pos rfl]
    by_cases q1 : 0 ≤ s
    · by_cases q2 : s ≤ h.se
      · rw [decide_eq_true ⟨q1, q2⟩]
        exact mb_in h g s H w q1 q2
      · rw [decide_eq_false fun q => q2 q.2]
        exact mb_past h g s H w q1 (by omega)
    · rw [decide_eq_false fun q => q1 q.1]
      exact mb_neg h g s H w (by omega)
end Go.Proofs.YtfpfgbhdehbggaaGreatDoor
namespace Go.Proofs.YtfpfgbhdehbggaaGreatDoor
open Go.RowKit Go.BigFrame
set_option linter.unusedVariables false
set_option maxRecDepth 20000
theorem ext_below {w X Y : World} {c : Nat} (hE : Ext w X) (hB : Below c X Y) (hc : w.heap.size ≤ c) : Ext w Y :=
  ⟨hB.os.trans hE.os, hB.tape.trans hE.tape, hB.output.trans hE.output, Nat.le_trans (Below.size hE) hB.size, fun k hk => (hB.block k (by omega)).trans (hE.block k hk)⟩
theorem row_below {X Y : World} {b c n : Nat} {g : Nat → Value} (h : RowAt b n g X) (hB : Below c X Y) (hb : b < c) : RowAt b n g Y :=
  ⟨fun j hj => (hB.cell (p := ⟨b, j, none⟩) hb).trans (h.1 j hj), fun j hj => (hB.frozen (p := ⟨b, j, none⟩) hb).trans (h.2.1 j hj), Nat.lt_of_lt_of_le h.2.2 hB.size⟩
def fl (b : Bool) : BitVec 64 := if b then 1#64 else 0#64
theorem flag_bv (b : Bool) (w : World) : Calls Tryz.prog 78 #[.bool b] w fun e w' => e = .returned (.int .u64 ((fl b).toNat : Int)) ∧ w' = w := by
  cases b
  · exact flag_any false w
  · exact flag_any true w
theorem fl_lt (b : Bool) : (fl b).toNat / 2 ^ (8 * 1) = 0 := by cases b <;> decide
def rootF (j : Nat) : BitVec 8 := [82#8, 79#8, 79#8, 84#8].getD j 0#8
def rbF (g : BitVec 64) (b : Bool) (s : Nat) (H : Nat → BitVec 8) : Nat → BitVec 8 := catF (catF (catF (catF (catF (fun _ => 0#8) 0 rootF) 4 (byB g)) 12 (byB (fl b))) 13 (byB (n4 s))) 17 H
theorem rt_hash {c : Nat} {g : BitVec 64} {b : Bool} {s : Int} {H : Nat → BitVec 8} {w : World} (h : RowAt c 35 (rtV g b s H) w) : LieAt ⟨c, 3, none⟩ 32 (yv H) w :=
  ⟨fun j hj => by
    rw [show (⟨c, 3, none⟩ : Addr).add j = ⟨c, 3 + j, none⟩ by unfold Addr.add; split <;> simp_all, h.1 (3 + j) (by omega)]
    unfold rtV
    rw [if_neg (by omega), if_neg (by omega), if_neg (by omega), Nat.add_sub_cancel_left], h.2.2⟩
set_option maxRecDepth 20000 in
set_option maxHeartbeats 4000000 in
theorem rootb_any (g : BitVec 64) (b : Bool) (s : Nat) (H : Nat → BitVec 8) (w : World) (hs : s < 4294967296) : Calls Tryz.prog 45 #[.agg (row 35 (rtV g b (s : Int) H)).toArray] w fun e w' => ∃ z, e = .returned (.tuple #[.slice (some ⟨z, 0, none⟩) 49 49, .int .i64 0]) ∧ w.heap.size ≤ z ∧ RowAt z 49 (yv (rbF g b s H)) w' ∧ Ext w w' := by
  have hcn : IntKind.u64.wrap (s : Int) = ((n4 s).toNat : Int) := by rw [n4_nat hs, IntKind.wrap_u64]; omega
  have hs4 : (n4 s).toNat / 2 ^ (8 * 4) = 0 := by rw [n4_nat hs]; omega
  have hE := hideit (Ext.refl w)
  go_enter Tryz.func45, Tryz.ntmps45
  go_upto_region 0 with (fail)
  refine wp_region_lit ?_
  have A0 := hideit (RowAt.new w 35 (rtV g b (s : Int) H) 57)
  have XB : Ext w (w.alloc (.cells (row 35 (rtV g b (s : Int) H)).toArray 57)) := (Below.refl _ _).alloc (Nat.le_refl _) _
  have AE := hideit (Ext.trans hE.out (XB))
  have AB := hideit (hE.out.size)
  clear XB
  refine wpList_to rfl (.pointer (some ⟨w.heap.size, 0, none⟩)) (w.alloc (.cells (row 35 (rtV g b (s : Int) H)).toArray 57)) (by simp [go_sem]) ?_
  simp only [zp0, zp1, zp2, zp3]
  generalize w.alloc (.cells (row 35 (rtV g b (s : Int) H)).toArray 57) = x1 at A0 AE ⊢
  obtain ⟨c1, ec1⟩ : ∃ b, b = w.heap.size := ⟨_, rfl⟩
  have ABc1 : Hid (w.heap.size ≤ c1) := by rw [ec1]; exact AB.out
  clear AB
  rw [← ec1] at A0  ⊢
  clear ec1
  have Hc1 := A0
  clear A0
  replace hE := AE
  clear AE
  refine xm [some (.slice none 0 0), some (.int .i64 0)] (by kernel_rfl) (by simp [xr, go_sem]) ?_
  simp only [xw, p0, p1, p2, p3]
  go_upto_region 1 with (fail)
  refine wp_region_lit ?_
  obtain ⟨c, hc⟩ : ∃ c, c = x1.heap.size := ⟨_, rfl⟩
  have kN := neww_any 49 (fun _ => 0#8) x1 (by decide)
  have hcb : Hid (c1 < c) := by rw [hc]; exact Hc1.out.2.2
  have hcw : Hid (w.heap.size ≤ c) := by rw [hc]; exact Below.size hE.out
  rw [← hc] at kN
  clear hc
  refine wpList_call rfl (by simp [go_sem]) ((kN).mono ?_)
  rintro e y1 ⟨rfl, hW, hX1⟩
  refine ⟨_, rfl, ?_⟩
  simp only [zp0, zp1, zp2, zp3]
  replace Hc1 := hideit (Hc1.out.carry hX1)
  replace hE := hideit (Ext.trans hE.out (hX1))
  replace hW := hideit hW
  clear hX1 kN
  refine xm [some (.pointer (some ⟨c, 0, none⟩))] (by kernel_rfl) (by simp [xr, go_sem]) ?_
  simp only [xw, p0, p1, p2, p3]
  go_upto_region 2 with (fail)
  refine wp_region_lit ?_
  refine xm [some (.pointer (some ⟨c, 0, none⟩))] (by kernel_rfl) (by simp [xr, go_sem]) ?_
  simp only [xw, p0, p1, p2, p3]
  refine wpList_to rfl (.slice (some ⟨y1.heap.size, 0, none⟩) 4 4) (y1.alloc (.cells #[.int .u8 82, .int .u8 79, .int .u8 79, .int .u8 84] 5)) (by simp [go_sem]) ?_
  simp only [zp0, zp1, zp2, zp3]
  obtain ⟨x2, hr, hB, hX⟩ := constB y1 #[.int .u8 82, .int .u8 79, .int .u8 79, .int .u8 84] 4 (rootF) (fun j hj => by rcases (by omega : j = 0 ∨ j = 1 ∨ j = 2 ∨ j = 3) with rfl | rfl | rfl | rfl <;> rfl)
  refine wpList_to rfl (.slice (some ⟨y1.heap.size, 0, none⟩) 4 4) x2 (by simp [go_sem, hr]) ?_
  simp only [zp0, zp1, zp2, zp3]
  obtain ⟨a1, ea1⟩ : ∃ a : Addr, a = ⟨y1.heap.size, 0, none⟩ := ⟨_, rfl⟩
  rw [← ea1] at hB ⊢
  clear ea1 hr
  have hb1 := hideit hB
  clear hB
  replace Hc1 := hideit (Hc1.out.carry hX)
  replace hW := hideit (hW.out.ext hX)
  replace hE := hideit (Ext.trans hE.out (hX))
  clear hX
  refine wpList_call rfl (by simp [go_sem]) ((wbytes_ok c 49 0 4 ((fun _ => 0#8)) (rootF) false _ x2 hW.out (by decide) (by decide) (hb1.out)).mono ?_)
  rintro e u3 ⟨rfl, hW9, hB⟩
  refine ⟨_, rfl, ?_⟩
  simp only [zp0, zp1, zp2, zp3]
  replace hE := hideit (ext_below hE.out hB hcw.out)
  replace Hc1 := hideit (row_below Hc1.out hB hcb.out)
  replace hW := hideit hW9
  clear hB hW9
  clear hb1
  go_upto_region 3 with (fail)
  refine wp_region_lit ?_
  have m4 : u3.cell? ⟨c1, 0, none⟩ = some (.int .u64 ((g.toNat : Int))) := Hc1.out.1 0 (by decide)
  refine xm [some (.pointer (some ⟨c, 0, none⟩)), some (.pointer (some ⟨c1, 0, none⟩)), some (.int .u64 ((g.toNat : Int)))] (by kernel_rfl) (by simp [xr, go_sem, m4]) ?_
  simp only [xw, p0, p1, p2, p3]
  clear m4
  refine wpList_call rfl (by simp [go_sem]) ((wuint_ok c 49 4 8 (catF ((fun _ => 0#8)) 0 (rootF)) false (g) u3 hW.out (by decide) (by decide) (by decide) (by decide) (Nat.div_eq_of_lt g.isLt)).mono ?_)
  rintro e u5 ⟨rfl, hW9, hB⟩
  refine ⟨_, rfl, ?_⟩
  simp only [zp0, zp1, zp2, zp3]
  replace hE := hideit (ext_below hE.out hB hcw.out)
  replace Hc1 := hideit (row_below Hc1.out hB hcb.out)
  replace hW := hideit hW9
  clear hB hW9
  go_upto_region 4 with (fail)
  refine wp_region_lit ?_
  have m6 : u5.cell? ⟨c1, 1, none⟩ = some (.bool b) := Hc1.out.1 1 (by decide)
  refine xm [some (.pointer (some ⟨c, 0, none⟩)), some (.pointer (some ⟨c1, 1, none⟩)), some (.bool b)] (by kernel_rfl) (by simp [xr, go_sem, m6]) ?_
  simp only [xw, p0, p1, p2, p3]
  clear m6
  refine wpList_call rfl (by simp [go_sem]) ((flag_bv b u5).mono ?_)
  rintro e yy ⟨rfl, hyy⟩
  refine ⟨_, rfl, ?_⟩
  simp only [zp0, zp1, zp2, zp3]
  replace hyy := hyy.symm
  subst hyy
  refine wpList_call rfl (by simp [go_sem]) ((wuint_ok c 49 12 1 (catF (catF ((fun _ => 0#8)) 0 (rootF)) 4 (byB (g))) false (fl b) u5 hW.out (by decide) (by decide) (by decide) (by decide) (fl_lt b)).mono ?_)
  rintro e u7 ⟨rfl, hW9, hB⟩
  refine ⟨_, rfl, ?_⟩
  simp only [zp0, zp1, zp2, zp3]
  replace hE := hideit (ext_below hE.out hB hcw.out)
  replace Hc1 := hideit (row_below Hc1.out hB hcb.out)
  replace hW := hideit hW9
  clear hB hW9
  go_upto_region 5 with (fail)
  refine wp_region_lit ?_
  have m8 : u7.cell? ⟨c1, 2, none⟩ = some (.int .i64 (s : Int)) := Hc1.out.1 2 (by decide)
  refine xm [some (.pointer (some ⟨c, 0, none⟩)), some (.pointer (some ⟨c1, 2, none⟩)), some (.int .i64 (s : Int))] (by kernel_rfl) (by simp [xr, go_sem, m8]) ?_
  simp only [xw, p0, p1, p2, p3]
  clear m8
  refine xm [some (.int .u64 ((n4 s).toNat : Int))] (by kernel_rfl) (by simp [xr, go_sem, hcn]) ?_
  simp only [xw, p0, p1, p2, p3]
  refine wpList_call rfl (by simp [go_sem]) ((wuint_ok c 49 13 4 (catF (catF (catF ((fun _ => 0#8)) 0 (rootF)) 4 (byB (g))) 12 (byB (fl b))) false (n4 s) u7 hW.out (by decide) (by decide) (by decide) (by decide) (hs4)).mono ?_)
  rintro e u9 ⟨rfl, hW9, hB⟩
  refine ⟨_, rfl, ?_⟩
  simp only [zp0, zp1, zp2, zp3]
  replace hE := hideit (ext_below hE.out hB hcw.out)
  replace Hc1 := hideit (row_below Hc1.out hB hcb.out)
  replace hW := hideit hW9
  clear hB hW9
  go_upto_region 6 with (fail)
  refine wp_region_lit ?_
  refine xm [some (.pointer (some ⟨c, 0, none⟩)), some (.pointer (some ⟨c1, 3, none⟩))] (by kernel_rfl) (by simp [xr, go_sem]) ?_
  simp only [xw, p0, p1, p2, p3]
  refine xm [some (.slice (some ⟨c1, 3, none⟩) 32 32)] (by kernel_rfl) (by simp [xr, go_sem]) ?_
  simp only [xw, p0, p1, p2, p3]
  refine wpList_call rfl (by simp [go_sem]) ((wbytes_ok c 49 17 32 (catF (catF (catF (catF ((fun _ => 0#8)) 0 (rootF)) 4 (byB (g))) 12 (byB (fl b))) 13 (byB (n4 s))) (H) false _ u9 hW.out (by decide) (by decide) (.inr ⟨⟨c1, 3, none⟩, 32, rfl, Nat.le_refl _, rt_hash Hc1.out⟩)).mono ?_)
  rintro e u10 ⟨rfl, hW9, hB⟩
  refine ⟨_, rfl, ?_⟩
  simp only [zp0, zp1, zp2, zp3]
  replace hE := hideit (ext_below hE.out hB hcw.out)
  replace Hc1 := hideit (row_below Hc1.out hB hcb.out)
  replace hW := hideit hW9
  clear hB hW9
  go_upto_region 7 with (fail)
  refine wp_region_lit ?_
  refine xm [some (.pointer (some ⟨c, 0, none⟩))] (by kernel_rfl) (by simp [xr, go_sem]) ?_
  simp only [xw, p0, p1, p2, p3]
  have hE0 := hE
  refine wpList_call rfl (by simp [go_sem]) ((wdone_ok c 49 49 (catF (catF (catF (catF (catF ((fun _ => 0#8)) 0 (rootF)) 4 (byB (g))) 12 (byB (fl b))) 13 (byB (n4 s))) 17 (H)) u10 hW.out (by decide) (by decide)).mono ?_)
  rintro e y9 ⟨z, rfl, hz, hR, hX9⟩
  refine ⟨_, rfl, ?_⟩
  simp only [zp0, zp1, zp2, zp3]
  replace Hc1 := hideit (Hc1.out.carry hX9)
  replace hE := hideit (Ext.trans hE.out (hX9))
  replace hz := hideit (Nat.le_trans (Below.size hE0.out) hz)
  replace hR := hideit hR
  clear hX9
  refine xm [some (.slice (some ⟨z, 0, none⟩) 49 49), some (.int .i64 0), some (.slice (some ⟨z, 0, none⟩) 49 49), some (.int .i64 0)] (by kernel_rfl) (by simp [xr, go_sem]) ?_
  simp only [xw, p0, p1, p2, p3]
  go_wp2
  refine bodyPost_ret (res2 rfl _ _ _) rfl ?_
  exact ⟨z, rfl, hz.out, hR.out.congr fun j hj => by unfold yv padF rbF; rw [if_pos hj], hE.out⟩
end Go.Proofs.YtfpfgbhdehbggaaGreatDoor
namespace Go.Proofs.YtfpfgbhdehbggaaGreatDoor
open Go.RowKit Go.BigFrame
set_option linter.unusedVariables false
set_option maxRecDepth 20000
theorem zero39 (w : World) : (zeroValue 57).run Tryz.prog w = .ok (.agg (row 35 (rtV 0#64 false 0 fun _ => 0#8)).toArray) w := by kernel_rfl
theorem rt_one (g : BitVec 64) (b : Bool) (s : Int) (H : Nat → BitVec 8) (j : Nat) : (rtV g b s H j).oneCell' = true := by
  unfold rtV
  repeat (first | rfl | split)
def Went (x y : Bool) (l n l' : Nat) (f f' : Nat → BitVec 8) : Prop := x = false → n ≤ l → y = false ∧ l' = l - n ∧ f' = shF f n
theorem ruint_or (lo c l n : Nat) (f : Nat → BitVec 8) (bad : Bool) (w : World) (h : Rd lo c l f bad w) (hw : iswB n = true) (hn8 : n ≤ 8) :
    Calls Tryz.prog 28 #[.pointer (some ⟨c, 0, none⟩), .int .i64 n] w fun e w' => ∃ (x : BitVec 64) (l' : Nat) (f' : Nat → BitVec 8) (bad' : Bool), e = .returned (.int .u64 (x.toNat : Int)) ∧ x.toNat < 2 ^ (8 * n) ∧ l' ≤ l ∧ (bad = false → n ≤ l → x = leN f n) ∧ Went bad bad' l n l' f f' ∧ Rd lo c l' f' bad' w' ∧ But c w w' := by
  by_cases k : bad = false ∧ n ≤ l
  · obtain ⟨k1, k2⟩ := k
    subst k1
    refine (ruint_ok lo c l n f w h k2 hw hn8).mono ?_
    rintro e w' ⟨rfl, h2, h3⟩
    obtain ⟨g1, g2⟩ := leN_nat f n hn8
    exact ⟨_, _, _, _, rfl, by rw [g1]; exact g2, by omega, fun _ _ => rfl, fun _ _ => ⟨rfl, rfl, rfl⟩, h2, h3⟩
  · refine (ruint_not lo c l n f bad w h ?_).mono ?_
    · cases bad
      · have : ¬ n ≤ l := fun q => k ⟨rfl, q⟩
        have q : okN (n : Int) l = false := by unfold okN; rw [decide_eq_false]; rintro ⟨_, q⟩; omega
        rw [q, Bool.and_false]
      · simp
    · rintro e w' ⟨rfl, h2, h3⟩
      exact ⟨0#64, _, _, _, rfl, Nat.two_pow_pos _, Nat.le_refl _, fun a b => absurd ⟨a, b⟩ k, fun a b => absurd ⟨a, b⟩ k, h2, h3⟩
theorem rbytes_or (lo c l n : Nat) (f : Nat → BitVec 8) (bad : Bool) (w : World) (h : Rd lo c l f bad w) (hl : l ≤ 140737488355328) :
    Calls Tryz.prog 80 #[.pointer (some ⟨c, 0, none⟩), .int .i64 n] w fun e w' => ∃ (v : Value) (m : Nat) (f2 : Nat → BitVec 8) (l' : Nat) (f' : Nat → BitVec 8) (bad' : Bool), e = .returned v ∧ m ≤ n ∧ l' ≤ l ∧ BV v m f2 w' ∧ (bad = false → n ≤ l → m = n ∧ f2 = f) ∧ Went bad bad' l n l' f f' ∧ Rd lo c l' f' bad' w' ∧ But c w w' := by
  by_cases k : bad = false ∧ n ≤ l
  · obtain ⟨k1, k2⟩ := k
    subst k1
    refine (rbytes_ok lo c l n f w h k2 hl).mono ?_
    rintro e w' ⟨v, rfl, h1, _, h2, h3⟩
    exact ⟨v, n, f, _, _, _, rfl, Nat.le_refl _, by omega, h1.bv, fun _ _ => ⟨rfl, rfl⟩, fun _ _ => ⟨rfl, rfl, rfl⟩, h2, h3⟩
  · refine (rbytes_not lo c l n f bad w h ?_).mono ?_
    · cases bad
      · have : ¬ n ≤ l := fun q => k ⟨rfl, q⟩
        have q : okN (n : Int) l = false := by unfold okN; rw [decide_eq_false]; rintro ⟨_, q⟩; omega
        rw [q, Bool.and_false]
      · rfl
    · rintro e w' ⟨rfl, h2, h3⟩
      exact ⟨_, 0, f, _, _, _, rfl, Nat.zero_le _, Nat.le_refl _, .inl ⟨rfl, rfl⟩, fun a b => absurd ⟨a, b⟩ k, fun a b => absurd ⟨a, b⟩ k, h2, h3⟩
theorem exec_neq0 {o : Oper} {a : Act} {w : World} (x : Nat) (ho : o.op = .binOp .neq 43 (.tmp x) (.const (.int .u64 0)) 43) (u : BitVec 64) (hx : a.eval (.tmp x) = .int .u64 (u.toNat : Int)) : (execOp a.eval o).run Tryz.prog w = .ok (.value (.bool (decide (u ≠ 0#64)))) w := by
  have hx2 : a.tmps[x]?.getD undef = .int .u64 (u.toNat : Int) := by rw [← hx]; simp [go_sem]
  by_cases k : u = 0#64
  · subst k
    simp [ho, hx2, go_sem]
  · have k3 : ¬ u.toNat = 0 := fun q => k (BitVec.eq_of_toNat_eq (by simpa using q))
    simp [ho, hx2, go_sem, k, k3]
theorem exec_copyV {w : World} {o : Oper} {a : Act} (d s : Operand) (ho : o.op = .call { callee := .builtin .copy, args := #[d, s], argTypes := #[25, 25] })
    (b n : Nat) (g : Nat → Value) (hR : RowAt b n g w) (off dLen dCap : Nat) (v : Value) (m : Nat) (f : Nat → BitVec 8) (hv : BV v m f w) (hm : m ≤ dLen) (hd : a.eval d = .slice (some ⟨b, off, none⟩) dLen dCap) (hs : a.eval s = v) (hfit : off + m ≤ n) : (execOp a.eval o).run Tryz.prog w = .ok (.value (goInt m)) (w.setCells b off (row m (yv f))) := by
  rcases hv with ⟨rfl, rfl⟩ | ⟨ad, cap, rfl, _, hl⟩
  · have : w.setCells b off (row 0 (yv f)) = w := rfl
    rw [this]
    have hrun := run_copy_none (P := Tryz.prog) w 25 25 o.type 5 (some ⟨b, off, none⟩) none dLen dCap 0 0 Tryz.underlying25 inf5 (by show Nat.min 0 dLen = 0; unfold Nat.min; omega)
    simp [execOp, ho, resolve, invoke, builtin, hd, hs, hrun, Result.andThen]
  · exact exec_copy d s 25 25 ho 5 Tryz.underlying25 inf5 b n g hR off dLen dCap ad m cap hd hs m (yv f) (by show m = Nat.min m dLen; unfold Nat.min; omega) (fun j hj => hl.1 j hj) hfit (fun j _ => rfl)
def RtOf (l : Nat) (f : Nat → BitVec 8) (g : BitVec 64) (b : Bool) (s : Nat) (H : Nat → BitVec 8) : Prop :=
  49 ≤ l → g = leN (shF f 4) 8 ∧ b = decide (leN (shF f 12) 1 ≠ 0#64) ∧ s = (leN (shF f 13) 4).toNat ∧ ∀ j, j < 32 → H j = f (17 + j)
theorem shF_shF (f : Nat → BitVec 8) (n m : Nat) : shF (shF f n) m = shF f (n + m) := by
  funext j
  unfold shF
  rw [Nat.add_assoc]
theorem rt_g (x : BitVec 64) (j : Nat) : (if j = 0 then .int .u64 (x.toNat : Int) else rtV 0#64 false 0 (fun _ => 0#8) j) = rtV x false 0 (fun _ => 0#8) j := by
  unfold rtV
  split <;> rfl
theorem rt_b (x : BitVec 64) (b : Bool) (j : Nat) : (if j = 1 then .bool b else rtV x false 0 (fun _ => 0#8) j) = rtV x b 0 (fun _ => 0#8) j := by
  unfold rtV
  by_cases h : j = 1
  · subst h; rfl
  · rw [if_neg h]
    split
    · rfl
    · rfl
theorem rt_s (x : BitVec 64) (b : Bool) (s : Int) (j : Nat) : (if j = 2 then .int .i64 s else rtV x b 0 (fun _ => 0#8) j) = rtV x b s (fun _ => 0#8) j := by
  unfold rtV
  by_cases h : j = 2
  · subst h; rfl
  · rw [if_neg h, if_neg h, if_neg h]
theorem rt_h (x : BitVec 64) (b : Bool) (s : Int) (m : Nat) (d : Nat → BitVec 8) (hm : m ≤ 32) (j : Nat) : (if 3 ≤ j ∧ j < 3 + m then yv d (j - 3) else rtV x b s (fun _ => 0#8) j) = rtV x b s (fun j => if j < m then d j else 0#8) j := by
  unfold rtV yv
  by_cases h0 : j = 0
  · subst h0; rfl
  · by_cases h1 : j = 1
    · subst h1; rfl
    · by_cases h2 : j = 2
      · subst h2; rfl
      · rw [if_neg h0, if_neg h1, if_neg h2, if_neg h0, if_neg h1, if_neg h2]
        show _ = Value.int .u8 (((if j - 3 < m then d (j - 3) else 0#8) : BitVec 8).toNat : Int)
        by_cases h : j - 3 < m
        · rw [if_pos ⟨by omega, by omega⟩, if_pos h]
        · rw [if_neg (by omega), if_neg h]
def RofQ (l : Nat) (f : Nat → BitVec 8) (w : World) (e : Ending) (w' : World) : Prop := ∃ g b s H, e = .returned (.agg (row 35 (rtV g b ((s : Nat) : Int) H)).toArray) ∧ s < 4294967296 ∧ RtOf l f g b s H ∧ Ext w w'
set_option maxRecDepth 20000 in
set_option maxHeartbeats 4000000 in
theorem rof35_any (v : Value) (l : Nat) (f : Nat → BitVec 8) (w : World) (hV : BV v l f w) (hl : l ≤ 140737488355328) : Calls Tryz.prog 49 #[v] w fun e w' => RofQ l f w e w' := by
  have hE := hideit (Ext.refl w)
  go_enter Tryz.func49, Tryz.ntmps49
  go_upto_region 0 with (fail)
  refine wp_region_lit ?_
  have A0 := hideit (RowAt.new w 35 (rtV 0#64 false 0 (fun _ => 0#8)) 57)
  have AE := hideit (Below.alloc hE.out (Below.size hE.out) (.cells (row 35 (rtV 0#64 false 0 (fun _ => 0#8))).toArray 57))
  have AB := hideit (Below.size hE.out)
  refine wpList_to rfl (.pointer (some ⟨w.heap.size, 0, none⟩)) (w.alloc (.cells (row 35 (rtV 0#64 false 0 (fun _ => 0#8))).toArray 57)) (xalloc 57 (row 35 (rtV 0#64 false 0 (fun _ => 0#8))).toArray rfl (zero39 w)) ?_
  simp only [zp0, zp1, zp2, zp3]
  generalize w.alloc (.cells (row 35 (rtV 0#64 false 0 (fun _ => 0#8))).toArray 57) = x2 at A0 AE ⊢
  obtain ⟨z1, ez1⟩ : ∃ b, b = w.heap.size := ⟨_, rfl⟩
  rw [← ez1] at A0 ⊢
  replace AB : Hid (w.heap.size ≤ z1) := by rw [ez1]; exact Nat.le_refl _
  clear ez1
  have Hz1 := A0
  clear A0
  replace hE := AE
  clear AE
  have ABz1 := AB
  clear AB
  go_upto_region 1 with (fail)
  refine wp_region_lit ?_
  refine xm [some (v)] (by kernel_rfl) (by simp [xr, go_sem]) ?_
  simp only [xw, p0, p1, p2, p3]
  have hlo := hideit (Below.size hE.out)
  have hzl := hideit (Nat.le_of_lt_succ (Nat.succ_le_succ Hz1.out.2.2))
  obtain ⟨lo, hl0⟩ : ∃ n, n = x2.heap.size := ⟨_, rfl⟩
  refine wpList_call rfl (by simp [go_sem]) ((newr_any v l f x2 (hV.ext hE.out) (by omega)).mono ?_)
  rintro e y1 ⟨c, rfl, hlc, hR, hX1⟩
  refine ⟨_, rfl, ?_⟩
  simp only [zp0, zp1, zp2, zp3]
  replace Hz1 := hideit (Hz1.out.carry hX1)
  replace hE := hideit (Ext.trans hE.out (hX1))
  rw [← hl0] at hlc hR hlo hzl
  clear hl0
  replace hR := hideit hR
  clear hX1
  replace hlc := hideit hlc
  have hcw := hideit (Nat.le_trans hlo.out hlc.out)
  have hz1c : Hid (z1 ≠ c) := by have h1 := hzl.out; have h2 := hlc.out; show z1 ≠ c; omega
  refine xm [some (.pointer (some ⟨c, 0, none⟩))] (by kernel_rfl) (by simp [xr, go_sem]) ?_
  simp only [xw, p0, p1, p2, p3]
  go_upto_region 2 with (fail)
  refine wp_region_lit ?_
  refine xm [some (.pointer (some ⟨c, 0, none⟩))] (by kernel_rfl) (by simp [xr, go_sem]) ?_
  simp only [xw, p0, p1, p2, p3]
  refine wpList_call rfl (by simp [go_sem]) ((rbytes_or lo c l 4 f false y1 hR.out (by omega)).mono ?_)
  rintro e u3 ⟨v1, m1, d1, l1, f1, k1, rfl, hm1, hll1, hB1, hv1, hw1, hR9, hB⟩
  refine ⟨_, rfl, ?_⟩
  simp only [zp0, zp1, zp2, zp3]
  replace hB1 := hideit hB1
  replace hE := hideit (Ext.but hE.out hB hcw.out)
  replace Hz1 := hideit (RowAt.but Hz1.out hB hz1c.out)
  replace hR := hideit hR9
  clear hB hR9
  clear hB1
  have hcz := hideit hR.out.lt
  go_upto_region 3 with (fail)
  refine wp_region_lit ?_
  have A0 := hideit (RowAt.new u3 35 (rtV 0#64 false 0 (fun _ => 0#8)) 57)
  have A1 := hideit (Hz1.out.alloc (.cells (row 35 (rtV 0#64 false 0 (fun _ => 0#8))).toArray 57))
  have AE := hideit (Below.alloc hE.out (Below.size hE.out) (.cells (row 35 (rtV 0#64 false 0 (fun _ => 0#8))).toArray 57))
  have AB := hideit (Below.size hE.out)
  have D0 : Hid (z1 ≠ u3.heap.size) := Nat.ne_of_lt Hz1.out.2.2
  refine wpList_to rfl (.pointer (some ⟨u3.heap.size, 0, none⟩)) (u3.alloc (.cells (row 35 (rtV 0#64 false 0 (fun _ => 0#8))).toArray 57)) (xalloc 57 (row 35 (rtV 0#64 false 0 (fun _ => 0#8))).toArray rfl (zero39 u3)) ?_
  simp only [zp0, zp1, zp2, zp3]
  replace hR := hideit (hR.out.ext (show Ext _ (u3.alloc (.cells (row 35 (rtV 0#64 false 0 (fun _ => 0#8))).toArray 57)) from (Below.refl _ _).alloc (Nat.le_refl _) _))
  generalize u3.alloc (.cells (row 35 (rtV 0#64 false 0 (fun _ => 0#8))).toArray 57) = x5 at A0 A1 AE hR ⊢
  obtain ⟨z4, ez4⟩ : ∃ b, b = u3.heap.size := ⟨_, rfl⟩
  rw [← ez4] at A0 D0 AB hcz ⊢
  clear ez4
  have Hz4 := A0
  clear A0
  replace Hz1 := A1
  clear A1
  replace hE := AE
  clear AE
  have ABz4 := AB
  clear AB
  have Dz4_0 := D0
  clear D0
  go_upto_region 4 with (fail)
  refine wp_region_lit ?_
  refine xm [some (.pointer (some ⟨c, 0, none⟩))] (by kernel_rfl) (by simp [xr, go_sem]) ?_
  simp only [xw, p0, p1, p2, p3]
  refine wpList_call rfl (by simp [go_sem]) ((ruint_or lo c l1 8 f1 k1 x5 hR.out (by decide) (by decide)).mono ?_)
  rintro e u6 ⟨x2, l2, f2, k2, rfl, hm2, hll2, hv2, hw2, hR9, hB⟩
  refine ⟨_, rfl, ?_⟩
  simp only [zp0, zp1, zp2, zp3]
  replace hE := hideit (Ext.but hE.out hB hcw.out)
  replace Hz1 := hideit (RowAt.but Hz1.out hB hz1c.out)
  replace Hz4 := hideit (RowAt.but Hz4.out hB (Nat.ne_of_gt hcz.out))
  replace hR := hideit hR9
  clear hB hR9
  refine xm [some (.pointer (some ⟨z4, 0, none⟩))] (by kernel_rfl) (by simp [xr, go_sem]) ?_
  simp only [xw, p0, p1, p2, p3]
  have M0 : u6.cell? ⟨z4, 0, none⟩ = some (.int .u64 (((0#64).toNat : Int))) := Hz4.out.1 0 (by decide)
  have M1 : u6.frozen? ⟨z4, 0, none⟩ = false := Hz4.out.2.1 0 (by decide)
  have N0 := hideit (Hz4.out.set 0 (.int .u64 (x2.toNat : Int)))
  have N1 := hideit (Hz1.out.other ⟨z4, 0, none⟩ (.int .u64 (x2.toNat : Int)) (Ne.symm (Dz4_0.out)))
  have NE := hideit (hE.out.setCell (p := ⟨z4, 0, none⟩) (ABz4.out) (.int .u64 (x2.toNat : Int)))
  have NL0 := hideit (show Rd lo c l2 f2 k2 (u6.setCell ⟨z4, 0, none⟩ (.int .u64 (x2.toNat : Int))) from hR.out.but (but_setCell _ _ _ _) (.inr hcz.out) hlc.out)
  refine xst rfl (u6.setCell ⟨z4, 0, none⟩ (.int .u64 (x2.toNat : Int))) (by simp [go_sem, M0, M1]) ?_
  simp only [Act.put]
  generalize u6.setCell ⟨z4, 0, none⟩ (.int .u64 (x2.toNat : Int)) = x7 at N0 N1 NE NL0 ⊢
  clear M0 M1
  replace N0 := hideit (N0.out.congr (g' := rtV (x2) (false) (0) (fun _ => 0#8)) (fun j hj => rt_g x2 j))
  replace Hz4 := N0
  replace Hz1 := N1
  replace hR := NL0
  replace hE := NE
  clear N0 N1 NE NL0
  go_upto_region 5 with (fail)
  refine wp_region_lit ?_
  refine xm [some (.pointer (some ⟨c, 0, none⟩))] (by kernel_rfl) (by simp [xr, go_sem]) ?_
  simp only [xw, p0, p1, p2, p3]
  refine wpList_call rfl (by simp [go_sem]) ((ruint_or lo c l2 1 f2 k2 x7 hR.out (by decide) (by decide)).mono ?_)
  rintro e u8 ⟨x3, l3, f3, k3, rfl, hm3, hll3, hv3, hw3, hR9, hB⟩
  refine ⟨_, rfl, ?_⟩
  simp only [zp0, zp1, zp2, zp3]
  replace hE := hideit (Ext.but hE.out hB hcw.out)
  replace Hz1 := hideit (RowAt.but Hz1.out hB hz1c.out)
  replace Hz4 := hideit (RowAt.but Hz4.out hB (Nat.ne_of_gt hcz.out))
  replace hR := hideit hR9
  clear hB hR9
  refine wpList_run rfl (.bool (decide (x3 ≠ 0#64))) (exec_neq0 13 rfl x3 rfl) ?_
  simp only [zp0, zp1, zp2, zp3]
  refine xm [some (.pointer (some ⟨z4, 1, none⟩))] (by kernel_rfl) (by simp [xr, go_sem]) ?_
  simp only [xw, p0, p1, p2, p3]
  have M0 : u8.cell? ⟨z4, 1, none⟩ = some (.bool (false)) := Hz4.out.1 1 (by decide)
  have M1 : u8.frozen? ⟨z4, 1, none⟩ = false := Hz4.out.2.1 1 (by decide)
  have N0 := hideit (Hz4.out.set 1 (.bool (decide (x3 ≠ 0#64))))
  have N1 := hideit (Hz1.out.other ⟨z4, 1, none⟩ (.bool (decide (x3 ≠ 0#64))) (Ne.symm (Dz4_0.out)))
  have NE := hideit (hE.out.setCell (p := ⟨z4, 1, none⟩) (ABz4.out) (.bool (decide (x3 ≠ 0#64))))
  have NL0 := hideit (show Rd lo c l3 f3 k3 (u8.setCell ⟨z4, 1, none⟩ (.bool (decide (x3 ≠ 0#64)))) from hR.out.but (but_setCell _ _ _ _) (.inr hcz.out) hlc.out)
  refine xst rfl (u8.setCell ⟨z4, 1, none⟩ (.bool (decide (x3 ≠ 0#64)))) (by simp [go_sem, M0, M1]) ?_
  simp only [Act.put]
  generalize u8.setCell ⟨z4, 1, none⟩ (.bool (decide (x3 ≠ 0#64))) = x9 at N0 N1 NE NL0 ⊢
  clear M0 M1
  replace N0 := hideit (N0.out.congr (g' := rtV (x2) (decide (x3 ≠ 0#64)) (0) (fun _ => 0#8)) (fun j hj => rt_b x2 _ j))
  replace Hz4 := N0
  replace Hz1 := N1
  replace hR := NL0
  replace hE := NE
  clear N0 N1 NE NL0
  go_upto_region 6 with (fail)
  refine wp_region_lit ?_
  refine xm [some (.pointer (some ⟨c, 0, none⟩))] (by kernel_rfl) (by simp [xr, go_sem]) ?_
  simp only [xw, p0, p1, p2, p3]
  refine wpList_call rfl (by simp [go_sem]) ((ruint_or lo c l3 4 f3 k3 x9 hR.out (by decide) (by decide)).mono ?_)
  rintro e u10 ⟨x4, l4, f4, k4, rfl, hm4, hll4, hv4, hw4, hR9, hB⟩
  refine ⟨_, rfl, ?_⟩
  simp only [zp0, zp1, zp2, zp3]
  replace hE := hideit (Ext.but hE.out hB hcw.out)
  replace Hz1 := hideit (RowAt.but Hz1.out hB hz1c.out)
  replace Hz4 := hideit (RowAt.but Hz4.out hB (Nat.ne_of_gt hcz.out))
  replace hR := hideit hR9
  clear hB hR9
  have hcv : IntKind.i64.wrap (x4.toNat : Int) = (x4.toNat : Int) := by rw [IntKind.wrap_i64]; omega
  refine xm [some (.int .i64 (x4.toNat : Int)), some (.pointer (some ⟨z4, 2, none⟩))] (by kernel_rfl) (by simp [xr, go_sem, hcv]) ?_
  simp only [xw, p0, p1, p2, p3]
  have M0 : u10.cell? ⟨z4, 2, none⟩ = some (.int .i64 (0)) := Hz4.out.1 2 (by decide)
  have M1 : u10.frozen? ⟨z4, 2, none⟩ = false := Hz4.out.2.1 2 (by decide)
  have N0 := hideit (Hz4.out.set 2 (.int .i64 (x4.toNat : Int)))
  have N1 := hideit (Hz1.out.other ⟨z4, 2, none⟩ (.int .i64 (x4.toNat : Int)) (Ne.symm (Dz4_0.out)))
  have NE := hideit (hE.out.setCell (p := ⟨z4, 2, none⟩) (ABz4.out) (.int .i64 (x4.toNat : Int)))
  have NL0 := hideit (show Rd lo c l4 f4 k4 (u10.setCell ⟨z4, 2, none⟩ (.int .i64 (x4.toNat : Int))) from hR.out.but (but_setCell _ _ _ _) (.inr hcz.out) hlc.out)
  refine xst rfl (u10.setCell ⟨z4, 2, none⟩ (.int .i64 (x4.toNat : Int))) (by simp [go_sem, M0, M1]) ?_
  simp only [Act.put]
  generalize u10.setCell ⟨z4, 2, none⟩ (.int .i64 (x4.toNat : Int)) = x11 at N0 N1 NE NL0 ⊢
  clear M0 M1
  replace N0 := hideit (N0.out.congr (g' := rtV (x2) (decide (x3 ≠ 0#64)) (x4.toNat : Int) (fun _ => 0#8)) (fun j hj => rt_s x2 _ _ j))
  replace Hz4 := N0
  replace Hz1 := N1
  replace hR := NL0
  replace hE := NE
  clear N0 N1 NE NL0
  clear hcv
  go_upto_region 7 with (fail)
  replace Hz1 := hideit Hz1.out.drew
  replace Hz4 := hideit Hz4.out.drew
  replace hR := hideit (hR.out.ext (Ext.draw (Ext.refl x11)))
  replace hE := hideit (Ext.draw hE.out)
  refine wp_region_ladz (fun X => Below c x11.drew X) [4] [(false, 0), (false, 1), (false, 2), (true, 3), (true, 4)] (by kernel_rfl) (by kernel_rfl) (by decide +kernel) (by decide +kernel) (by decide +kernel) (by decide +kernel) (Below.refl _ _) ?_
  refine wpZ_f _ (.pointer (some ⟨z4, 3, none⟩)) rfl rfl (fun X _ => by simp [go_sem]) ?_
  simp only [List.getElem_toArray, List.getElem_cons_zero, Act.put, List.setIfInBounds_toArray, List.set_cons_zero, List.set_cons_succ]
  refine wpZ_f _ (.slice (some ⟨z4, 3, none⟩) 32 32) rfl rfl (fun X _ => by simp [go_sem]) ?_
  simp only [zp4, zp5, zp6, zp0, zp1, zp2, zp3]
  refine wpZ_f _ (.pointer (some ⟨c, 0, none⟩)) rfl rfl (fun X _ => by simp [go_sem]) ?_
  simp only [zp4, zp5, zp6, zp0, zp1, zp2, zp3]
  refine wpZ_call _ rfl rfl (by simp [go_sem]) ((rbytes_or lo c l4 32 f4 k4 x11.drew hR.out (by omega)).mono ?_)
  rintro e u12 ⟨v5, m5, d5, l5, f5, k5, rfl, hm5, hll5, hB5, hv5, hw5, hR9, hB⟩
  refine ⟨_, rfl, fun X => Ext u12 X, .inr (fun X hX => Below.trans (hB.below (Nat.le_refl _) (Nat.le_of_lt hR.out.lt)) (hX.mono (Nat.le_trans (Nat.le_of_lt hR.out.lt) hB.size))), Ext.refl _, ?_⟩
  simp only [zp4, zp5, zp6, zp0, zp1, zp2, zp3]
  replace hB5 := hideit hB5
  replace hE := hideit (Ext.but hE.out hB hcw.out)
  replace Hz1 := hideit (RowAt.but Hz1.out hB hz1c.out)
  replace Hz4 := hideit (RowAt.but Hz4.out hB (Nat.ne_of_gt hcz.out))
  replace hR := hideit hR9
  clear hB hR9
  clear hR
  have hR7 := hideit ((Hz4.out).part 3 m5 (yv d5) (by omega))
  have hE7 := hideit (below_setCells z4 ABz4.out (row m5 (yv d5)) 3 _ hE.out)
  have M7 := hideit (Hz1.out.cellsOther (Ne.symm Dz4_0.out) (row m5 (yv d5)) 3)
  refine wpZ_to _ (goInt m5) (u12.setCells z4 3 (row m5 (yv d5))) rfl rfl (exec_copyV (.tmp 21) (.tmp 23) rfl z4 35 (rtV (x2) (decide (x3 ≠ 0#64)) (x4.toNat : Int) (fun _ => 0#8)) Hz4.out 3 32 32 v5 m5 d5 hB5.out hm5 rfl rfl (by omega)) (fun _ => True) (.inl (by simp)) trivial ?_
  simp only [zp4, zp5, zp6, zp0, zp1, zp2, zp3]
  generalize u12.setCells z4 3 (row m5 (yv d5)) = y9 at hR7 hE7 M7 ⊢
  clear hE Hz4 Hz1 hB5
  replace hR7 := hideit (hR7.out.congr (g' := rtV x2 (decide (x3 ≠ 0#64)) (x4.toNat : Int) (fun j => if j < m5 then d5 j else 0#8)) fun j hj => rt_h x2 _ _ m5 d5 hm5 j)
  refine wpZ_nil ?_
  go_upto_region 8 with (fail)
  refine wp_region_lit ?_
  refine wpList_run rfl (.agg (row 35 (rtV x2 (decide (x3 ≠ 0#64)) (x4.toNat : Int) (fun j => if j < m5 then d5 j else 0#8))).toArray) (xload 57 (.tmp 4) rfl z4 0 35 _ rfl hR7.out.range Tryz.underlying57 rfl inf39) ?_
  simp only [zp0, zp1, zp2, zp3]
  have N0 := hideit (M7.out.cells (g' := rtV x2 (decide (x3 ≠ 0#64)) (x4.toNat : Int) (fun j => if j < m5 then d5 j else 0#8)))
  have N1 := hideit (hR7.out.cellsOther (Dz4_0.out) (row 35 (rtV x2 (decide (x3 ≠ 0#64)) (x4.toNat : Int) (fun j => if j < m5 then d5 j else 0#8))) 0)
  have NE := hideit (below_setCells z1 (ABz1.out) (row 35 (rtV x2 (decide (x3 ≠ 0#64)) (x4.toNat : Int) (fun j => if j < m5 then d5 j else 0#8))) 0 _ hE7.out)
  refine xst rfl (y9.setCells z1 0 (row 35 (rtV x2 (decide (x3 ≠ 0#64)) (x4.toNat : Int) (fun j => if j < m5 then d5 j else 0#8)))) (xstore 57 (.tmp 2) (.tmp 25) rfl z1 35 _ (rtV x2 (decide (x3 ≠ 0#64)) (x4.toNat : Int) (fun j => if j < m5 then d5 j else 0#8)) rfl rfl M7.out inf39 (fun j _ => rt_one _ _ _ _ j)) ?_
  simp only [Act.put]
  generalize y9.setCells z1 0 (row 35 (rtV x2 (decide (x3 ≠ 0#64)) (x4.toNat : Int) (fun j => if j < m5 then d5 j else 0#8))) = x13 at N0 N1 NE ⊢
  replace M7 := N0
  replace hR7 := N1
  replace hE7 := NE
  clear N0 N1 NE
  go_wp2
  refine bodyPost_ret (ret_row Tryz.results49 rfl (M7.out) Tryz.underlying57 rfl inf39) rfl ?_
  refine ⟨_, _, x4.toNat, _, rfl, hm4, fun h49 => ?_, hE7.out⟩
  obtain ⟨e1, rfl, rfl⟩ := hw1 rfl (by omega)
  subst e1
  obtain rfl := hv2 rfl (by omega)
  obtain ⟨e1, rfl, rfl⟩ := hw2 rfl (by omega)
  subst e1
  obtain rfl := hv3 rfl (by omega)
  obtain ⟨e1, rfl, rfl⟩ := hw3 rfl (by omega)
  subst e1
  obtain rfl := hv4 rfl (by omega)
  obtain ⟨e1, rfl, rfl⟩ := hw4 rfl (by omega)
  subst e1
  obtain ⟨rfl, rfl⟩ := hv5 rfl (by omega)
  refine ⟨rfl, by rw [shF_shF], by rw [shF_shF, shF_shF], fun j hj => ?_⟩
  show (if j < 32 then _ else _) = _
  rw [if_pos hj, shF_shF, shF_shF, shF_shF]
  rfl
end Go.Proofs.YtfpfgbhdehbggaaGreatDoor
