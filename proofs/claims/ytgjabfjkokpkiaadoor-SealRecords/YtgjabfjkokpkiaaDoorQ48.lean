/-
  Whether a root may be. A root's bytes.
-/
import Derived.Test.YtgjabfjkokpkiaaDoorQ1
import Derived.Test.YtgjabfjkokpkiaaDoorQ47
namespace Go.Proofs.YtgjabfjkokpkiaaDoor
open Go.RowKit Go.BigFrame
set_option linter.unusedVariables false
set_option maxRecDepth 20000
def rtV (g : BitVec 64) (b : Bool) (s : Int) (H : Nat → BitVec 8) (j : Nat) : Value := if j = 0 then .int .u64 (g.toNat : Int) else if j = 1 then .bool b else if j = 2 then .int .i64 s else yv H (j - 3)
theorem inf39 : (Tryd.prog.info? 39).map (·.size) = some 35 := by kernel_rfl
def mbB (h : Hd) (b : Bool) (s : Int) : Bool := if b then decide (0 ≤ s ∧ s ≤ h.se) else decide (s = 0)
set_option maxRecDepth 20000 in
set_option maxHeartbeats 4000000 in
theorem mb_off0 (h : Hd) (g : BitVec 64) (s : Int) (H : Nat → BitVec 8) (w : World) (q1 : s = 0) : Calls Tryd.prog 25 #[.agg (row 24 (hdv h)).toArray, .agg (row 35 (rtV g false s H)).toArray] w fun e w' => e = .returned (.bool true) ∧ Ext w w' := by
  have hE := hideit (Ext.refl w)
  go_enter Tryd.func25, Tryd.ntmps25
  go_upto_region 0 with (fail)
  refine wp_region_lit ?_
  have A0 := hideit (RowAt.new w 24 (hdv h) 37)
  have XB : Ext w (w.alloc (.cells (row 24 (hdv h)).toArray 37)) := (Below.refl _ _).alloc (Nat.le_refl _) _
  have AE := hideit (Ext.trans hE.out (XB))
  have AB := hideit (hE.out.size)
  clear XB
  refine wpList_to rfl (.pointer (some ⟨w.heap.size, 0, none⟩)) (w.alloc (.cells (row 24 (hdv h)).toArray 37)) (by simp [go_sem]) ?_
  simp only [zp0, zp1, zp2, zp3]
  generalize w.alloc (.cells (row 24 (hdv h)).toArray 37) = x1 at A0 AE ⊢
  obtain ⟨c2, ec2⟩ : ∃ b, b = w.heap.size := ⟨_, rfl⟩
  have ABc2 : Hid (w.heap.size ≤ c2) := by rw [ec2]; exact AB.out
  clear AB
  rw [← ec2] at A0  ⊢
  clear ec2
  have Hc2 := A0
  clear A0
  replace hE := AE
  clear AE
  have A0 := hideit (RowAt.new x1 35 (rtV g false s H) 39)
  have XB : Ext x1 (x1.alloc (.cells (row 35 (rtV g false s H)).toArray 39)) := (Below.refl _ _).alloc (Nat.le_refl _) _
  have A1 := hideit (Hc2.out.carry XB)
  have AE := hideit (Ext.trans hE.out (XB))
  have AB := hideit (hE.out.size)
  have D0 : Hid (c2 ≠ x1.heap.size) := Nat.ne_of_lt Hc2.out.2.2
  clear XB
  refine wpList_to rfl (.pointer (some ⟨x1.heap.size, 0, none⟩)) (x1.alloc (.cells (row 35 (rtV g false s H)).toArray 39)) (by simp [go_sem]) ?_
  simp only [zp0, zp1, zp2, zp3]
  generalize x1.alloc (.cells (row 35 (rtV g false s H)).toArray 39) = x2 at A0 A1 AE ⊢
  obtain ⟨c3, ec3⟩ : ∃ b, b = x1.heap.size := ⟨_, rfl⟩
  have ABc3 : Hid (w.heap.size ≤ c3) := by rw [ec3]; exact AB.out
  clear AB
  rw [← ec3] at A0 D0 ⊢
  clear ec3
  have Hc3 := A0
  clear A0
  replace Hc2 := A1
  clear A1
  replace hE := AE
  clear AE
  have Dc3_0 := D0
  clear D0
  refine xm [some (.bool false)] (by kernel_rfl) (by simp [xr, go_sem]) ?_
  simp only [xw, p0, p1, p2, p3]
  go_upto_region 1 with (fail)
  refine wp_region_lit ?_
  have m3 : x2.cell? ⟨c3, 1, none⟩ = some (.bool false) := Hc3.out.1 1 (by decide)
  refine xm [some (.pointer (some ⟨c3, 1, none⟩)), some (.bool false), some (.bool true)] (by kernel_rfl) (by simp [xr, go_sem, m3]) ?_
  simp only [xw, p0, p1, p2, p3]
  clear m3
  go_upto_region 2 with (fail)
  refine wp_region_lit ?_
  have m4 : x2.cell? ⟨c3, 2, none⟩ = some (.int .i64 (s)) := Hc3.out.1 2 (by decide)
  refine xm [some (.pointer (some ⟨c3, 2, none⟩)), some (.int .i64 (s)), some (.bool true), some (.bool true)] (by kernel_rfl) (by simp [xr, go_sem, m4, q1]) ?_
  simp only [xw, p0, p1, p2, p3]
  clear m4
  go_wp2
  go_ret
  exact ⟨rfl, hE.out⟩
set_option maxRecDepth 20000 in
set_option maxHeartbeats 4000000 in
theorem mb_off1 (h : Hd) (g : BitVec 64) (s : Int) (H : Nat → BitVec 8) (w : World) (q1 : ¬ s = 0) : Calls Tryd.prog 25 #[.agg (row 24 (hdv h)).toArray, .agg (row 35 (rtV g false s H)).toArray] w fun e w' => e = .returned (.bool false) ∧ Ext w w' := by
  have hE := hideit (Ext.refl w)
  go_enter Tryd.func25, Tryd.ntmps25
  go_upto_region 0 with (fail)
  refine wp_region_lit ?_
  have A0 := hideit (RowAt.new w 24 (hdv h) 37)
  have XB : Ext w (w.alloc (.cells (row 24 (hdv h)).toArray 37)) := (Below.refl _ _).alloc (Nat.le_refl _) _
  have AE := hideit (Ext.trans hE.out (XB))
  have AB := hideit (hE.out.size)
  clear XB
  refine wpList_to rfl (.pointer (some ⟨w.heap.size, 0, none⟩)) (w.alloc (.cells (row 24 (hdv h)).toArray 37)) (by simp [go_sem]) ?_
  simp only [zp0, zp1, zp2, zp3]
  generalize w.alloc (.cells (row 24 (hdv h)).toArray 37) = x1 at A0 AE ⊢
  obtain ⟨c2, ec2⟩ : ∃ b, b = w.heap.size := ⟨_, rfl⟩
  have ABc2 : Hid (w.heap.size ≤ c2) := by rw [ec2]; exact AB.out
  clear AB
  rw [← ec2] at A0  ⊢
  clear ec2
  have Hc2 := A0
  clear A0
  replace hE := AE
  clear AE
  have A0 := hideit (RowAt.new x1 35 (rtV g false s H) 39)
  have XB : Ext x1 (x1.alloc (.cells (row 35 (rtV g false s H)).toArray 39)) := (Below.refl _ _).alloc (Nat.le_refl _) _
  have A1 := hideit (Hc2.out.carry XB)
  have AE := hideit (Ext.trans hE.out (XB))
  have AB := hideit (hE.out.size)
  have D0 : Hid (c2 ≠ x1.heap.size) := Nat.ne_of_lt Hc2.out.2.2
  clear XB
  refine wpList_to rfl (.pointer (some ⟨x1.heap.size, 0, none⟩)) (x1.alloc (.cells (row 35 (rtV g false s H)).toArray 39)) (by simp [go_sem]) ?_
  simp only [zp0, zp1, zp2, zp3]
  generalize x1.alloc (.cells (row 35 (rtV g false s H)).toArray 39) = x2 at A0 A1 AE ⊢
  obtain ⟨c3, ec3⟩ : ∃ b, b = x1.heap.size := ⟨_, rfl⟩
  have ABc3 : Hid (w.heap.size ≤ c3) := by rw [ec3]; exact AB.out
  clear AB
  rw [← ec3] at A0 D0 ⊢
  clear ec3
  have Hc3 := A0
  clear A0
  replace Hc2 := A1
  clear A1
  replace hE := AE
  clear AE
  have Dc3_0 := D0
  clear D0
  refine xm [some (.bool false)] (by kernel_rfl) (by simp [xr, go_sem]) ?_
  simp only [xw, p0, p1, p2, p3]
  go_upto_region 1 with (fail)
  refine wp_region_lit ?_
  have m3 : x2.cell? ⟨c3, 1, none⟩ = some (.bool false) := Hc3.out.1 1 (by decide)
  refine xm [some (.pointer (some ⟨c3, 1, none⟩)), some (.bool false), some (.bool true)] (by kernel_rfl) (by simp [xr, go_sem, m3]) ?_
  simp only [xw, p0, p1, p2, p3]
  clear m3
  go_upto_region 2 with (fail)
  refine wp_region_lit ?_
  have m4 : x2.cell? ⟨c3, 2, none⟩ = some (.int .i64 (s)) := Hc3.out.1 2 (by decide)
  refine xm [some (.pointer (some ⟨c3, 2, none⟩)), some (.int .i64 (s)), some (.bool false), some (.bool false)] (by kernel_rfl) (by simp [xr, go_sem, m4, q1]) ?_
  simp only [xw, p0, p1, p2, p3]
  clear m4
  go_wp2
  go_ret
  exact ⟨rfl, hE.out⟩
set_option maxRecDepth 20000 in
set_option maxHeartbeats 4000000 in
theorem mb_neg (h : Hd) (g : BitVec 64) (s : Int) (H : Nat → BitVec 8) (w : World) (q1 : s < 0) : Calls Tryd.prog 25 #[.agg (row 24 (hdv h)).toArray, .agg (row 35 (rtV g true s H)).toArray] w fun e w' => e = .returned (.bool false) ∧ Ext w w' := by
  have hE := hideit (Ext.refl w)
  go_enter Tryd.func25, Tryd.ntmps25
  go_upto_region 0 with (fail)
  refine wp_region_lit ?_
  have A0 := hideit (RowAt.new w 24 (hdv h) 37)
  have XB : Ext w (w.alloc (.cells (row 24 (hdv h)).toArray 37)) := (Below.refl _ _).alloc (Nat.le_refl _) _
  have AE := hideit (Ext.trans hE.out (XB))
  have AB := hideit (hE.out.size)
  clear XB
  refine wpList_to rfl (.pointer (some ⟨w.heap.size, 0, none⟩)) (w.alloc (.cells (row 24 (hdv h)).toArray 37)) (by simp [go_sem]) ?_
  simp only [zp0, zp1, zp2, zp3]
  generalize w.alloc (.cells (row 24 (hdv h)).toArray 37) = x1 at A0 AE ⊢
  obtain ⟨c2, ec2⟩ : ∃ b, b = w.heap.size := ⟨_, rfl⟩
  have ABc2 : Hid (w.heap.size ≤ c2) := by rw [ec2]; exact AB.out
  clear AB
  rw [← ec2] at A0  ⊢
  clear ec2
  have Hc2 := A0
  clear A0
  replace hE := AE
  clear AE
  have A0 := hideit (RowAt.new x1 35 (rtV g true s H) 39)
  have XB : Ext x1 (x1.alloc (.cells (row 35 (rtV g true s H)).toArray 39)) := (Below.refl _ _).alloc (Nat.le_refl _) _
  have A1 := hideit (Hc2.out.carry XB)
  have AE := hideit (Ext.trans hE.out (XB))
  have AB := hideit (hE.out.size)
  have D0 : Hid (c2 ≠ x1.heap.size) := Nat.ne_of_lt Hc2.out.2.2
  clear XB
  refine wpList_to rfl (.pointer (some ⟨x1.heap.size, 0, none⟩)) (x1.alloc (.cells (row 35 (rtV g true s H)).toArray 39)) (by simp [go_sem]) ?_
  simp only [zp0, zp1, zp2, zp3]
  generalize x1.alloc (.cells (row 35 (rtV g true s H)).toArray 39) = x2 at A0 A1 AE ⊢
  obtain ⟨c3, ec3⟩ : ∃ b, b = x1.heap.size := ⟨_, rfl⟩
  have ABc3 : Hid (w.heap.size ≤ c3) := by rw [ec3]; exact AB.out
  clear AB
  rw [← ec3] at A0 D0 ⊢
  clear ec3
  have Hc3 := A0
  clear A0
  replace Hc2 := A1
  clear A1
  replace hE := AE
  clear AE
  have Dc3_0 := D0
  clear D0
  refine xm [some (.bool false)] (by kernel_rfl) (by simp [xr, go_sem]) ?_
  simp only [xw, p0, p1, p2, p3]
  go_upto_region 1 with (fail)
  refine wp_region_lit ?_
  have m3 : x2.cell? ⟨c3, 1, none⟩ = some (.bool true) := Hc3.out.1 1 (by decide)
  refine xm [some (.pointer (some ⟨c3, 1, none⟩)), some (.bool true), some (.bool false)] (by kernel_rfl) (by simp [xr, go_sem, m3]) ?_
  simp only [xw, p0, p1, p2, p3]
  clear m3
  go_upto_region 3 with (fail)
  refine wp_region_lit ?_
  have m4 : x2.cell? ⟨c3, 2, none⟩ = some (.int .i64 (s)) := Hc3.out.1 2 (by decide)
  refine xm [some (.pointer (some ⟨c3, 2, none⟩)), some (.int .i64 (s)), some (.bool false), some (.bool false), none, none, none, none, none, some (.bool false), some (.bool false)] (by kernel_rfl) (by simp [xr, go_sem, m4, q1]) ?_
  simp only [xw, p0, p1, p2, p3]
  clear m4
  go_wp2
  go_ret
  exact ⟨rfl, hE.out⟩
set_option maxRecDepth 20000 in
set_option maxHeartbeats 4000000 in
theorem mb_in (h : Hd) (g : BitVec 64) (s : Int) (H : Nat → BitVec 8) (w : World) (q1 : 0 ≤ s) (q2 : s ≤ h.se) : Calls Tryd.prog 25 #[.agg (row 24 (hdv h)).toArray, .agg (row 35 (rtV g true s H)).toArray] w fun e w' => e = .returned (.bool true) ∧ Ext w w' := by
  have hE := hideit (Ext.refl w)
  go_enter Tryd.func25, Tryd.ntmps25
  go_upto_region 0 with (fail)
  refine wp_region_lit ?_
  have A0 := hideit (RowAt.new w 24 (hdv h) 37)
  have XB : Ext w (w.alloc (.cells (row 24 (hdv h)).toArray 37)) := (Below.refl _ _).alloc (Nat.le_refl _) _
  have AE := hideit (Ext.trans hE.out (XB))
  have AB := hideit (hE.out.size)
  clear XB
  refine wpList_to rfl (.pointer (some ⟨w.heap.size, 0, none⟩)) (w.alloc (.cells (row 24 (hdv h)).toArray 37)) (by simp [go_sem]) ?_
  simp only [zp0, zp1, zp2, zp3]
  generalize w.alloc (.cells (row 24 (hdv h)).toArray 37) = x1 at A0 AE ⊢
  obtain ⟨c2, ec2⟩ : ∃ b, b = w.heap.size := ⟨_, rfl⟩
  have ABc2 : Hid (w.heap.size ≤ c2) := by rw [ec2]; exact AB.out
  clear AB
  rw [← ec2] at A0  ⊢
  clear ec2
  have Hc2 := A0
  clear A0
  replace hE := AE
  clear AE
  have A0 := hideit (RowAt.new x1 35 (rtV g true s H) 39)
  have XB : Ext x1 (x1.alloc (.cells (row 35 (rtV g true s H)).toArray 39)) := (Below.refl _ _).alloc (Nat.le_refl _) _
  have A1 := hideit (Hc2.out.carry XB)
  have AE := hideit (Ext.trans hE.out (XB))
  have AB := hideit (hE.out.size)
  have D0 : Hid (c2 ≠ x1.heap.size) := Nat.ne_of_lt Hc2.out.2.2
  clear XB
  refine wpList_to rfl (.pointer (some ⟨x1.heap.size, 0, none⟩)) (x1.alloc (.cells (row 35 (rtV g true s H)).toArray 39)) (by simp [go_sem]) ?_
  simp only [zp0, zp1, zp2, zp3]
  generalize x1.alloc (.cells (row 35 (rtV g true s H)).toArray 39) = x2 at A0 A1 AE ⊢
  obtain ⟨c3, ec3⟩ : ∃ b, b = x1.heap.size := ⟨_, rfl⟩
  have ABc3 : Hid (w.heap.size ≤ c3) := by rw [ec3]; exact AB.out
  clear AB
  rw [← ec3] at A0 D0 ⊢
  clear ec3
  have Hc3 := A0
  clear A0
  replace Hc2 := A1
  clear A1
  replace hE := AE
  clear AE
  have Dc3_0 := D0
  clear D0
  refine xm [some (.bool false)] (by kernel_rfl) (by simp [xr, go_sem]) ?_
  simp only [xw, p0, p1, p2, p3]
  go_upto_region 1 with (fail)
  refine wp_region_lit ?_
  have m3 : x2.cell? ⟨c3, 1, none⟩ = some (.bool true) := Hc3.out.1 1 (by decide)
  refine xm [some (.pointer (some ⟨c3, 1, none⟩)), some (.bool true), some (.bool false)] (by kernel_rfl) (by simp [xr, go_sem, m3]) ?_
  simp only [xw, p0, p1, p2, p3]
  clear m3
  go_upto_region 3 with (fail)
  refine wp_region_lit ?_
  have m4 : x2.cell? ⟨c3, 2, none⟩ = some (.int .i64 (s)) := Hc3.out.1 2 (by decide)
  have m6 : x2.cell? ⟨c2, 1, none⟩ = some (.int .i64 (h.se)) := Hc2.out.1 1 (by decide)
  refine xm [some (.pointer (some ⟨c3, 2, none⟩)), some (.int .i64 (s)), some (.bool true), some (.bool true), some (.pointer (some ⟨c3, 2, none⟩)), some (.int .i64 (s)), some (.pointer (some ⟨c2, 1, none⟩)), some (.int .i64 (h.se)), some (.bool true), some (.bool true), some (.bool true)] (by kernel_rfl) (by simp [xr, go_sem, m4, q1, m6, q2]) ?_
  simp only [xw, p0, p1, p2, p3]
  clear m4
  clear m6
  go_wp2
  go_ret
  exact ⟨rfl, hE.out⟩
set_option maxRecDepth 20000 in
set_option maxHeartbeats 4000000 in
theorem mb_past (h : Hd) (g : BitVec 64) (s : Int) (H : Nat → BitVec 8) (w : World) (q1 : 0 ≤ s) (q2 : h.se < s) : Calls Tryd.prog 25 #[.agg (row 24 (hdv h)).toArray, .agg (row 35 (rtV g true s H)).toArray] w fun e w' => e = .returned (.bool false) ∧ Ext w w' := by
  have hE := hideit (Ext.refl w)
  go_enter Tryd.func25, Tryd.ntmps25
  go_upto_region 0 with (fail)
  refine wp_region_lit ?_
  have A0 := hideit (RowAt.new w 24 (hdv h) 37)
  have XB : Ext w (w.alloc (.cells (row 24 (hdv h)).toArray 37)) := (Below.refl _ _).alloc (Nat.le_refl _) _
  have AE := hideit (Ext.trans hE.out (XB))
  have AB := hideit (hE.out.size)
  clear XB
  refine wpList_to rfl (.pointer (some ⟨w.heap.size, 0, none⟩)) (w.alloc (.cells (row 24 (hdv h)).toArray 37)) (by simp [go_sem]) ?_
  simp only [zp0, zp1, zp2, zp3]
  generalize w.alloc (.cells (row 24 (hdv h)).toArray 37) = x1 at A0 AE ⊢
  obtain ⟨c2, ec2⟩ : ∃ b, b = w.heap.size := ⟨_, rfl⟩
  have ABc2 : Hid (w.heap.size ≤ c2) := by rw [ec2]; exact AB.out
  clear AB
  rw [← ec2] at A0  ⊢
  clear ec2
  have Hc2 := A0
  clear A0
  replace hE := AE
  clear AE
  have A0 := hideit (RowAt.new x1 35 (rtV g true s H) 39)
  have XB : Ext x1 (x1.alloc (.cells (row 35 (rtV g true s H)).toArray 39)) := (Below.refl _ _).alloc (Nat.le_refl _) _
  have A1 := hideit (Hc2.out.carry XB)
  have AE := hideit (Ext.trans hE.out (XB))
  have AB := hideit (hE.out.size)
  have D0 : Hid (c2 ≠ x1.heap.size) := Nat.ne_of_lt Hc2.out.2.2
  clear XB
  refine wpList_to rfl (.pointer (some ⟨x1.heap.size, 0, none⟩)) (x1.alloc (.cells (row 35 (rtV g true s H)).toArray 39)) (by simp [go_sem]) ?_
  simp only [zp0, zp1, zp2, zp3]
  generalize x1.alloc (.cells (row 35 (rtV g true s H)).toArray 39) = x2 at A0 A1 AE ⊢
  obtain ⟨c3, ec3⟩ : ∃ b, b = x1.heap.size := ⟨_, rfl⟩
  have ABc3 : Hid (w.heap.size ≤ c3) := by rw [ec3]; exact AB.out
  clear AB
  rw [← ec3] at A0 D0 ⊢
  clear ec3
  have Hc3 := A0
  clear A0
  replace Hc2 := A1
  clear A1
  replace hE := AE
  clear AE
  have Dc3_0 := D0
  clear D0
  refine xm [some (.bool false)] (by kernel_rfl) (by simp [xr, go_sem]) ?_
  simp only [xw, p0, p1, p2, p3]
  go_upto_region 1 with (fail)
  refine wp_region_lit ?_
  have m3 : x2.cell? ⟨c3, 1, none⟩ = some (.bool true) := Hc3.out.1 1 (by decide)
  refine xm [some (.pointer (some ⟨c3, 1, none⟩)), some (.bool true), some (.bool false)] (by kernel_rfl) (by simp [xr, go_sem, m3]) ?_
  simp only [xw, p0, p1, p2, p3]
  clear m3
  go_upto_region 3 with (fail)
  refine wp_region_lit ?_
  have m4 : x2.cell? ⟨c3, 2, none⟩ = some (.int .i64 (s)) := Hc3.out.1 2 (by decide)
  have m6 : x2.cell? ⟨c2, 1, none⟩ = some (.int .i64 (h.se)) := Hc2.out.1 1 (by decide)
  refine xm [some (.pointer (some ⟨c3, 2, none⟩)), some (.int .i64 (s)), some (.bool true), some (.bool true), some (.pointer (some ⟨c3, 2, none⟩)), some (.int .i64 (s)), some (.pointer (some ⟨c2, 1, none⟩)), some (.int .i64 (h.se)), some (.bool false), some (.bool false), some (.bool false)] (by kernel_rfl) (by simp [xr, go_sem, m4, q1, m6, q2]) ?_
  simp only [xw, p0, p1, p2, p3]
  clear m4
  clear m6
  go_wp2
  go_ret
  exact ⟨rfl, hE.out⟩
theorem mb_any (h : Hd) (g : BitVec 64) (b : Bool) (s : Int) (H : Nat → BitVec 8) (w : World) : Calls Tryd.prog 25 #[.agg (row 24 (hdv h)).toArray, .agg (row 35 (rtV g b s H)).toArray] w fun e w' => e = .returned (.bool (mbB h b s)) ∧ Ext w w' := by
  unfold mbB
  cases b
  · rw [if_neg (by decide)]
    by_cases q : s = 0
    · rw [decide_eq_true q]
      exact mb_off0 h g s H w q
    · rw [decide_eq_false q]
      exact mb_off1 h g s H w q
  · rw [if_pos rfl]
    by_cases q1 : 0 ≤ s
    · by_cases q2 : s ≤ h.se
      · rw [decide_eq_true ⟨q1, q2⟩]
        exact mb_in h g s H w q1 q2
      · rw [decide_eq_false fun q => q2 q.2]
        exact mb_past h g s H w q1 (by omega)
    · rw [decide_eq_false fun q => q1 q.1]
      exact mb_neg h g s H w (by omega)
end Go.Proofs.YtgjabfjkokpkiaaDoor
namespace Go.Proofs.YtgjabfjkokpkiaaDoor
open Go.RowKit Go.BigFrame
set_option linter.unusedVariables false
set_option maxRecDepth 20000
theorem ext_below {w X Y : World} {c : Nat} (hE : Ext w X) (hB : Below c X Y) (hc : w.heap.size ≤ c) : Ext w Y :=
  ⟨hB.os.trans hE.os, hB.tape.trans hE.tape, hB.output.trans hE.output, Nat.le_trans (Below.size hE) hB.size, fun k hk => (hB.block k (by omega)).trans (hE.block k hk)⟩
theorem row_below {X Y : World} {b c n : Nat} {g : Nat → Value} (h : RowAt b n g X) (hB : Below c X Y) (hb : b < c) : RowAt b n g Y :=
  ⟨fun j hj => (hB.cell (p := ⟨b, j, none⟩) hb).trans (h.1 j hj), fun j hj => (hB.frozen (p := ⟨b, j, none⟩) hb).trans (h.2.1 j hj), Nat.lt_of_lt_of_le h.2.2 hB.size⟩
def fl (b : Bool) : BitVec 64 := if b then 1#64 else 0#64
theorem flag_bv (b : Bool) (w : World) : Calls Tryd.prog 47 #[.bool b] w fun e w' => e = .returned (.int .u64 ((fl b).toNat : Int)) ∧ w' = w := by
  cases b
  · exact flag_any false w
  · exact flag_any true w
theorem fl_lt (b : Bool) : (fl b).toNat / 2 ^ (8 * 1) = 0 := by cases b <;> decide
def rootF (j : Nat) : BitVec 8 := [82#8, 79#8, 79#8, 84#8].getD j 0#8
def rbF (g : BitVec 64) (b : Bool) (s : Nat) (H : Nat → BitVec 8) : Nat → BitVec 8 := catF (catF (catF (catF (catF (fun _ => 0#8) 0 rootF) 4 (byB g)) 12 (byB (fl b))) 13 (byB (n4 s))) 17 H
theorem rt_hash {c : Nat} {g : BitVec 64} {b : Bool} {s : Int} {H : Nat → BitVec 8} {w : World} (h : RowAt c 35 (rtV g b s H) w) : LieAt ⟨c, 3, none⟩ 32 (yv H) w :=
  ⟨fun j hj => by
    rw [show (⟨c, 3, none⟩ : Addr).add j = ⟨c, 3 + j, none⟩ by unfold Addr.add; split <;> simp_all, h.1 (3 + j) (by omega)]
    unfold rtV
    rw [if_neg (by omega), if_neg (by omega), if_neg (by omega), Nat.add_sub_cancel_left], h.2.2⟩
set_option maxRecDepth 20000 in
set_option maxHeartbeats 4000000 in
theorem rootb_any (g : BitVec 64) (b : Bool) (s : Nat) (H : Nat → BitVec 8) (w : World) (hs : s < 4294967296) : Calls Tryd.prog 26 #[.agg (row 35 (rtV g b (s : Int) H)).toArray] w fun e w' => ∃ z, e = .returned (.tuple #[.slice (some ⟨z, 0, none⟩) 49 49, .int .i64 0]) ∧ w.heap.size ≤ z ∧ RowAt z 49 (yv (rbF g b s H)) w' ∧ Ext w w' := by
  have hcn : IntKind.u64.wrap (s : Int) = ((n4 s).toNat : Int) := by rw [n4_nat hs, IntKind.wrap_u64]; omega
  have hs4 : (n4 s).toNat / 2 ^ (8 * 4) = 0 := by rw [n4_nat hs]; omega
  have hE := hideit (Ext.refl w)
  go_enter Tryd.func26, Tryd.ntmps26
  go_upto_region 0 with (fail)
  refine wp_region_lit ?_
  have A0 := hideit (RowAt.new w 35 (rtV g b (s : Int) H) 39)
  have XB : Ext w (w.alloc (.cells (row 35 (rtV g b (s : Int) H)).toArray 39)) := (Below.refl _ _).alloc (Nat.le_refl _) _
  have AE := hideit (Ext.trans hE.out (XB))
  have AB := hideit (hE.out.size)
  clear XB
  refine wpList_to rfl (.pointer (some ⟨w.heap.size, 0, none⟩)) (w.alloc (.cells (row 35 (rtV g b (s : Int) H)).toArray 39)) (by simp [go_sem]) ?_
  simp only [zp0, zp1, zp2, zp3]
  generalize w.alloc (.cells (row 35 (rtV g b (s : Int) H)).toArray 39) = x1 at A0 AE ⊢
  obtain ⟨c1, ec1⟩ : ∃ b, b = w.heap.size := ⟨_, rfl⟩
  have ABc1 : Hid (w.heap.size ≤ c1) := by rw [ec1]; exact AB.out
  clear AB
  rw [← ec1] at A0  ⊢
  clear ec1
  have Hc1 := A0
  clear A0
  replace hE := AE
  clear AE
  refine xm [some (.slice none 0 0), some (.int .i64 0)] (by kernel_rfl) (by simp [xr, go_sem]) ?_
  simp only [xw, p0, p1, p2, p3]
  go_upto_region 1 with (fail)
  refine wp_region_lit ?_
  obtain ⟨c, hc⟩ : ∃ c, c = x1.heap.size := ⟨_, rfl⟩
  have kN := neww_any 49 (fun _ => 0#8) x1 (by decide)
  have hcb : Hid (c1 < c) := by rw [hc]; exact Hc1.out.2.2
  have hcw : Hid (w.heap.size ≤ c) := by rw [hc]; exact Below.size hE.out
  rw [← hc] at kN
  clear hc
  refine wpList_call rfl (by simp [go_sem]) ((kN).mono ?_)
  rintro e y1 ⟨rfl, hW, hX1⟩
  refine ⟨_, rfl, ?_⟩
  simp only [zp0, zp1, zp2, zp3]
  replace Hc1 := hideit (Hc1.out.carry hX1)
  replace hE := hideit (Ext.trans hE.out (hX1))
  replace hW := hideit hW
  clear hX1 kN
  refine xm [some (.pointer (some ⟨c, 0, none⟩))] (by kernel_rfl) (by simp [xr, go_sem]) ?_
  simp only [xw, p0, p1, p2, p3]
  go_upto_region 2 with (fail)
  refine wp_region_lit ?_
  refine xm [some (.pointer (some ⟨c, 0, none⟩))] (by kernel_rfl) (by simp [xr, go_sem]) ?_
  simp only [xw, p0, p1, p2, p3]
  refine wpList_to rfl (.slice (some ⟨y1.heap.size, 0, none⟩) 4 4) (y1.alloc (.cells #[.int .u8 82, .int .u8 79, .int .u8 79, .int .u8 84] 5)) (by simp [go_sem]) ?_
  simp only [zp0, zp1, zp2, zp3]
  obtain ⟨x2, hr, hB, hX⟩ := constB y1 #[.int .u8 82, .int .u8 79, .int .u8 79, .int .u8 84] 4 (rootF) (fun j hj => by rcases (by omega : j = 0 ∨ j = 1 ∨ j = 2 ∨ j = 3) with rfl | rfl | rfl | rfl <;> rfl)
  refine wpList_to rfl (.slice (some ⟨y1.heap.size, 0, none⟩) 4 4) x2 (by simp [go_sem, hr]) ?_
  simp only [zp0, zp1, zp2, zp3]
  obtain ⟨a1, ea1⟩ : ∃ a : Addr, a = ⟨y1.heap.size, 0, none⟩ := ⟨_, rfl⟩
  rw [← ea1] at hB ⊢
  clear ea1 hr
  have hb1 := hideit hB
  clear hB
  replace Hc1 := hideit (Hc1.out.carry hX)
  replace hW := hideit (hW.out.ext hX)
  replace hE := hideit (Ext.trans hE.out (hX))
  clear hX
  refine wpList_call rfl (by simp [go_sem]) ((wbytes_ok c 49 0 4 ((fun _ => 0#8)) (rootF) false _ x2 hW.out (by decide) (by decide) (hb1.out)).mono ?_)
  rintro e u3 ⟨rfl, hW9, hB⟩
  refine ⟨_, rfl, ?_⟩
  simp only [zp0, zp1, zp2, zp3]
  replace hE := hideit (ext_below hE.out hB hcw.out)
  replace Hc1 := hideit (row_below Hc1.out hB hcb.out)
  replace hW := hideit hW9
  clear hB hW9
  clear hb1
  go_upto_region 3 with (fail)
  refine wp_region_lit ?_
  have m4 : u3.cell? ⟨c1, 0, none⟩ = some (.int .u64 ((g.toNat : Int))) := Hc1.out.1 0 (by decide)
  refine xm [some (.pointer (some ⟨c, 0, none⟩)), some (.pointer (some ⟨c1, 0, none⟩)), some (.int .u64 ((g.toNat : Int)))] (by kernel_rfl) (by simp [xr, go_sem, m4]) ?_
  simp only [xw, p0, p1, p2, p3]
  clear m4
  refine wpList_call rfl (by simp [go_sem]) ((wuint_ok c 49 4 8 (catF ((fun _ => 0#8)) 0 (rootF)) false (g) u3 hW.out (by decide) (by decide) (by decide) (by decide) (Nat.div_eq_of_lt g.isLt)).mono ?_)
  rintro e u5 ⟨rfl, hW9, hB⟩
  refine ⟨_, rfl, ?_⟩
  simp only [zp0, zp1, zp2, zp3]
  replace hE := hideit (ext_below hE.out hB hcw.out)
  replace Hc1 := hideit (row_below Hc1.out hB hcb.out)
  replace hW := hideit hW9
  clear hB hW9
  go_upto_region 4 with (fail)
  refine wp_region_lit ?_
  have m6 : u5.cell? ⟨c1, 1, none⟩ = some (.bool b) := Hc1.out.1 1 (by decide)
  refine xm [some (.pointer (some ⟨c, 0, none⟩)), some (.pointer (some ⟨c1, 1, none⟩)), some (.bool b)] (by kernel_rfl) (by simp [xr, go_sem, m6]) ?_
  simp only [xw, p0, p1, p2, p3]
  clear m6
  refine wpList_call rfl (by simp [go_sem]) ((flag_bv b u5).mono ?_)
  rintro e yy ⟨rfl, hyy⟩
  refine ⟨_, rfl, ?_⟩
  simp only [zp0, zp1, zp2, zp3]
  replace hyy := hyy.symm
  subst hyy
  refine wpList_call rfl (by simp [go_sem]) ((wuint_ok c 49 12 1 (catF (catF ((fun _ => 0#8)) 0 (rootF)) 4 (byB (g))) false (fl b) u5 hW.out (by decide) (by decide) (by decide) (by decide) (fl_lt b)).mono ?_)
  rintro e u7 ⟨rfl, hW9, hB⟩
  refine ⟨_, rfl, ?_⟩
  simp only [zp0, zp1, zp2, zp3]
  replace hE := hideit (ext_below hE.out hB hcw.out)
  replace Hc1 := hideit (row_below Hc1.out hB hcb.out)
  replace hW := hideit hW9
  clear hB hW9
  go_upto_region 5 with (fail)
  refine wp_region_lit ?_
  have m8 : u7.cell? ⟨c1, 2, none⟩ = some (.int .i64 (s : Int)) := Hc1.out.1 2 (by decide)
  refine xm [some (.pointer (some ⟨c, 0, none⟩)), some (.pointer (some ⟨c1, 2, none⟩)), some (.int .i64 (s : Int))] (by kernel_rfl) (by simp [xr, go_sem, m8]) ?_
  simp only [xw, p0, p1, p2, p3]
  clear m8
  refine xm [some (.int .u64 ((n4 s).toNat : Int))] (by kernel_rfl) (by simp [xr, go_sem, hcn]) ?_
  simp only [xw, p0, p1, p2, p3]
  refine wpList_call rfl (by simp [go_sem]) ((wuint_ok c 49 13 4 (catF (catF (catF ((fun _ => 0#8)) 0 (rootF)) 4 (byB (g))) 12 (byB (fl b))) false (n4 s) u7 hW.out (by decide) (by decide) (by decide) (by decide) (hs4)).mono ?_)
  rintro e u9 ⟨rfl, hW9, hB⟩
  refine ⟨_, rfl, ?_⟩
  simp only [zp0, zp1, zp2, zp3]
  replace hE := hideit (ext_below hE.out hB hcw.out)
  replace Hc1 := hideit (row_below Hc1.out hB hcb.out)
  replace hW := hideit hW9
  clear hB hW9
  go_upto_region 6 with (fail)
  refine wp_region_lit ?_
  refine xm [some (.pointer (some ⟨c, 0, none⟩)), some (.pointer (some ⟨c1, 3, none⟩))] (by kernel_rfl) (by simp [xr, go_sem]) ?_
  simp only [xw, p0, p1, p2, p3]
  refine xm [some (.slice (some ⟨c1, 3, none⟩) 32 32)] (by kernel_rfl) (by simp [xr, go_sem]) ?_
  simp only [xw, p0, p1, p2, p3]
  refine wpList_call rfl (by simp [go_sem]) ((wbytes_ok c 49 17 32 (catF (catF (catF (catF ((fun _ => 0#8)) 0 (rootF)) 4 (byB (g))) 12 (byB (fl b))) 13 (byB (n4 s))) (H) false _ u9 hW.out (by decide) (by decide) (.inr ⟨⟨c1, 3, none⟩, 32, rfl, Nat.le_refl _, rt_hash Hc1.out⟩)).mono ?_)
  rintro e u10 ⟨rfl, hW9, hB⟩
  refine ⟨_, rfl, ?_⟩
  simp only [zp0, zp1, zp2, zp3]
  replace hE := hideit (ext_below hE.out hB hcw.out)
  replace Hc1 := hideit (row_below Hc1.out hB hcb.out)
  replace hW := hideit hW9
  clear hB hW9
  go_upto_region 7 with (fail)
  refine wp_region_lit ?_
  refine xm [some (.pointer (some ⟨c, 0, none⟩))] (by kernel_rfl) (by simp [xr, go_sem]) ?_
  simp only [xw, p0, p1, p2, p3]
  have hE0 := hE
  refine wpList_call rfl (by simp [go_sem]) ((wdone_ok c 49 49 (catF (catF (catF (catF (catF ((fun _ => 0#8)) 0 (rootF)) 4 (byB (g))) 12 (byB (fl b))) 13 (byB (n4 s))) 17 (H)) u10 hW.out (by decide) (by decide)).mono ?_)
  rintro e y9 ⟨z, rfl, hz, hR, hX9⟩
  refine ⟨_, rfl, ?_⟩
  simp only [zp0, zp1, zp2, zp3]
  replace Hc1 := hideit (Hc1.out.carry hX9)
  replace hE := hideit (Ext.trans hE.out (hX9))
  replace hz := hideit (Nat.le_trans (Below.size hE0.out) hz)
  replace hR := hideit hR
  clear hX9
  refine xm [some (.slice (some ⟨z, 0, none⟩) 49 49), some (.int .i64 0), some (.slice (some ⟨z, 0, none⟩) 49 49), some (.int .i64 0)] (by kernel_rfl) (by simp [xr, go_sem]) ?_
  simp only [xw, p0, p1, p2, p3]
  go_wp2
  refine bodyPost_ret (res2 rfl _ _ _) rfl ?_
  exact ⟨z, rfl, hz.out, hR.out.congr fun j hj => by unfold yv padF rbF; rw [if_pos hj], hE.out⟩
end Go.Proofs.YtgjabfjkokpkiaaDoor
