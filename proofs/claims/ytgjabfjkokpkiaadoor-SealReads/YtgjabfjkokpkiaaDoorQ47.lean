/-
  The header of the law. Whether a root may be.
-/
import Derived.Test.YtgjabfjkokpkiaaDoorQ1
import Derived.Test.YtgjabfjkokpkiaaDoorQ45
import Derived.Test.YtgjabfjkokpkiaaDoorQ46
namespace Go.Proofs.YtgjabfjkokpkiaaDoor
open Go.RowKit Go.BigFrame
set_option linter.unusedVariables false
set_option maxRecDepth 20000
def hSe (n : Int) : Hd := ⟨1#64, n, 1, 40, 2, 1, 8, 1, fun _ => 0#8⟩
def hS0 : Hd := ⟨0#64, 0, 0, 0, 0, 0, 0, 0, fun _ => 0#8⟩
theorem inf37 : (Tryd.prog.info? 37).map (·.size) = some 24 := by kernel_rfl
theorem zero37 (w : World) : (zeroValue 37).run Tryd.prog w = .ok (.agg (row 24 (hdv hS0)).toArray) w := by kernel_rfl
theorem bPs (w : World) : (Instr.build 34 #[(0, .int .i64 1), (1, .int .i64 8), (2, .int .i64 1)]).run Tryd.prog w = .ok (.agg (row 3 (pav 1 8 1)).toArray) w := by kernel_rfl
theorem bHs (n : Int) (w : World) : (Instr.build 37 #[(0, .int .u64 1), (1, .int .i64 n), (2, .int .i64 1), (3, .int .i64 40), (4, .int .i64 2), (5, .agg (row 3 (pav 1 8 1)).toArray)]).run Tryd.prog w = .ok (.agg (row 24 (hdv (hSe n))).toArray) w := by kernel_rfl
theorem hd_one (h : Hd) (j : Nat) : (hdv h j).oneCell' = true := by
  unfold hdv
  repeat (first | rfl | split)
set_option maxRecDepth 20000 in
set_option maxHeartbeats 4000000 in
theorem head_any (n : Int) (w : World) : Calls Tryd.prog 23 #[.int .i64 n] w fun e w' => e = .returned (.agg (row 24 (hdv (hSe n))).toArray) ∧ Ext w w' := by
  have hE := hideit (Ext.refl w)
  go_enter Tryd.func23, Tryd.ntmps23
  go_upto_region 0 with (fail)
  refine wp_region_lit ?_
  have A0 := hideit (RowAt.new w 24 (hdv hS0) 37)
  have AE := hideit (Below.alloc hE.out (Below.size hE.out) (.cells (row 24 (hdv hS0)).toArray 37))
  have AB := hideit (Below.size hE.out)
  refine wpList_to rfl (.pointer (some ⟨w.heap.size, 0, none⟩)) (w.alloc (.cells (row 24 (hdv hS0)).toArray 37)) (xalloc 37 (row 24 (hdv hS0)).toArray rfl (zero37 w)) ?_
  simp only [zp0, zp1, zp2, zp3]
  generalize w.alloc (.cells (row 24 (hdv hS0)).toArray 37) = x2 at A0 AE ⊢
  obtain ⟨z1, ez1⟩ : ∃ b, b = w.heap.size := ⟨_, rfl⟩
  rw [← ez1] at A0 ⊢
  replace AB : Hid (w.heap.size ≤ z1) := by rw [ez1]; exact Nat.le_refl _
  clear ez1
  have Hz1 := A0
  clear A0
  replace hE := AE
  clear AE
  have ABz1 := AB
  clear AB
  go_upto_region 1 with (fail)
  refine wp_region_lit ?_
  refine xm [some (.int .i64 (n))] (by kernel_rfl) (by simp [xr, go_sem]) ?_
  simp only [xw, p0, p1, p2, p3]
  refine wpList_run rfl (.agg (row 3 (pav 1 8 1)).toArray) (xbuild 34 [(0, .const (.int .i64 1)), (1, .const (.int .i64 8)), (2, .const (.int .i64 1))] rfl _ (bPs _)) ?_
  simp only [zp0, zp1, zp2, zp3]
  refine wpList_run rfl (.agg (row 24 (hdv (hSe n))).toArray) (xbuild 37 [(0, .const (.int .u64 1)), (1, .tmp 3), (2, .const (.int .i64 1)), (3, .const (.int .i64 40)), (4, .const (.int .i64 2)), (5, .tmp 4)] rfl _ (bHs n _)) ?_
  simp only [zp0, zp1, zp2, zp3]
  have N0 := hideit (Hz1.out.cells (g' := hdv (hSe n)))
  have NE := hideit (below_setCells z1 (ABz1.out) (row 24 (hdv (hSe n))) 0 _ hE.out)
  refine xst rfl (x2.setCells z1 0 (row 24 (hdv (hSe n)))) (xstore 37 (.tmp 2) (.tmp 5) rfl z1 24 _ (hdv (hSe n)) rfl rfl Hz1.out inf37 (fun j _ => hd_one _ j)) ?_
  simp only [Act.put]
  generalize x2.setCells z1 0 (row 24 (hdv (hSe n))) = x3 at N0 NE ⊢
  replace Hz1 := N0
  replace hE := NE
  clear N0 NE
  go_wp2
  exact bodyPost_ret (ret_row rfl rfl Hz1.out Tryd.underlying37 rfl inf37) rfl ⟨rfl, hE.out⟩
end Go.Proofs.YtgjabfjkokpkiaaDoor
namespace Go.Proofs.YtgjabfjkokpkiaaDoor
open Go.RowKit Go.BigFrame
set_option linter.unusedVariables false
set_option maxRecDepth 20000
def rtV (g : BitVec 64) (b : Bool) (s : Int) (H : Nat → BitVec 8) (j : Nat) : Value := if j = 0 then .int .u64 (g.toNat : Int) else if j = 1 then .bool b else if j = 2 then .int .i64 s else yv H (j - 3)
theorem inf39 : (Tryd.prog.info? 39).map (·.size) = some 35 := by kernel_rfl
def mbB (h : Hd) (b : Bool) (s : Int) : Bool := if b then decide (0 ≤ s ∧ s ≤ h.se) else decide (s = 0)
set_option maxRecDepth 20000 in
set_option maxHeartbeats 4000000 in
theorem mb_off0 (h : Hd) (g : BitVec 64) (s : Int) (H : Nat → BitVec 8) (w : World) (q1 : s = 0) : Calls Tryd.prog 25 #[.agg (row 24 (hdv h)).toArray, .agg (row 35 (rtV g false s H)).toArray] w fun e w' => e = .returned (.bool true) ∧ Ext w w' := by
  have hE := hideit (Ext.refl w)
  go_enter Tryd.func25, Tryd.ntmps25
  go_upto_region 0 with (fail)
  refine wp_region_lit ?_
  have A0 := hideit (RowAt.new w 24 (hdv h) 37)
  have XB : Ext w (w.alloc (.cells (row 24 (hdv h)).toArray 37)) := (Below.refl _ _).alloc (Nat.le_refl _) _
  have AE := hideit (Ext.trans hE.out (XB))
  have AB := hideit (hE.out.size)
  clear XB
  refine wpList_to rfl (.pointer (some ⟨w.heap.size, 0, none⟩)) (w.alloc (.cells (row 24 (hdv h)).toArray 37)) (by simp [go_sem]) ?_
  simp only [zp0, zp1, zp2, zp3]
  generalize w.alloc (.cells (row 24 (hdv h)).toArray 37) = x1 at A0 AE ⊢
  obtain ⟨c2, ec2⟩ : ∃ b, b = w.heap.size := ⟨_, rfl⟩
  have ABc2 : Hid (w.heap.size ≤ c2) := by rw [ec2]; exact AB.out
  clear AB
  rw [← ec2] at A0  ⊢
  clear ec2
  have Hc2 := A0
  clear A0
  replace hE := AE
  clear AE
  have A0 := hideit (RowAt.new x1 35 (rtV g false s H) 39)
  have XB : Ext x1 (x1.alloc (.cells (row 35 (rtV g false s H)).toArray 39)) := (Below.refl _ _).alloc (Nat.le_refl _) _
  have A1 := hideit (Hc2.out.carry XB)
  have AE := hideit (Ext.trans hE.out (XB))
  have AB := hideit (hE.out.size)
  have D0 : Hid (c2 ≠ x1.heap.size) := Nat.ne_of_lt Hc2.out.2.2
  clear XB
  refine wpList_to rfl (.pointer (some ⟨x1.heap.size, 0, none⟩)) (x1.alloc (.cells (row 35 (rtV g false s H)).toArray 39)) (by simp [go_sem]) ?_
  simp only [zp0, zp1, zp2, zp3]
  generalize x1.alloc (.cells (row 35 (rtV g false s H)).toArray 39) = x2 at A0 A1 AE ⊢
  obtain ⟨c3, ec3⟩ : ∃ b, b = x1.heap.size := ⟨_, rfl⟩
  have ABc3 : Hid (w.heap.size ≤ c3) := by rw [ec3]; exact AB.out
  clear AB
  rw [← ec3] at A0 D0 ⊢
  clear ec3
  have Hc3 := A0
  clear A0
  replace Hc2 := A1
  clear A1
  replace hE := AE
  clear AE
  have Dc3_0 := D0
  clear D0
  refine xm [some (.bool false)] (by kernel_rfl) (by simp [xr, go_sem]) ?_
  simp only [xw, p0, p1, p2, p3]
  go_upto_region 1 with (fail)
  refine wp_region_lit ?_
  have m3 : x2.cell? ⟨c3, 1, none⟩ = some (.bool false) := Hc3.out.1 1 (by decide)
  refine xm [some (.pointer (some ⟨c3, 1, none⟩)), some (.bool false), some (.bool true)] (by kernel_rfl) (by simp [xr, go_sem, m3]) ?_
  simp only [xw, p0, p1, p2, p3]
  clear m3
  go_upto_region 2 with (fail)
  refine wp_region_lit ?_
  have m4 : x2.cell? ⟨c3, 2, none⟩ = some (.int .i64 (s)) := Hc3.out.1 2 (by decide)
  refine xm [some (.pointer (some ⟨c3, 2, none⟩)), some (.int .i64 (s)), some (.bool true), some (.bool true)] (by kernel_rfl) (by simp [xr, go_sem, m4, q1]) ?_
  simp only [xw, p0, p1, p2, p3]
  clear m4
  go_wp2
  go_ret
  exact ⟨rfl, hE.out⟩
set_option maxRecDepth 20000 in
set_option maxHeartbeats 4000000 in
theorem mb_off1 (h : Hd) (g : BitVec 64) (s : Int) (H : Nat → BitVec 8) (w : World) (q1 : ¬ s = 0) : Calls Tryd.prog 25 #[.agg (row 24 (hdv h)).toArray, .agg (row 35 (rtV g false s H)).toArray] w fun e w' => e = .returned (.bool false) ∧ Ext w w' := by
  have hE := hideit (Ext.refl w)
  go_enter Tryd.func25, Tryd.ntmps25
  go_upto_region 0 with (fail)
  refine wp_region_lit ?_
  have A0 := hideit (RowAt.new w 24 (hdv h) 37)
  have XB : Ext w (w.alloc (.cells (row 24 (hdv h)).toArray 37)) := (Below.refl _ _).alloc (Nat.le_refl _) _
  have AE := hideit (Ext.trans hE.out (XB))
  have AB := hideit (hE.out.size)
  clear XB
  refine wpList_to rfl (.pointer (some ⟨w.heap.size, 0, none⟩)) (w.alloc (.cells (row 24 (hdv h)).toArray 37)) (by simp [go_sem]) ?_
  simp only [zp0, zp1, zp2, zp3]
  generalize w.alloc (.cells (row 24 (hdv h)).toArray 37) = x1 at A0 AE ⊢
  obtain ⟨c2, ec2⟩ : ∃ b, b = w.heap.size := ⟨_, rfl⟩
  have ABc2 : Hid (w.heap.size ≤ c2) := by rw [ec2]; exact AB.out
  clear AB
  rw [← ec2] at A0  ⊢
  clear ec2
  have Hc2 := A0
  clear A0
  replace hE := AE
  clear AE
  have A0 := hideit (RowAt.new x1 35 (rtV g false s H) 39)
  have XB : Ext x1 (x1.alloc (.cells (row 35 (rtV g false s H)).toArray 39)) := (Below.refl _ _).alloc (Nat.le_refl _) _
  have A1 := hideit (Hc2.out.carry XB)
  have AE := hideit (Ext.trans hE.out (XB))
  have AB := hideit (hE.out.size)
  have D0 : Hid (c2 ≠ x1.heap.size) := Nat.ne_of_lt Hc2.out.2.2
  clear XB
  refine wpList_to rfl (.pointer (some ⟨x1.heap.size, 0, none⟩)) (x1.alloc (.cells (row 35 (rtV g false s H)).toArray 39)) (by simp [go_sem]) ?_
  simp only [zp0, zp1, zp2, zp3]
  generalize x1.alloc (.cells (row 35 (rtV g false s H)).toArray 39) = x2 at A0 A1 AE ⊢
  obtain ⟨c3, ec3⟩ : ∃ b, b = x1.heap.size := ⟨_, rfl⟩
  have ABc3 : Hid (w.heap.size ≤ c3) := by rw [ec3]; exact AB.out
  clear AB
  rw [← ec3] at A0 D0 ⊢
  clear ec3
  have Hc3 := A0
  clear A0
  replace Hc2 := A1
  clear A1
  replace hE := AE
  clear AE
  have Dc3_0 := D0
  clear D0
  refine xm [some (.bool false)] (by kernel_rfl) (by simp [xr, go_sem]) ?_
  simp only [xw, p0, p1, p2, p3]
  go_upto_region 1 with (fail)
  refine wp_region_lit ?_
  have m3 : x2.cell? ⟨c3, 1, none⟩ = some (.bool false) := Hc3.out.1 1 (by decide)
  refine xm [some (.pointer (some ⟨c3, 1, none⟩)), some (.bool false), some (.bool true)] (by kernel_rfl) (by simp [xr, go_sem, m3]) ?_
  simp only [xw, p0, p1, p2, p3]
  clear m3
  go_upto_region 2 with (fail)
  refine wp_region_lit ?_
  have m4 : x2.cell? ⟨c3, 2, none⟩ = some (.int .i64 (s)) := Hc3.out.1 2 (by decide)
  refine xm [some (.pointer (some ⟨c3, 2, none⟩)), some (.int .i64 (s)), some (.bool false), some (.bool false)] (by kernel_rfl) (by simp [xr, go_sem, m4, q1]) ?_
  simp only [xw, p0, p1, p2, p3]
  clear m4
  go_wp2
  go_ret
  exact ⟨rfl, hE.out⟩
set_option maxRecDepth 20000 in
set_option maxHeartbeats 4000000 in
theorem mb_neg (h : Hd) (g : BitVec 64) (s : Int) (H : Nat → BitVec 8) (w : World) (q1 : s < 0) : Calls Tryd.prog 25 #[.agg (row 24 (hdv h)).toArray, .agg (row 35 (rtV g true s H)).toArray] w fun e w' => e = .returned (.bool false) ∧ Ext w w' := by
  have hE := hideit (Ext.refl w)
  go_enter Tryd.func25, Tryd.ntmps25
  go_upto_region 0 with (fail)
  refine wp_region_lit ?_
  have A0 := hideit (RowAt.new w 24 (hdv h) 37)
  have XB : Ext w (w.alloc (.cells (row 24 (hdv h)).toArray 37)) := (Below.refl _ _).alloc (Nat.le_refl _) _
  have AE := hideit (Ext.trans hE.out (XB))
  have AB := hideit (hE.out.size)
  clear XB
  refine wpList_to rfl (.pointer (some ⟨w.heap.size, 0, none⟩)) (w.alloc (.cells (row 24 (hdv h)).toArray 37)) (by simp [go_sem]) ?_
  simp only [zp0, zp1, zp2, zp3]
  generalize w.alloc (.cells (row 24 (hdv h)).toArray 37) = x1 at A0 AE ⊢
  obtain ⟨c2, ec2⟩ : ∃ b, b = w.heap.size := ⟨_, rfl⟩
  have ABc2 : Hid (w.heap.size ≤ c2) := by rw [ec2]; exact AB.out
  clear AB
  rw [← ec2] at A0  ⊢
  clear ec2
  have Hc2 := A0
  clear A0
  replace hE := AE
  clear AE
  have A0 := hideit (RowAt.new x1 35 (rtV g true s H) 39)
  have XB : Ext x1 (x1.alloc (.cells (row 35 (rtV g true s H)).toArray 39)) := (Below.refl _ _).alloc (Nat.le_refl _) _
  have A1 := hideit (Hc2.out.carry XB)
  have AE := hideit (Ext.trans hE.out (XB))
  have AB := hideit (hE.out.size)
  have D0 : Hid (c2 ≠ x1.heap.size) := Nat.ne_of_lt Hc2.out.2.2
  clear XB
  refine wpList_to rfl (.pointer (some ⟨x1.heap.size, 0, none⟩)) (x1.alloc (.cells (row 35 (rtV g true s H)).toArray 39)) (by simp [go_sem]) ?_
  simp only [zp0, zp1, zp2, zp3]
  generalize x1.alloc (.cells (row 35 (rtV g true s H)).toArray 39) = x2 at A0 A1 AE ⊢
  obtain ⟨c3, ec3⟩ : ∃ b, b = x1.heap.size := ⟨_, rfl⟩
  have ABc3 : Hid (w.heap.size ≤ c3) := by rw [ec3]; exact AB.out
  clear AB
  rw [← ec3] at A0 D0 ⊢
  clear ec3
  have Hc3 := A0
  clear A0
  replace Hc2 := A1
  clear A1
  replace hE := AE
  clear AE
  have Dc3_0 := D0
  clear D0
  refine xm [some (.bool false)] (by kernel_rfl) (by simp [xr, go_sem]) ?_
  simp only [xw, p0, p1, p2, p3]
  go_upto_region 1 with (fail)
  refine wp_region_lit ?_
  have m3 : x2.cell? ⟨c3, 1, none⟩ = some (.bool true) := Hc3.out.1 1 (by decide)
  refine xm [some (.pointer (some ⟨c3, 1, none⟩)), some (.bool true), some (.bool false)] (by kernel_rfl) (by simp [xr, go_sem, m3]) ?_
  simp only [xw, p0, p1, p2, p3]
  clear m3
  go_upto_region 3 with (fail)
  refine wp_region_lit ?_
  have m4 : x2.cell? ⟨c3, 2, none⟩ = some (.int .i64 (s)) := Hc3.out.1 2 (by decide)
  refine xm [some (.pointer (some ⟨c3, 2, none⟩)), some (.int .i64 (s)), some (.bool false), some (.bool false), none, none, none, none, none, some (.bool false), some (.bool false)] (by kernel_rfl) (by simp [xr, go_sem, m4, q1]) ?_
  simp only [xw, p0, p1, p2, p3]
  clear m4
  go_wp2
  go_ret
  exact ⟨rfl, hE.out⟩
set_option maxRecDepth 20000 in
set_option maxHeartbeats 4000000 in
theorem mb_in (h : Hd) (g : BitVec 64) (s : Int) (H : Nat → BitVec 8) (w : World) (q1 : 0 ≤ s) (q2 : s ≤ h.se) : Calls Tryd.prog 25 #[.agg (row 24 (hdv h)).toArray, .agg (row 35 (rtV g true s H)).toArray] w fun e w' => e = .returned (.bool true) ∧ Ext w w' := by
  have hE := hideit (Ext.refl w)
  go_enter Tryd.func25, Tryd.ntmps25
  go_upto_region 0 with (fail)
  refine wp_region_lit ?_
  have A0 := hideit (RowAt.new w 24 (hdv h) 37)
  have XB : Ext w (w.alloc (.cells (row 24 (hdv h)).toArray 37)) := (Below.refl _ _).alloc (Nat.le_refl _) _
  have AE := hideit (Ext.trans hE.out (XB))
  have AB := hideit (hE.out.size)
  clear XB
  refine wpList_to rfl (.pointer (some ⟨w.heap.size, 0, none⟩)) (w.alloc (.cells (row 24 (hdv h)).toArray 37)) (by simp [go_sem]) ?_
  simp only [zp0, zp1, zp2, zp3]
  generalize w.alloc (.cells (row 24 (hdv h)).toArray 37) = x1 at A0 AE ⊢
  obtain ⟨c2, ec2⟩ : ∃ b, b = w.heap.size := ⟨_, rfl⟩
  have ABc2 : Hid (w.heap.size ≤ c2) := by rw [ec2]; exact AB.out
  clear AB
  rw [← ec2] at A0  ⊢
  clear ec2
  have Hc2 := A0
  clear A0
  replace hE := AE
  clear AE
  have A0 := hideit (RowAt.new x1 35 (rtV g true s H) 39)
  have XB : Ext x1 (x1.alloc (.cells (row 35 (rtV g true s H)).toArray 39)) := (Below.refl _ _).alloc (Nat.le_refl _) _
  have A1 := hideit (Hc2.out.carry XB)
  have AE := hideit (Ext.trans hE.out (XB))
  have AB := hideit (hE.out.size)
  have D0 : Hid (c2 ≠ x1.heap.size) := Nat.ne_of_lt Hc2.out.2.2
  clear XB
  refine wpList_to rfl (.pointer (some ⟨x1.heap.size, 0, none⟩)) (x1.alloc (.cells (row 35 (rtV g true s H)).toArray 39)) (by simp [go_sem]) ?_
  simp only [zp0, zp1, zp2, zp3]
  generalize x1.alloc (.cells (row 35 (rtV g true s H)).toArray 39) = x2 at A0 A1 AE ⊢
  obtain ⟨c3, ec3⟩ : ∃ b, b = x1.heap.size := ⟨_, rfl⟩
  have ABc3 : Hid (w.heap.size ≤ c3) := by rw [ec3]; exact AB.out
  clear AB
  rw [← ec3] at A0 D0 ⊢
  clear ec3
  have Hc3 := A0
  clear A0
  replace Hc2 := A1
  clear A1
  replace hE := AE
  clear AE
  have Dc3_0 := D0
  clear D0
  refine xm [some (.bool false)] (by kernel_rfl) (by simp [xr, go_sem]) ?_
  simp only [xw, p0, p1, p2, p3]
  go_upto_region 1 with (fail)
  refine wp_region_lit ?_
  have m3 : x2.cell? ⟨c3, 1, none⟩ = some (.bool true) := Hc3.out.1 1 (by decide)
  refine xm [some (.pointer (some ⟨c3, 1, none⟩)), some (.bool true), some (.bool false)] (by kernel_rfl) (by simp [xr, go_sem, m3]) ?_
  simp only [xw, p0, p1, p2, p3]
  clear m3
  go_upto_region 3 with (fail)
  refine wp_region_lit ?_
  have m4 : x2.cell? ⟨c3, 2, none⟩ = some (.int .i64 (s)) := Hc3.out.1 2 (by decide)
  have m6 : x2.cell? ⟨c2, 1, none⟩ = some (.int .i64 (h.se)) := Hc2.out.1 1 (by decide)
  refine xm [some (.pointer (some ⟨c3, 2, none⟩)), some (.int .i64 (s)), some (.bool true), some (.bool true), some (.pointer (some ⟨c3, 2, none⟩)), some (.int .i64 (s)), some (.pointer (some ⟨c2, 1, none⟩)), some (.int .i64 (h.se)), some (.bool true), some (.bool true), some (.bool true)] (by kernel_rfl) (by simp [xr, go_sem, m4, q1, m6, q2]) ?_
  simp only [xw, p0, p1, p2, p3]
  clear m4
  clear m6
  go_wp2
  go_ret
  exact ⟨rfl, hE.out⟩
set_option maxRecDepth 20000 in
set_option maxHeartbeats 4000000 in
theorem mb_past (h : Hd) (g : BitVec 64) (s : Int) (H : Nat → BitVec 8) (w : World) (q1 : 0 ≤ s) (q2 : h.se < s) : Calls Tryd.prog 25 #[.agg (row 24 (hdv h)).toArray, .agg (row 35 (rtV g true s H)).toArray] w fun e w' => e = .returned (.bool false) ∧ Ext w w' := by
  have hE := hideit (Ext.refl w)
  go_enter Tryd.func25, Tryd.ntmps25
  go_upto_region 0 with (fail)
  refine wp_region_lit ?_
  have A0 := hideit (RowAt.new w 24 (hdv h) 37)
  have XB : Ext w (w.alloc (.cells (row 24 (hdv h)).toArray 37)) := (Below.refl _ _).alloc (Nat.le_refl _) _
  have AE := hideit (Ext.trans hE.out (XB))
  have AB := hideit (hE.out.size)
  clear XB
  refine wpList_to rfl (.pointer (some ⟨w.heap.size, 0, none⟩)) (w.alloc (.cells (row 24 (hdv h)).toArray 37)) (by simp [go_sem]) ?_
  simp only [zp0, zp1, zp2, zp3]
  generalize w.alloc (.cells (row 24 (hdv h)).toArray 37) = x1 at A0 AE ⊢
  obtain ⟨c2, ec2⟩ : ∃ b, b = w.heap.size := ⟨_, rfl⟩
  have ABc2 : Hid (w.heap.size ≤ c2) := by rw [ec2]; exact AB.out
  clear AB
  rw [← ec2] at A0  ⊢
  clear ec2
  have Hc2 := A0
  clear A0
  replace hE := AE
  clear AE
  have A0 := hideit (RowAt.new x1 35 (rtV g true s H) 39)
  have XB : Ext x1 (x1.alloc (.cells (row 35 (rtV g true s H)).toArray 39)) := (Below.refl _ _).alloc (Nat.le_refl _) _
  have A1 := hideit (Hc2.out.carry XB)
  have AE := hideit (Ext.trans hE.out (XB))
  have AB := hideit (hE.out.size)
  have D0 : Hid (c2 ≠ x1.heap.size) := Nat.ne_of_lt Hc2.out.2.2
  clear XB
  refine wpList_to rfl (.pointer (some ⟨x1.heap.size, 0, none⟩)) (x1.alloc (.cells (row 35 (rtV g true s H)).toArray 39)) (by simp [go_sem]) ?_
  simp only [zp0, zp1, zp2, zp3]
  generalize x1.alloc (.cells (row 35 (rtV g true s H)).toArray 39) = x2 at A0 A1 AE ⊢
  obtain ⟨c3, ec3⟩ : ∃ b, b = x1.heap.size := ⟨_, rfl⟩
  have ABc3 : Hid (w.heap.size ≤ c3) := by rw [ec3]; exact AB.out
  clear AB
  rw [← ec3] at A0 D0 ⊢
  clear ec3
  have Hc3 := A0
  clear A0
  replace Hc2 := A1
  clear A1
  replace hE := AE
  clear AE
  have Dc3_0 := D0
  clear D0
  refine xm [some (.bool false)] (by kernel_rfl) (by simp [xr, go_sem]) ?_
  simp only [xw, p0, p1, p2, p3]
  go_upto_region 1 with (fail)
  refine wp_region_lit ?_
  have m3 : x2.cell? ⟨c3, 1, none⟩ = some (.bool true) := Hc3.out.1 1 (by decide)
  refine xm [some (.pointer (some ⟨c3, 1, none⟩)), some (.bool true), some (.bool false)] (by kernel_rfl) (by simp [xr, go_sem, m3]) ?_
  simp only [xw, p0, p1, p2, p3]
  clear m3
  go_upto_region 3 with (fail)
  refine wp_region_lit ?_
  have m4 : x2.cell? ⟨c3, 2, none⟩ = some (.int .i64 (s)) := Hc3.out.1 2 (by decide)
  have m6 : x2.cell? ⟨c2, 1, none⟩ = some (.int .i64 (h.se)) := Hc2.out.1 1 (by decide)
  refine xm [some (.pointer (some ⟨c3, 2, none⟩)), some (.int .i64 (s)), some (.bool true), some (.bool true), some (.pointer (some ⟨c3, 2, none⟩)), some (.int .i64 (s)), some (.pointer (some ⟨c2, 1, none⟩)), some (.int .i64 (h.se)), some (.bool false), some (.bool false), some (.bool false)] (by kernel_rfl) (by simp [xr, go_sem, m4, q1, m6, q2]) ?_
  simp only [xw, p0, p1, p2, p3]
  clear m4
  clear m6
  go_wp2
  go_ret
  exact ⟨rfl, hE.out⟩
theorem mb_any (h : Hd) (g : BitVec 64) (b : Bool) (s : Int) (H : Nat → BitVec 8) (w : World) : Calls Tryd.prog 25 #[.agg (row 24 (hdv h)).toArray, .agg (row 35 (rtV g b s H)).toArray] w fun e w' => e = .returned (.bool (mbB h b s)) ∧ Ext w w' := by
  unfold mbB
  cases b
  · rw [if_neg (by decide)]
    by_cases q : s = 0
    · rw [decide_eq_true q]
      exact mb_off0 h g s H w q
    · rw [decide_eq_false q]
      exact mb_off1 h g s H w q
  · rw [if_pos rfl]
    by_cases q1 : 0 ≤ s
    · by_cases q2 : s ≤ h.se
      · rw [decide_eq_true ⟨q1, q2⟩]
        exact mb_in h g s H w q1 q2
      · rw [decide_eq_false fun q => q2 q.2]
        exact mb_past h g s H w q1 (by omega)
    · rw [decide_eq_false fun q => q1 q.1]
      exact mb_neg h g s H w (by omega)
end Go.Proofs.YtgjabfjkokpkiaaDoor
