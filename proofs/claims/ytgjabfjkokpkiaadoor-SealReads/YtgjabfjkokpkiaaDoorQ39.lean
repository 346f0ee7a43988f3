/-
  Root blocks, the program's and the document's. ReadRoot, the program's and the document's. How headers that came in read.
-/
import Derived.Test.YtgjabfjkokpkiaaDoorQ1
import Derived.Test.YtgjabfjkokpkiaaDoorQ37
import Derived.Test.YtgjabfjkokpkiaaDoorQ38
import Derived.Test.YtgjabfjkokpkiaaDoorQ15
import Derived.Test.YtgjabfjkokpkiaaDoorQ8
import Derived.Test.YtgjabfjkokpkiaaDoorQ30
import Derived.Test.YtgjabfjkokpkiaaDoorQ32
import Derived.Test.YtgjabfjkokpkiaaDoorQ7
import Derived.Deep.Slices
namespace Go.Proofs.YtgjabfjkokpkiaaDoor
open Go.RowKit Go.BigFrame
set_option linter.unusedVariables false
set_option maxRecDepth 20000
def R0 : Field := { name := "Counter", type := 32, offset := 0, embedded := false, tag := "", pkgPath := "", byteOffset := 0 }
def R1 : Field := { name := "Rekeying", type := 4, offset := 1, embedded := false, tag := "", pkgPath := "", byteOffset := 8 }
def R2 : Field := { name := "Frontier", type := 3, offset := 2, embedded := false, tag := "", pkgPath := "", byteOffset := 16 }
def R3 : Field := { name := "Tree", type := 31, offset := 3, embedded := false, tag := "", pkgPath := "", byteOffset := 24 }
theorem rtV_tr (g : BitVec 64) (b : Bool) (s : Int) (H : Nat → BitVec 8) : (row 32 fun j => rtV g b s H (3 + j)) = row 32 fun j => .int .u8 ((H j).toNat : Int) := row_ext fun j _ => by
  unfold rtV
  rw [if_neg (by omega), if_neg (by omega), if_neg (by omega), Nat.add_sub_cancel_left]
  rfl
theorem equalR (g : BitVec 64) (b : Bool) (s : Int) (H : Nat → BitVec 8) (w : World) : (Op.equalIn 10000 39 (.agg (row 35 (rtV g b s H)).toArray) (.agg (row 35 (rtV g b s H)).toArray)).run Tryd.prog w = (.ok true w : Result Bool) := by
  rw [run_equalIn_struct w 9999 39 _ _ (by kernel_rfl) (by kernel_rfl)]
  have hf : (Tryd.prog.fieldsOf 39).toList = [R0, R1, R2, R3] := by kernel_rfl
  rw [hf]
  have e6 := equalIn_row (P := Tryd.prog) 9997 31 5 32 .u8 Tryd.underlying31 Tryd.underlying5 Tryd.sizeOf5 (fun j => ((H j).toNat : Int)) (fun j => ((H j).toNat : Int)) w
  rw [← rtV_tr g b s H] at e6
  have r := (eqFields_cons (P := Tryd.prog) 9999 (row 35 (rtV g b s H)).toArray (row 35 (rtV g b s H)).toArray R0 _ (.int .u64 (g.toNat : Int)) (.int .u64 (g.toNat : Int)) _ _ w (by decide) (part_one (Tryd.isAgg32 w) (by decide)) (part_one (Tryd.isAgg32 w) (by decide)) (run_equalIn_int w 9998 32 .u64 .u64 _ _ Tryd.underlying32)
    (eqFields_cons (P := Tryd.prog) 9999 (row 35 (rtV g b s H)).toArray (row 35 (rtV g b s H)).toArray R1 _ (.bool b) (.bool b) _ _ w (by decide) (part_one (Tryd.isAgg4 w) (by decide)) (part_one (Tryd.isAgg4 w) (by decide)) (run_equalIn_bool' w 9998 4 _ _ Tryd.underlying4)
    (eqFields_cons (P := Tryd.prog) 9999 (row 35 (rtV g b s H)).toArray (row 35 (rtV g b s H)).toArray R2 _ (.int .i64 s) (.int .i64 s) _ _ w (by decide) (part_one (Tryd.isAgg3 w) (by decide)) (part_one (Tryd.isAgg3 w) (by decide)) (run_equalIn_int w 9998 3 .i64 .i64 _ _ Tryd.underlying3)
    (eqFields_cons 9999 _ _ R3 _ _ _ _ _ w (by decide) (part_arr (Tryd.isAgg31 w) (Tryd.sizeOf31 w) (by decide)) (part_arr (Tryd.isAgg31 w) (Tryd.sizeOf31 w) (by decide)) e6 (eqFields_nil _ _ _ w)))))
  rw [r]
  simp
theorem eqlR (g : BitVec 64) (b : Bool) (s : Int) (H : Nat → BitVec 8) (w : World) : (binOp .eql 39 (.agg (row 35 (rtV g b s H)).toArray) (.agg (row 35 (rtV g b s H)).toArray)).run Tryd.prog w = .ok (.bool true) w := by
  rw [run_eql_struct, equalR]; rfl
theorem eqG39 : Tryd.prog.eqGuardType Tryd.prog.depth 39 = false := by kernel_rfl
set_option maxRecDepth 20000 in
set_option maxHeartbeats 4000000 in
theorem roots_no (K : Nat → BitVec 8) (h : Hd) (g : BitVec 64) (b : Bool) (s : Int) (H : Nat → BitVec 8) (w : World) (hC : TabC w) (hq : okH h → mbB h b s = false) : Calls Tryd.prog 4 #[.agg (row 32 (yv K)).toArray, .agg (row 24 (hdv h)).toArray, .agg (row 35 (rtV g b (s) H)).toArray] w fun e w' => e = .returned (.bool true) ∧ Ext w w' := by
  have hno1 : ∀ X, Calls Tryd.prog 12 #[.agg (row 32 (yv K)).toArray, .agg (row 24 (hdv h)).toArray, .agg (row 35 (rtV g b s H)).toArray] X fun e w' => e = .returned (.tuple #[.slice none 0 0, .int .i64 1]) ∧ Ext X w' := fun X => by
    by_cases hk : okH h
    · exact rb12_may K h g b s H X hk (hq hk)
    · exact rb12_head K h g b s H X hk
  have hno2 := fun X => rrb_no K h g b s H X hq
  have hE := hideit (Ext.refl w)
  go_enter Tryd.func4, Tryd.ntmps4
  go_upto_region 0 with (fail)
  refine wp_region_lit ?_
  have A0 := hideit (RowAt.new w 32 (yv K) 31)
  have XB : Ext w (w.alloc (.cells (row 32 (yv K)).toArray 31)) := (Below.refl _ _).alloc (Nat.le_refl _) _
  have AE := hideit (Ext.trans hE.out (XB))
  have AB := hideit (hE.out.size)
  clear XB
  refine wpList_to rfl (.pointer (some ⟨w.heap.size, 0, none⟩)) (w.alloc (.cells (row 32 (yv K)).toArray 31)) (by simp [go_sem]) ?_
  simp only [zp0, zp1, zp2, zp3]
  generalize w.alloc (.cells (row 32 (yv K)).toArray 31) = x1 at A0 AE ⊢
  obtain ⟨c3, ec3⟩ : ∃ b, b = w.heap.size := ⟨_, rfl⟩
  have ABc3 : Hid (w.heap.size ≤ c3) := by rw [ec3]; exact AB.out
  clear AB
  rw [← ec3] at A0  ⊢
  clear ec3
  have Hc3 := A0
  clear A0
  replace hE := AE
  clear AE
  have A0 := hideit (RowAt.new x1 24 (hdv h) 37)
  have XB : Ext x1 (x1.alloc (.cells (row 24 (hdv h)).toArray 37)) := (Below.refl _ _).alloc (Nat.le_refl _) _
  have A1 := hideit (Hc3.out.carry XB)
  have AE := hideit (Ext.trans hE.out (XB))
  have AB := hideit (hE.out.size)
  have D0 : Hid (c3 ≠ x1.heap.size) := Nat.ne_of_lt Hc3.out.2.2
  clear XB
  refine wpList_to rfl (.pointer (some ⟨x1.heap.size, 0, none⟩)) (x1.alloc (.cells (row 24 (hdv h)).toArray 37)) (by simp [go_sem]) ?_
  simp only [zp0, zp1, zp2, zp3]
  generalize x1.alloc (.cells (row 24 (hdv h)).toArray 37) = x2 at A0 A1 AE ⊢
  obtain ⟨c4, ec4⟩ : ∃ b, b = x1.heap.size := ⟨_, rfl⟩
  have ABc4 : Hid (w.heap.size ≤ c4) := by rw [ec4]; exact AB.out
  clear AB
  rw [← ec4] at A0 D0 ⊢
  clear ec4
  have Hc4 := A0
  clear A0
  replace Hc3 := A1
  clear A1
  replace hE := AE
  clear AE
  have Dc4_0 := D0
  clear D0
  have A0 := hideit (RowAt.new x2 35 (rtV g b (s) H) 39)
  have XB : Ext x2 (x2.alloc (.cells (row 35 (rtV g b (s) H)).toArray 39)) := (Below.refl _ _).alloc (Nat.le_refl _) _
  have A1 := hideit (Hc3.out.carry XB)
  have A2 := hideit (Hc4.out.carry XB)
  have AE := hideit (Ext.trans hE.out (XB))
  have AB := hideit (hE.out.size)
  have D0 : Hid (c3 ≠ x2.heap.size) := Nat.ne_of_lt Hc3.out.2.2
  have D1 : Hid (c4 ≠ x2.heap.size) := Nat.ne_of_lt Hc4.out.2.2
  clear XB
  refine wpList_to rfl (.pointer (some ⟨x2.heap.size, 0, none⟩)) (x2.alloc (.cells (row 35 (rtV g b (s) H)).toArray 39)) (by simp [go_sem]) ?_
  simp only [zp0, zp1, zp2, zp3]
  generalize x2.alloc (.cells (row 35 (rtV g b (s) H)).toArray 39) = x3 at A0 A1 A2 AE ⊢
  obtain ⟨c5, ec5⟩ : ∃ b, b = x2.heap.size := ⟨_, rfl⟩
  have ABc5 : Hid (w.heap.size ≤ c5) := by rw [ec5]; exact AB.out
  clear AB
  rw [← ec5] at A0 D0 D1 ⊢
  clear ec5
  have Hc5 := A0
  clear A0
  replace Hc3 := A1
  clear A1
  replace Hc4 := A2
  clear A2
  replace hE := AE
  clear AE
  have Dc5_0 := D0
  clear D0
  have Dc5_1 := D1
  clear D1
  refine xm [some (.bool false)] (by kernel_rfl) (by simp [xr, go_sem]) ?_
  simp only [xw, p0, p1, p2, p3]
  go_upto_region 1 with (fail)
  refine wp_region_lit ?_
  refine wpList_run rfl (.agg (row 32 (yv K)).toArray) (xload 31 (.tmp 3) rfl c3 0 32 _ rfl Hc3.out.range Tryd.underlying31 rfl inf31) ?_
  simp only [zp0, zp1, zp2, zp3]
  refine wpList_run rfl (.agg (row 24 (hdv h)).toArray) (xload 37 (.tmp 4) rfl c4 0 24 _ rfl Hc4.out.range Tryd.underlying37 rfl inf37) ?_
  simp only [zp0, zp1, zp2, zp3]
  refine wpList_run rfl (.agg (row 35 (rtV g b (s) H)).toArray) (xload 39 (.tmp 5) rfl c5 0 35 _ rfl Hc5.out.range Tryd.underlying39 rfl inf39) ?_
  simp only [zp0, zp1, zp2, zp3]
  refine wpList_call rfl (by simp [go_sem]) ((hno1 x3).mono ?_)
  rintro e y4 ⟨rfl, hX5⟩
  refine ⟨_, rfl, ?_⟩
  simp only [zp0, zp1, zp2, zp3]
  replace Hc3 := hideit (Hc3.out.carry hX5)
  replace Hc4 := hideit (Hc4.out.carry hX5)
  replace Hc5 := hideit (Hc5.out.carry hX5)
  replace hE := hideit (Ext.trans hE.out (hX5))
  clear hX5
  refine xm [some (.tuple #[.slice none 0 0, .int .i64 1]), some (.slice none 0 0), some (.int .i64 1), some (.slice none 0 0), some (.int .i64 1)] (by kernel_rfl) (by simp [xr, go_sem]) ?_
  simp only [xw, p0, p1, p2, p3]
  go_upto_region 2 with (fail)
  refine wp_region_lit ?_
  refine wpList_run rfl (.agg (row 32 (yv K)).toArray) (xload 31 (.tmp 3) rfl c3 0 32 _ rfl Hc3.out.range Tryd.underlying31 rfl inf31) ?_
  simp only [zp0, zp1, zp2, zp3]
  refine wpList_run rfl (.agg (row 24 (hdv h)).toArray) (xload 37 (.tmp 4) rfl c4 0 24 _ rfl Hc4.out.range Tryd.underlying37 rfl inf37) ?_
  simp only [zp0, zp1, zp2, zp3]
  refine wpList_run rfl (.agg (row 35 (rtV g b (s) H)).toArray) (xload 39 (.tmp 5) rfl c5 0 35 _ rfl Hc5.out.range Tryd.underlying39 rfl inf39) ?_
  simp only [zp0, zp1, zp2, zp3]
  refine wpList_call rfl (by simp [go_sem]) ((hno2 y4).mono ?_)
  rintro e y6 ⟨rfl, hX7⟩
  refine ⟨_, rfl, ?_⟩
  simp only [zp0, zp1, zp2, zp3]
  replace Hc3 := hideit (Hc3.out.carry hX7)
  replace Hc4 := hideit (Hc4.out.carry hX7)
  replace Hc5 := hideit (Hc5.out.carry hX7)
  replace hE := hideit (Ext.trans hE.out (hX7))
  clear hX7
  refine xm [some (.tuple #[.slice none 0 0, .int .i64 1]), some (.slice none 0 0), some (.int .i64 1), some (.slice none 0 0), some (.int .i64 1)] (by kernel_rfl) (by simp [xr, go_sem]) ?_
  simp only [xw, p0, p1, p2, p3]
  go_upto_region 3 with (fail)
  refine wp_region_lit ?_
  refine wpList_call rfl (by simp [go_sem]) ((lives_any y6 (hC.ext hE.out)).mono ?_)
  rintro e y8 ⟨rfl, hX9⟩
  refine ⟨_, rfl, ?_⟩
  simp only [zp0, zp1, zp2, zp3]
  replace Hc3 := hideit (Hc3.out.carry hX9)
  replace Hc4 := hideit (Hc4.out.carry hX9)
  replace Hc5 := hideit (Hc5.out.carry hX9)
  replace hE := hideit (Ext.trans hE.out (hX9))
  clear hX9
  refine xm [some (.bool false), some (.bool false), some (.slice none 0 0)] (by kernel_rfl) (by simp [xr, go_sem]) ?_
  simp only [xw, p0, p1, p2, p3]
  have cv10 := convS (.slice none 0 0) 0 (fun _ => 0#8) y8 (.inl ⟨rfl, rfl⟩)
  refine xm [some (.string (bS 0 (fun _ => 0#8))), some (.slice none 0 0)] (by kernel_rfl) (by simp [xr, go_sem, cv10]) ?_
  simp only [xw, p0, p1, p2, p3]
  clear cv10
  have cv11 := convS (.slice none 0 0) 0 (fun _ => 0#8) y8 (.inl ⟨rfl, rfl⟩)
  refine xm [some (.string (bS 0 (fun _ => 0#8))), some (.bool false), some (.bool false), some (.bool false), some (.int .i64 1), some (.int .i64 1), some (.bool false), some (.bool false)] (by kernel_rfl) (by simp [xr, go_sem, cv11]) ?_
  simp only [xw, p0, p1, p2, p3]
  clear cv11
  go_upto_region 5 with (fail)
  refine wp_region_lit ?_
  refine xm [some (.int .i64 1), some (.bool true)] (by kernel_rfl) (by simp [xr, go_sem]) ?_
  simp only [xw, p0, p1, p2, p3]
  go_upto_region 6 with (fail)
  refine wp_region_lit ?_
  refine xm [some (.bool true)] (by kernel_rfl) (by simp [xr, go_sem]) ?_
  simp only [xw, p0, p1, p2, p3]
  go_wp2
  go_ret
  exact ⟨rfl, hE.out⟩
set_option maxRecDepth 20000 in
set_option maxHeartbeats 4000000 in
theorem roots_ok (K : Nat → BitVec 8) (h : Hd) (g : BitVec 64) (b : Bool) (s : Nat) (H : Nat → BitVec 8) (w : World) (hC : TabC w) (hk : okH h) (hm : mbB h b (s : Int) = true) (hs : s < 4294967296) : Calls Tryd.prog 4 #[.agg (row 32 (yv K)).toArray, .agg (row 24 (hdv h)).toArray, .agg (row 35 (rtV g b (s : Int) H)).toArray] w fun e w' => e = .returned (.bool true) ∧ Ext w w' := by
  have hE := hideit (Ext.refl w)
  go_enter Tryd.func4, Tryd.ntmps4
  go_upto_region 0 with (fail)
  refine wp_region_lit ?_
  have A0 := hideit (RowAt.new w 32 (yv K) 31)
  have XB : Ext w (w.alloc (.cells (row 32 (yv K)).toArray 31)) := (Below.refl _ _).alloc (Nat.le_refl _) _
  have AE := hideit (Ext.trans hE.out (XB))
  have AB := hideit (hE.out.size)
  clear XB
  refine wpList_to rfl (.pointer (some ⟨w.heap.size, 0, none⟩)) (w.alloc (.cells (row 32 (yv K)).toArray 31)) (by simp [go_sem]) ?_
  simp only [zp0, zp1, zp2, zp3]
  generalize w.alloc (.cells (row 32 (yv K)).toArray 31) = x1 at A0 AE ⊢
  obtain ⟨c3, ec3⟩ : ∃ b, b = w.heap.size := ⟨_, rfl⟩
  have ABc3 : Hid (w.heap.size ≤ c3) := by rw [ec3]; exact AB.out
  clear AB
  rw [← ec3] at A0  ⊢
  clear ec3
  have Hc3 := A0
  clear A0
  replace hE := AE
  clear AE
  have A0 := hideit (RowAt.new x1 24 (hdv h) 37)
  have XB : Ext x1 (x1.alloc (.cells (row 24 (hdv h)).toArray 37)) := (Below.refl _ _).alloc (Nat.le_refl _) _
  have A1 := hideit (Hc3.out.carry XB)
  have AE := hideit (Ext.trans hE.out (XB))
  have AB := hideit (hE.out.size)
  have D0 : Hid (c3 ≠ x1.heap.size) := Nat.ne_of_lt Hc3.out.2.2
  clear XB
  refine wpList_to rfl (.pointer (some ⟨x1.heap.size, 0, none⟩)) (x1.alloc (.cells (row 24 (hdv h)).toArray 37)) (by simp [go_sem]) ?_
  simp only [zp0, zp1, zp2, zp3]
  generalize x1.alloc (.cells (row 24 (hdv h)).toArray 37) = x2 at A0 A1 AE ⊢
  obtain ⟨c4, ec4⟩ : ∃ b, b = x1.heap.size := ⟨_, rfl⟩
  have ABc4 : Hid (w.heap.size ≤ c4) := by rw [ec4]; exact AB.out
  clear AB
  rw [← ec4] at A0 D0 ⊢
  clear ec4
  have Hc4 := A0
  clear A0
  replace Hc3 := A1
  clear A1
  replace hE := AE
  clear AE
  have Dc4_0 := D0
  clear D0
  have A0 := hideit (RowAt.new x2 35 (rtV g b (s : Int) H) 39)
  have XB : Ext x2 (x2.alloc (.cells (row 35 (rtV g b (s : Int) H)).toArray 39)) := (Below.refl _ _).alloc (Nat.le_refl _) _
  have A1 := hideit (Hc3.out.carry XB)
  have A2 := hideit (Hc4.out.carry XB)
  have AE := hideit (Ext.trans hE.out (XB))
  have AB := hideit (hE.out.size)
  have D0 : Hid (c3 ≠ x2.heap.size) := Nat.ne_of_lt Hc3.out.2.2
  have D1 : Hid (c4 ≠ x2.heap.size) := Nat.ne_of_lt Hc4.out.2.2
  clear XB
  refine wpList_to rfl (.pointer (some ⟨x2.heap.size, 0, none⟩)) (x2.alloc (.cells (row 35 (rtV g b (s : Int) H)).toArray 39)) (by simp [go_sem]) ?_
  simp only [zp0, zp1, zp2, zp3]
  generalize x2.alloc (.cells (row 35 (rtV g b (s : Int) H)).toArray 39) = x3 at A0 A1 A2 AE ⊢
  obtain ⟨c5, ec5⟩ : ∃ b, b = x2.heap.size := ⟨_, rfl⟩
  have ABc5 : Hid (w.heap.size ≤ c5) := by rw [ec5]; exact AB.out
  clear AB
  rw [← ec5] at A0 D0 D1 ⊢
  clear ec5
  have Hc5 := A0
  clear A0
  replace Hc3 := A1
  clear A1
  replace Hc4 := A2
  clear A2
  replace hE := AE
  clear AE
  have Dc5_0 := D0
  clear D0
  have Dc5_1 := D1
  clear D1
  refine xm [some (.bool false)] (by kernel_rfl) (by simp [xr, go_sem]) ?_
  simp only [xw, p0, p1, p2, p3]
  go_upto_region 1 with (fail)
  refine wp_region_lit ?_
  refine wpList_run rfl (.agg (row 32 (yv K)).toArray) (xload 31 (.tmp 3) rfl c3 0 32 _ rfl Hc3.out.range Tryd.underlying31 rfl inf31) ?_
  simp only [zp0, zp1, zp2, zp3]
  refine wpList_run rfl (.agg (row 24 (hdv h)).toArray) (xload 37 (.tmp 4) rfl c4 0 24 _ rfl Hc4.out.range Tryd.underlying37 rfl inf37) ?_
  simp only [zp0, zp1, zp2, zp3]
  refine wpList_run rfl (.agg (row 35 (rtV g b (s : Int) H)).toArray) (xload 39 (.tmp 5) rfl c5 0 35 _ rfl Hc5.out.range Tryd.underlying39 rfl inf39) ?_
  simp only [zp0, zp1, zp2, zp3]
  refine wpList_call rfl (by simp [go_sem]) ((rb12_ok K h g b s H x3 (hC.ext hE.out) hk hm hs).mono ?_)
  rintro e y1 ⟨x1, rfl, _, hR1, hX1⟩
  refine ⟨_, rfl, ?_⟩
  simp only [zp0, zp1, zp2, zp3]
  replace Hc3 := hideit (Hc3.out.carry hX1)
  replace Hc4 := hideit (Hc4.out.carry hX1)
  replace Hc5 := hideit (Hc5.out.carry hX1)
  replace hE := hideit (Ext.trans hE.out (hX1))
  have hB1 : Hid (BV (.slice (some ⟨x1, 0, none⟩) 512 512) 512 (rkF K h g b s H) y1) := .inr ⟨⟨x1, 0, none⟩, 512, rfl, Nat.le_refl _, RowAt.lie hR1 512 (Nat.le_refl _)⟩
  clear hX1 hR1
  refine xm [some (.tuple #[.slice (some ⟨x1, 0, none⟩) 512 512, .int .i64 0]), some (.slice (some ⟨x1, 0, none⟩) 512 512), some (.int .i64 0), some (.slice (some ⟨x1, 0, none⟩) 512 512), some (.int .i64 0)] (by kernel_rfl) (by simp [xr, go_sem]) ?_
  simp only [xw, p0, p1, p2, p3]
  go_upto_region 2 with (fail)
  refine wp_region_lit ?_
  refine wpList_run rfl (.agg (row 32 (yv K)).toArray) (xload 31 (.tmp 3) rfl c3 0 32 _ rfl Hc3.out.range Tryd.underlying31 rfl inf31) ?_
  simp only [zp0, zp1, zp2, zp3]
  refine wpList_run rfl (.agg (row 24 (hdv h)).toArray) (xload 37 (.tmp 4) rfl c4 0 24 _ rfl Hc4.out.range Tryd.underlying37 rfl inf37) ?_
  simp only [zp0, zp1, zp2, zp3]
  refine wpList_run rfl (.agg (row 35 (rtV g b (s : Int) H)).toArray) (xload 39 (.tmp 5) rfl c5 0 35 _ rfl Hc5.out.range Tryd.underlying39 rfl inf39) ?_
  simp only [zp0, zp1, zp2, zp3]
  refine wpList_call rfl (by simp [go_sem]) ((rrb_ok K h g b s H y1 hk hm hs).mono ?_)
  rintro e y2 ⟨v2, rfl, hB2, hX2⟩
  refine ⟨_, rfl, ?_⟩
  simp only [zp0, zp1, zp2, zp3]
  replace Hc3 := hideit (Hc3.out.carry hX2)
  replace Hc4 := hideit (Hc4.out.carry hX2)
  replace Hc5 := hideit (Hc5.out.carry hX2)
  replace hB1 := hideit (hB1.out.ext hX2)
  replace hE := hideit (Ext.trans hE.out (hX2))
  obtain ⟨o2, k2, rfl⟩ := hB2.form
  replace hB2 := hideit hB2
  clear hX2
  refine xm [some (.tuple #[.slice o2 512 k2, .int .i64 0]), some (.slice o2 512 k2), some (.int .i64 0), some (.slice o2 512 k2), some (.int .i64 0)] (by kernel_rfl) (by simp [xr, go_sem]) ?_
  simp only [xw, p0, p1, p2, p3]
  go_upto_region 3 with (fail)
  refine wp_region_lit ?_
  refine wpList_call rfl (by simp [go_sem]) ((lives_any y2 (hC.ext hE.out)).mono ?_)
  rintro e y4 ⟨rfl, hX5⟩
  refine ⟨_, rfl, ?_⟩
  simp only [zp0, zp1, zp2, zp3]
  replace Hc3 := hideit (Hc3.out.carry hX5)
  replace Hc4 := hideit (Hc4.out.carry hX5)
  replace Hc5 := hideit (Hc5.out.carry hX5)
  replace hB1 := hideit (hB1.out.ext hX5)
  replace hB2 := hideit (hB2.out.ext hX5)
  replace hE := hideit (Ext.trans hE.out (hX5))
  clear hX5
  have cv6 := convS (.slice (some ⟨x1, 0, none⟩) 512 512) 512 (rkF K h g b s H) y4 hB1.out
  have cv7 := convS (.slice o2 512 k2) 512 (rkF K h g b s H) y4 hB2.out
  refine xm [some (.bool false), some (.bool false), some (.slice (some ⟨x1, 0, none⟩) 512 512), some (.string (bS 512 (rkF K h g b s H))), some (.slice o2 512 k2), some (.string (bS 512 (rkF K h g b s H))), some (.bool false), some (.bool false), some (.bool false), some (.int .i64 0), some (.int .i64 0), some (.bool false), some (.bool false)] (by kernel_rfl) (by simp [xr, go_sem, cv6, cv7]) ?_
  simp only [xw, p0, p1, p2, p3]
  clear cv6
  clear cv7
  go_upto_region 5 with (fail)
  refine wp_region_lit ?_
  refine xm [some (.int .i64 0), some (.bool false)] (by kernel_rfl) (by simp [xr, go_sem]) ?_
  simp only [xw, p0, p1, p2, p3]
  clear hB2
  go_upto_region 7 with (fail)
  refine wp_region_lit ?_
  refine wpList_run rfl (.agg (row 32 (yv K)).toArray) (xload 31 (.tmp 3) rfl c3 0 32 _ rfl Hc3.out.range Tryd.underlying31 rfl inf31) ?_
  simp only [zp0, zp1, zp2, zp3]
  refine wpList_run rfl (.agg (row 24 (hdv h)).toArray) (xload 37 (.tmp 4) rfl c4 0 24 _ rfl Hc4.out.range Tryd.underlying37 rfl inf37) ?_
  simp only [zp0, zp1, zp2, zp3]
  refine xm [some (.slice (some ⟨x1, 0, none⟩) 512 512)] (by kernel_rfl) (by simp [xr, go_sem]) ?_
  simp only [xw, p0, p1, p2, p3]
  refine wpList_call rfl (by simp [go_sem]) ((rr_yes K h (.slice (some ⟨x1, 0, none⟩) 512 512) 512 (rkF K h g b s H) y4 hB1.out (hC.ext hE.out) (by decide) hk g b s H hs ⟨hm, rfl, fun _ _ => rfl⟩).mono ?_)
  rintro e y9 ⟨rfl, hX9⟩
  refine ⟨_, rfl, ?_⟩
  simp only [zp0, zp1, zp2, zp3]
  replace Hc3 := hideit (Hc3.out.carry hX9)
  replace Hc4 := hideit (Hc4.out.carry hX9)
  replace Hc5 := hideit (Hc5.out.carry hX9)
  replace hE := hideit (Ext.trans hE.out (hX9))
  clear hX9 hB1
  refine xm [some (.tuple #[.agg (row 35 (rtV g b (s : Int) H)).toArray, .int .i64 0]), some (.agg (row 35 (rtV g b (s : Int) H)).toArray), some (.int .i64 0)] (by kernel_rfl) (by simp [xr, go_sem]) ?_
  simp only [xw, p0, p1, p2, p3]
  have A0 := hideit (RowAt.new y9 35 (rtV 0#64 false 0 (fun _ => 0#8)) 39)
  have A1 := hideit (Hc3.out.alloc (.cells (row 35 (rtV 0#64 false 0 (fun _ => 0#8))).toArray 39))
  have A2 := hideit (Hc4.out.alloc (.cells (row 35 (rtV 0#64 false 0 (fun _ => 0#8))).toArray 39))
  have A3 := hideit (Hc5.out.alloc (.cells (row 35 (rtV 0#64 false 0 (fun _ => 0#8))).toArray 39))
  have AE := hideit (Below.alloc hE.out (Below.size hE.out) (.cells (row 35 (rtV 0#64 false 0 (fun _ => 0#8))).toArray 39))
  have AB := hideit (Below.size hE.out)
  have D0 : Hid (c3 ≠ y9.heap.size) := Nat.ne_of_lt Hc3.out.2.2
  have D1 : Hid (c4 ≠ y9.heap.size) := Nat.ne_of_lt Hc4.out.2.2
  have D2 : Hid (c5 ≠ y9.heap.size) := Nat.ne_of_lt Hc5.out.2.2
  refine wpList_to rfl (.pointer (some ⟨y9.heap.size, 0, none⟩)) (y9.alloc (.cells (row 35 (rtV 0#64 false 0 (fun _ => 0#8))).toArray 39)) (xalloc 39 (row 35 (rtV 0#64 false 0 (fun _ => 0#8))).toArray rfl (zero39 y9)) ?_
  simp only [zp0, zp1, zp2, zp3]
  generalize y9.alloc (.cells (row 35 (rtV 0#64 false 0 (fun _ => 0#8))).toArray 39) = x9 at A0 A1 A2 A3 AE ⊢
  obtain ⟨z8, ez8⟩ : ∃ b, b = y9.heap.size := ⟨_, rfl⟩
  replace AB : Hid (w.heap.size ≤ z8) := by rw [ez8]; exact AB.out
  rw [← ez8] at A0 D0 D1 D2 ⊢
  clear ez8
  have Hz8 := A0
  clear A0
  replace Hc3 := A1
  clear A1
  replace Hc4 := A2
  clear A2
  replace Hc5 := A3
  clear A3
  replace hE := AE
  clear AE
  have ABz8 := AB
  clear AB
  have Dz8_0 := D0
  clear D0
  have Dz8_1 := D1
  clear D1
  have Dz8_2 := D2
  clear D2
  have N0 := hideit (Hz8.out.cells (g' := rtV g b (s : Int) H))
  have N1 := hideit (Hc3.out.cellsOther (Ne.symm (Dz8_0.out)) (row 35 (rtV g b (s : Int) H)) 0)
  have N2 := hideit (Hc4.out.cellsOther (Ne.symm (Dz8_1.out)) (row 35 (rtV g b (s : Int) H)) 0)
  have N3 := hideit (Hc5.out.cellsOther (Ne.symm (Dz8_2.out)) (row 35 (rtV g b (s : Int) H)) 0)
  have NE := hideit (below_setCells z8 (ABz8.out) (row 35 (rtV g b (s : Int) H)) 0 _ hE.out)
  refine xst rfl (x9.setCells z8 0 (row 35 (rtV g b (s : Int) H))) (xstore 39 (.tmp 11) (.tmp 47) rfl z8 35 _ (rtV g b (s : Int) H) rfl rfl Hz8.out inf39 (fun j _ => rt_one _ _ _ _ j)) ?_
  simp only [Act.put]
  generalize x9.setCells z8 0 (row 35 (rtV g b (s : Int) H)) = x10 at N0 N1 N2 N3 NE ⊢
  replace Hz8 := N0
  replace Hc3 := N1
  replace Hc4 := N2
  replace Hc5 := N3
  replace hE := NE
  clear N0 N1 N2 N3 NE
  refine xm [some (.int .i64 0)] (by kernel_rfl) (by simp [xr, go_sem]) ?_
  simp only [xw, p0, p1, p2, p3]
  go_upto_region 8 with (fail)
  refine wp_region_lit ?_
  refine xm [some (.int .i64 0), some (.bool true), some (.bool true)] (by kernel_rfl) (by simp [xr, go_sem]) ?_
  simp only [xw, p0, p1, p2, p3]
  refine wpList_runW rfl (.agg (row 35 (rtV g b (s : Int) H)).toArray) (xload 39 (.tmp 11) rfl z8 0 35 _ rfl Hz8.out.range Tryd.underlying39 rfl inf39) ?_
  simp only [zp0, zp1, zp2, zp3]
  refine wpList_runW rfl (.agg (row 35 (rtV g b (s : Int) H)).toArray) (xload 39 (.tmp 5) rfl c5 0 35 _ rfl Hc5.out.range Tryd.underlying39 rfl inf39) ?_
  simp only [zp0, zp1, zp2, zp3]
  refine wpList_runW rfl (.bool true) (xcmp .eql 39 39 (.tmp 52) (.tmp 53) rfl _ _ rfl rfl eqG39 true (eqlR g b (s : Int) H _)) ?_
  simp only [zp0, zp1, zp2, zp3]
  refine xm [some (.bool true), some (.bool true)] (by kernel_rfl) (by simp [xr, go_sem]) ?_
  simp only [xw, p0, p1, p2, p3]
  go_wp2
  go_ret
  exact ⟨rfl, hE.out⟩
theorem roots_any (K : Nat → BitVec 8) (h : Hd) (g : BitVec 64) (b : Bool) (s : Int) (H : Nat → BitVec 8) (w : World) (hC : TabC w) : Calls Tryd.prog 4 #[.agg (row 32 (yv K)).toArray, .agg (row 24 (hdv h)).toArray, .agg (row 35 (rtV g b (s) H)).toArray] w fun e w' => e = .returned (.bool true) ∧ Ext w w' := by
  by_cases hk : okH h
  · by_cases hm : mbB h b s = true
    · have hb : 0 ≤ s ∧ s ≤ 1024 := by
        have h0 := hk.1
        unfold okA at h0
        unfold mbB at hm
        cases b
        · rw [if_neg (by decide)] at hm
          have := of_decide_eq_true hm
          omega
        · rw [if_pos rfl] at hm
          have := of_decide_eq_true hm
          omega
      obtain ⟨n, rfl⟩ : ∃ n : Nat, s = (n : Int) := ⟨s.toNat, by omega⟩
      exact roots_ok K h g b n H w hC hk hm (by omega)
    · exact roots_no K h g b s H w hC fun _ => by cases hq : mbB h b s; rfl; exact absurd hq hm
  · exact roots_no K h g b s H w hC fun q => absurd q hk
end Go.Proofs.YtgjabfjkokpkiaaDoor
namespace Go.Proofs.YtgjabfjkokpkiaaDoor
open Go.RowKit Go.BigFrame
set_option linter.unusedVariables false
set_option maxRecDepth 20000
theorem gb_appV {w0 X : World} {n : Nat} {v : Value} {f : Nat → BitVec 8} (ty : TypeId) (h : GB w0 v n f X) (hn9 : 9 ≤ n ∨ ∃ b, v = .slice b 0 0) (xv : Value) (m : Nat) (b : Nat → BitVec 8) (hb : BV xv m b X) (hnm : n + m ≤ 140737488355328) :
    ∃ v' Y, (Builtin.append_ #[22, 22] ty #[v, xv]).run Tryd.prog X = .ok v' Y ∧ GB w0 v' (n + m) (catF f n b) Y ∧ MvS w0.heap.size X Y := by
  obtain ⟨i, z, e1, e2, e3, e4, e5⟩ := elem22.info
  rcases hb with ⟨rfl, rfl⟩ | ⟨ad, c, rfl, _, hl⟩
  · refine ⟨v, X, run_append_owned_none (P := Tryd.prog) X w0.heap.size 22 ty 5 i 1 elem22.slice e1 v n (row n (yv f)) h.1, h.congr rfl fun j hj => by unfold catF; rw [if_pos hj], mvs_ext (Ext.refl X)⟩
  obtain ⟨v', w', h1, h2, h3, _⟩ := run_append_own (P := Tryd.prog) X w0.heap.size 22 ty 5 i z 1 1 elem22.slice e1 e2 e3 e4 e5 (by decide) v n (row n (yv f)) h.1 ad m c (row m (yv b)) (by rw [row_length, Nat.mul_one]) (fun j u hj => by
    obtain ⟨hj', rfl⟩ := row_some hj
    exact hl.1 j hj') (fun u hu => by
    obtain ⟨j, _, rfl⟩ := List.mem_map.1 hu
    rfl) (by unfold maxLen; omega) (by omega) (Below.size h.2)
  refine ⟨v', w', h1, ⟨?_, Below.trans h.2 (below_grown (Below.size h.2) h3 fun k hk => (h.1.lt k hk).1)⟩, h3.os, h3.tape, h3.output, h3.size, fun k hk hB => h3.block k hk fun e => by have := (h.1.lt k e.symm).1; omega, fun k C t mm hk ht => ?_⟩
  · unfold OwnB
    rw [row_append n m (yv f) (yv b) (yv (catF f n b)) (fun j hj => by simp only [yv]; unfold catF; rw [if_pos hj]) (fun j hj => by simp only [yv]; unfold catF; rw [if_neg (by omega), Nat.add_sub_cancel_left])] at h2
    exact h2
  · refine (h3.block k (Array.getElem?_eq_some_iff.1 hk).1 fun e => ?_).trans hk
    rcases h.1.2 with ⟨rfl, _⟩ | ⟨g, cap, cur, rfl, _, hg, hnc, _, hcs, _⟩
    · cases e
    · injection e with e
      subst e
      rw [hg] at hk
      injection hk with hk
      injection hk with q1 q2 q3
      subst q1 q2
      rcases ht with ht | ht
      · exact ht rfl
      · rcases hn9 with hn9 | ⟨b9, hn9⟩
        · omega
        · injection hn9 with _ q4 q5
          omega
theorem mk15_s (B i : Nat) (v : Value) : Cl (MvS B) (mk15 B v) := fun X Y ⟨p, h1, h2, h3⟩ k => ⟨p, h1, h2, k.2.2.2.2.2 p _ _ _ h3 (.inl (by decide))⟩
theorem dc_of {K : Nat → BitVec 8} {h : Hd} {f : Nat → BitVec 8} {g : BitVec 64} {b : Bool} {s : Nat} {H : Nat → BitVec 8} (hs : s < 4294967296) (hi : isRt K h 512 f g b s H) : dcG f = g ∧ dcB f = b ∧ dcS f = s ∧ ∀ j, j < 32 → f (17 + j) = H j := by
  obtain ⟨q1, q2, q3, q4⟩ := rb_parts g b s H
  have hf : ∀ j, j < 49 → f j = rbF g b s H j := fun j hj => (hi.2.2 j (by omega)).trans (rk_rb K h g b s H j hj)
  refine ⟨leN_by g 8 (by omega) (fun j hj => (hf _ (by omega)).trans (q1 j hj)) g.isLt, ?_, ?_, fun j hj => by rw [hf _ (by omega), q4]⟩
  · unfold dcB
    rw [hf 12 (by omega), q2]
    cases b <;> decide
  · unfold dcS
    rw [← (leN_nat _ 4 (by omega)).1, show leN (shF f 13) 4 = n4 s from leN_by _ 4 (by omega) (fun j hj => (hf _ (by omega)).trans (q3 j hj)) (by rw [n4_nat hs]; exact hs), n4_nat hs]
def AG (g : BitVec 64) (b : Bool) (s : Int) (H : Nat → BitVec 8) (c : Int) : Value := .tuple #[.agg (row 35 (rtV g b s H)).toArray, .int .i64 c]
theorem reads_both (K : Nat → BitVec 8) (h : Hd) (v : Value) (l : Nat) (f : Nat → BitVec 8) (w : World) (hV : BV v l f w) (hC : TabC w) (hl : l ≤ 140737488351232) : ∃ g b s H c, (∀ X u, Ext w X → BV u l f X → Calls Tryd.prog 14 #[.agg (row 32 (yv K)).toArray, .agg (row 24 (hdv h)).toArray, u] X fun e w' => e = .returned (AG g b s H c) ∧ Ext X w') ∧ ∀ X, Ext w X → Calls Tryd.prog 15 #[.agg (row 32 (yv K)).toArray, .agg (row 24 (hdv h)).toArray, v] X fun e w' => e = .returned (AG g b s H c) ∧ Ext X w' := by
  obtain ⟨o, k, rfl⟩ := hV.form
  by_cases hk : okH h
  · by_cases h5 : l = 512
    · subst h5
      obtain ⟨a, hk5, hL, rfl⟩ : ∃ a, 512 ≤ k ∧ LieAt a 512 (yv f) w ∧ o = some a := by
        rcases hV with ⟨_, h0⟩ | ⟨a, c, h1, h3, h4⟩
        · omega
        · injection h1 with h1 _ h5
          subst h1 h5
          exact ⟨a, h3, h4, rfl⟩
      by_cases hi : isRt K h 512 f (dcG f) (dcB f) (dcS f) fun j => f (17 + j)
      · refine ⟨dcG f, dcB f, dcS f, fun j => f (17 + j), 0, fun X u hX hu => rr_yes K h u 512 f X hu (hC.ext hX) hl hk _ _ _ _ (dcS_lt f) hi, fun X hX => (rrr_any K h a k f X (LieAt.carry hL hX) hk5 hk).mono ?_⟩
        rintro e w' (⟨_, he, hE⟩ | ⟨hn, _⟩)
        · exact ⟨he, hE⟩
        · exact absurd hi hn
      · refine ⟨0#64, false, 0, fun _ => 0#8, 160, fun X u hX hu => rr_no K h u 512 f X hu (hC.ext hX) hl hk fun g b s H hs hq => hi ?_, fun X hX => (rrr_any K h a k f X (LieAt.carry hL hX) hk5 hk).mono ?_⟩
        · obtain ⟨rfl, rfl, rfl, hH⟩ := dc_of hs hq
          exact ⟨hq.1, rfl, fun j hj => (hq.2.2 j hj).trans (rkF_congr (fun j hj => (hH j hj).symm) j)⟩
        · rintro e w' (⟨hn, _⟩ | ⟨_, he, hE⟩)
          · exact absurd hn hi
          · exact ⟨he, hE⟩
    · exact ⟨0#64, false, 0, fun _ => 0#8, 160, fun X u hX hu => rr_no K h u l f X hu (hC.ext hX) hl hk fun g b s H hs hq => h5 hq.2.1, fun X hX => rrr_len K h o l k X hk (by omega)⟩
  · exact ⟨0#64, false, 0, fun _ => 0#8, 1, fun X u hX hu => rr_bad K h u l f X hu (hC.ext hX) hl hk, fun X hX => rrr_bad K h o l k X hk⟩
set_option maxRecDepth 20000 in
set_option maxHeartbeats 4000000 in
theorem reads_any (K : Nat → BitVec 8) (h : Hd) (v : Value) (l : Nat) (f : Nat → BitVec 8) (w : World) (hV : BV v l f w) (hC : TabC w) (hl : l ≤ 140737488351232) : Calls Tryd.prog 5 #[.agg (row 32 (yv K)).toArray, .agg (row 24 (hdv h)).toArray, v] w fun e w' => e = .returned (.bool true) ∧ Ext w w' := by
  obtain ⟨g, b, s, H, c, hp, hd⟩ := reads_both K h v l f w hV hC hl
  obtain ⟨o, k, rfl⟩ := hV.form
  have hE := hideit (Ext.refl w)
  go_enter Tryd.func5, Tryd.ntmps5
  go_upto_region 0 with (fail)
  refine wp_region_lit ?_
  have A0 := hideit (RowAt.new w 32 (yv K) 31)
  have XB : Ext w (w.alloc (.cells (row 32 (yv K)).toArray 31)) := (Below.refl _ _).alloc (Nat.le_refl _) _
  have AE := hideit (Ext.trans hE.out (XB))
  have AB := hideit (hE.out.size)
  clear XB
  refine wpList_to rfl (.pointer (some ⟨w.heap.size, 0, none⟩)) (w.alloc (.cells (row 32 (yv K)).toArray 31)) (by simp [go_sem]) ?_
  simp only [zp0, zp1, zp2, zp3]
  generalize w.alloc (.cells (row 32 (yv K)).toArray 31) = x1 at A0 AE ⊢
  obtain ⟨c3, ec3⟩ : ∃ b, b = w.heap.size := ⟨_, rfl⟩
  have ABc3 : Hid (w.heap.size ≤ c3) := by rw [ec3]; exact AB.out
  clear AB
  rw [← ec3] at A0  ⊢
  clear ec3
  have Hc3 := A0
  clear A0
  replace hE := AE
  clear AE
  have A0 := hideit (RowAt.new x1 24 (hdv h) 37)
  have XB : Ext x1 (x1.alloc (.cells (row 24 (hdv h)).toArray 37)) := (Below.refl _ _).alloc (Nat.le_refl _) _
  have A1 := hideit (Hc3.out.carry XB)
  have AE := hideit (Ext.trans hE.out (XB))
  have AB := hideit (hE.out.size)
  have D0 : Hid (c3 ≠ x1.heap.size) := Nat.ne_of_lt Hc3.out.2.2
  clear XB
  refine wpList_to rfl (.pointer (some ⟨x1.heap.size, 0, none⟩)) (x1.alloc (.cells (row 24 (hdv h)).toArray 37)) (by simp [go_sem]) ?_
  simp only [zp0, zp1, zp2, zp3]
  generalize x1.alloc (.cells (row 24 (hdv h)).toArray 37) = x2 at A0 A1 AE ⊢
  obtain ⟨c4, ec4⟩ : ∃ b, b = x1.heap.size := ⟨_, rfl⟩
  have ABc4 : Hid (w.heap.size ≤ c4) := by rw [ec4]; exact AB.out
  clear AB
  rw [← ec4] at A0 D0 ⊢
  clear ec4
  have Hc4 := A0
  clear A0
  replace Hc3 := A1
  clear A1
  replace hE := AE
  clear AE
  have Dc4_0 := D0
  clear D0
  refine xm [some (.bool false)] (by kernel_rfl) (by simp [xr, go_sem]) ?_
  simp only [xw, p0, p1, p2, p3]
  obtain ⟨W, hW⟩ : ∃ W, W = x2.drew := ⟨_, rfl⟩
  have hYW : Ext x2 W := by rw [hW]; exact (Ext.refl _).draw
  have hEW := hideit (Ext.trans hE.out hYW)
  have Q3 := hideit (Hc3.out.carry hYW)
  have Q4 := hideit (Hc4.out.carry hYW)
  clear hE hYW Hc3 Hc4
  go_upto_region 1 with (fail)
  refine wp_region_ladj Ext (MvS W.heap.size) (fun X => Ext W X) (fun _ v X => mk15 W.heap.size v X) [] [10] [(0, 0), (0, 1), (0, 3), (1, 2), (1, 4), (1, 5), (0, 6), (0, 7), (0, 8), (2, 9), (1, 10), (0, 11)] (by kernel_rfl) (by kernel_rfl) (by decide +kernel) (by decide +kernel) (by decide +kernel) (by decide +kernel) (fun _ _ h => mvs_ext h) (fun i v => mk15_s _ i v) (fun X => Ext W X) (fun _ h => h) (fun _ _ h k => Ext.trans h k) (by rw [← hW]; exact Ext.refl _) ?_
  refine wpJ_f _ (.agg (row 32 (yv K)).toArray) rfl rfl (fun X hX => xload 31 (.tmp 3) rfl c3 0 32 _ rfl (Q3.out.carry hX).range Tryd.underlying31 rfl inf31) ?_
  simp only [List.getElem_toArray, List.getElem_cons_zero, Act.put, List.setIfInBounds_toArray, List.set_cons_zero, List.set_cons_succ]
  refine wpJ_f _ (.agg (row 24 (hdv h)).toArray) rfl rfl (fun X hX => xload 37 (.tmp 4) rfl c4 0 24 _ rfl (Q4.out.carry hX).range Tryd.underlying37 rfl inf37) ?_
  simp only [zp4, zp5, zp6, zp0, zp1, zp2, zp3]
  refine wpJ_f _ (.slice o l k) rfl rfl (fun X hX => by simp [go_sem]) ?_
  simp only [zp4, zp5, zp6, zp0, zp1, zp2, zp3]
  refine wpJ_to _ rfl rfl fun X hX => ?_
  have hE1 := GB.empty W hX (fun _ => 0#8)
  obtain ⟨b1, hb1'⟩ : ∃ b, b = X.heap.size := ⟨_, rfl⟩
  rw [← hb1'] at hE1
  refine ⟨.slice (some ⟨b1, 0, none⟩) 0 0, X.alloc (.cells #[] 5), by rw [hb1']; simp [go_sem], fun Z => GB W (.slice (some ⟨b1, 0, none⟩) 0 0) 0 (fun _ => 0#8) Z, hE1, .inr (.inr ⟨fun Z hZ => hZ.2, mvs_ext ((Below.refl _ _).alloc (Nat.le_refl _) _), fun _ _ hA k => hA.ext k⟩), ?_⟩
  clear hE1 hb1' hX
  simp only [zp4, zp5, zp6, zp0, zp1, zp2, zp3]
  refine wpJ_to _ rfl rfl fun X hX => ?_
  obtain ⟨v4, Y4, hrun, hG4, hm4⟩ := gb_appV 22 hX (.inr ⟨_, rfl⟩) (.slice o l k) l f (hV.ext (Ext.trans hEW.out hX.2)) (by omega)
  replace hG4 : GB W v4 l f Y4 := hG4.congr (by omega) fun j hj => by unfold catF; rw [if_neg (by omega), Nat.sub_zero]
  refine ⟨v4, Y4, exec_append (.tmp 14) (.tmp 15) 22 22 rfl _ _ _ rfl rfl hrun, fun Z => GB W v4 l f Z, hG4, .inr (.inr ⟨fun Z hZ => hZ.2, hm4, fun _ _ hA k => hA.ext k⟩), ?_⟩
  clear hrun hG4 hm4 hX
  simp only [zp4, zp5, zp6, zp0, zp1, zp2, zp3]
  refine wpJ_call _ rfl rfl (fun X hX => by simp [go_sem]) (fun X hX => (hp X v4 (Ext.trans hEW.out hX.2) hX.bv).mono ?_)
  rintro e5 X5 ⟨rfl, hX5⟩
  refine ⟨_, rfl, fun Z => Ext W Z, Ext.trans hX.2 hX5, .inr (.inr ⟨fun Z hZ => hZ, mvs_ext hX5, fun _ _ hA k => Ext.trans hA k⟩), ?_⟩
  clear hX5 hX
  unfold AG
  simp only [zp4, zp5, zp6, zp0, zp1, zp2, zp3]
  refine wpJ_f _ (.tuple #[.agg (row 35 (rtV g b s H)).toArray, .int .i64 c]) rfl rfl (fun X hX => by simp [go_sem]) ?_
  simp only [zp4, zp5, zp6, zp0, zp1, zp2, zp3]
  refine wpJ_f _ (.agg (row 35 (rtV g b s H)).toArray) rfl rfl (fun X hX => by simp [go_sem]) ?_
  simp only [zp4, zp5, zp6, zp0, zp1, zp2, zp3]
  refine wpJ_f _ (.int .i64 c) rfl rfl (fun X hX => by simp [go_sem]) ?_
  simp only [zp4, zp5, zp6, zp0, zp1, zp2, zp3]
  refine wpJ_m _ rfl rfl (fun X hX => ⟨.pointer (some ⟨X.heap.size, 0, none⟩), X.alloc (.cells (row 35 (rtV 0#64 false 0 (fun _ => 0#8))).toArray 39), xalloc 39 _ rfl (zero39 _), ⟨X.heap.size, rfl, Below.size hX, heap_new _ _ _⟩, (Below.refl _ _).alloc (Nat.le_refl _) _⟩) ?_
  rintro v9 ⟨_, -, p, rfl, -⟩
  simp only [zp4, zp5, zp6, zp0, zp1, zp2, zp3]
  refine wpJ_st _ rfl rfl fun X hX => ?_
  obtain ⟨EX, p', f5, hp5, hm⟩ := hX
  injection f5 with f5
  injection f5 with f5
  injection f5 with f5
  subst f5
  have N0 := hideit ((row_heap hm).cells (g' := rtV g b s H))
  have NE := hideit (below_setCells p hp5 (row 35 (rtV g b s H)) 0 _ EX)
  refine ⟨X.setCells p 0 (row 35 (rtV g b s H)), xstore 39 (.tmp 7) (.tmp 18) rfl p 35 _ (rtV g b s H) rfl rfl (row_heap hm) inf39 (fun j _ => rt_one _ _ _ _ j), fun Y => Y = X.setCells p 0 (row 35 (rtV g b s H)), rfl, .inr (.inl ⟨by simp, fun Z hZ => by rw [hZ]; exact NE.out⟩), ?_⟩
  simp only [List.getElem_toArray, List.getElem_cons_zero, List.getElem_cons_succ, Act.put]
  refine wpJ_f _ (.int .i64 c) rfl rfl (fun X hX => by simp [go_sem]) ?_
  simp only [zp4, zp5, zp6, zp0, zp1, zp2, zp3]
  refine wpJ_nil fun Y hY => ?_
  rw [← hY] at N0 NE
  clear hY hm EX hp5
  have hE := hideit (Ext.trans hEW.out NE.out)
  replace Q3 := hideit (Q3.out.carry NE.out)
  replace Q4 := hideit (Q4.out.carry NE.out)
  have hP := N0
  clear N0 NE hEW
  clear hW
  go_upto_region 2 with (fail)
  refine wp_region_lit ?_
  refine wpList_run rfl (.agg (row 32 (yv K)).toArray) (xload 31 (.tmp 3) rfl c3 0 32 _ rfl Q3.out.range Tryd.underlying31 rfl inf31) ?_
  simp only [zp0, zp1, zp2, zp3]
  refine wpList_run rfl (.agg (row 24 (hdv h)).toArray) (xload 37 (.tmp 4) rfl c4 0 24 _ rfl Q4.out.range Tryd.underlying37 rfl inf37) ?_
  simp only [zp0, zp1, zp2, zp3]
  refine xm [some (.slice o l k)] (by kernel_rfl) (by simp [xr, go_sem]) ?_
  simp only [xw, p0, p1, p2, p3]
  refine wpList_call rfl (by simp [go_sem]) ((hd Y hE.out).mono ?_)
  rintro e y2 ⟨rfl, hX2⟩
  refine ⟨_, rfl, ?_⟩
  simp only [zp0, zp1, zp2, zp3]
  replace Q3 := hideit (Q3.out.carry hX2)
  replace Q4 := hideit (Q4.out.carry hX2)
  replace hP := hideit (hP.out.carry hX2)
  replace hE := hideit (Ext.trans hE.out (hX2))
  clear hX2
  unfold AG
  refine xm [some (.tuple #[.agg (row 35 (rtV g b s H)).toArray, .int .i64 (c)]), some (.agg (row 35 (rtV g b s H)).toArray), some (.int .i64 (c))] (by kernel_rfl) (by simp [xr, go_sem]) ?_
  simp only [xw, p0, p1, p2, p3]
  have A0 := hideit (RowAt.new y2 35 (rtV 0#64 false 0 (fun _ => 0#8)) 39)
  have A1 := hideit (Q3.out.alloc (.cells (row 35 (rtV 0#64 false 0 (fun _ => 0#8))).toArray 39))
  have A2 := hideit (Q4.out.alloc (.cells (row 35 (rtV 0#64 false 0 (fun _ => 0#8))).toArray 39))
  have A3 := hideit (hP.out.alloc (.cells (row 35 (rtV 0#64 false 0 (fun _ => 0#8))).toArray 39))
  have AE := hideit (Below.alloc hE.out (Below.size hE.out) (.cells (row 35 (rtV 0#64 false 0 (fun _ => 0#8))).toArray 39))
  have AB := hideit (Below.size hE.out)
  have D0 : Hid (c3 ≠ y2.heap.size) := Nat.ne_of_lt Q3.out.2.2
  have D1 : Hid (c4 ≠ y2.heap.size) := Nat.ne_of_lt Q4.out.2.2
  have D2 : Hid (p ≠ y2.heap.size) := Nat.ne_of_lt hP.out.2.2
  refine wpList_to rfl (.pointer (some ⟨y2.heap.size, 0, none⟩)) (y2.alloc (.cells (row 35 (rtV 0#64 false 0 (fun _ => 0#8))).toArray 39)) (xalloc 39 (row 35 (rtV 0#64 false 0 (fun _ => 0#8))).toArray rfl (zero39 y2)) ?_
  simp only [zp0, zp1, zp2, zp3]
  generalize y2.alloc (.cells (row 35 (rtV 0#64 false 0 (fun _ => 0#8))).toArray 39) = x4 at A0 A1 A2 A3 AE ⊢
  obtain ⟨z3, ez3⟩ : ∃ b, b = y2.heap.size := ⟨_, rfl⟩
  replace AB : Hid (w.heap.size ≤ z3) := by rw [ez3]; exact AB.out
  rw [← ez3] at A0 D0 D1 D2 ⊢
  clear ez3
  have Hz3 := A0
  clear A0
  replace Q3 := A1
  clear A1
  replace Q4 := A2
  clear A2
  replace hP := A3
  clear A3
  replace hE := AE
  clear AE
  have ABz3 := AB
  clear AB
  have Dz3_0 := D0
  clear D0
  have Dz3_1 := D1
  clear D1
  have Dz3_2 := D2
  clear D2
  have N0 := hideit (Hz3.out.cells (g' := rtV g b s H))
  have N1 := hideit (Q3.out.cellsOther (Ne.symm (Dz3_0.out)) (row 35 (rtV g b s H)) 0)
  have N2 := hideit (Q4.out.cellsOther (Ne.symm (Dz3_1.out)) (row 35 (rtV g b s H)) 0)
  have N3 := hideit (hP.out.cellsOther (Ne.symm (Dz3_2.out)) (row 35 (rtV g b s H)) 0)
  have NE := hideit (below_setCells z3 (ABz3.out) (row 35 (rtV g b s H)) 0 _ hE.out)
  refine xst rfl (x4.setCells z3 0 (row 35 (rtV g b s H))) (xstore 39 (.tmp 9) (.tmp 25) rfl z3 35 _ (rtV g b s H) rfl rfl Hz3.out inf39 (fun j _ => rt_one _ _ _ _ j)) ?_
  simp only [Act.put]
  generalize x4.setCells z3 0 (row 35 (rtV g b s H)) = x5 at N0 N1 N2 N3 NE ⊢
  replace Hz3 := N0
  replace Q3 := N1
  replace Q4 := N2
  replace hP := N3
  replace hE := NE
  clear N0 N1 N2 N3 NE
  refine xm [some (.int .i64 (c))] (by kernel_rfl) (by simp [xr, go_sem]) ?_
  simp only [xw, p0, p1, p2, p3]
  go_upto_region 3 with (fail)
  refine wp_region_lit ?_
  refine wpList_call rfl (by simp [go_sem]) ((lives_any x5 (hC.ext hE.out)).mono ?_)
  rintro e y6 ⟨rfl, hX7⟩
  refine ⟨_, rfl, ?_⟩
  simp only [zp0, zp1, zp2, zp3]
  replace Q3 := hideit (Q3.out.carry hX7)
  replace Q4 := hideit (Q4.out.carry hX7)
  replace hP := hideit (hP.out.carry hX7)
  replace Hz3 := hideit (Hz3.out.carry hX7)
  replace hE := hideit (Ext.trans hE.out (hX7))
  clear hX7
  refine xm [some (.bool true)] (by kernel_rfl) (by simp [xr, go_sem]) ?_
  simp only [xw, p0, p1, p2, p3]
  refine wpList_runW rfl (.agg (row 35 (rtV g b s H)).toArray) (xload 39 (.tmp 7) rfl p 0 35 _ rfl hP.out.range Tryd.underlying39 rfl inf39) ?_
  simp only [zp0, zp1, zp2, zp3]
  refine wpList_runW rfl (.agg (row 35 (rtV g b s H)).toArray) (xload 39 (.tmp 9) rfl z3 0 35 _ rfl Hz3.out.range Tryd.underlying39 rfl inf39) ?_
  simp only [zp0, zp1, zp2, zp3]
  refine wpList_runW rfl (.bool true) (xcmp .eql 39 39 (.tmp 29) (.tmp 30) rfl _ _ rfl rfl eqG39 true (eqlR g b s H _)) ?_
  simp only [zp0, zp1, zp2, zp3]
  refine xm [some (.bool true), some (.bool true), some (.int .i64 (c)), some (.int .i64 (c)), some (.bool true), some (.bool true), some (.bool true)] (by kernel_rfl) (by simp [xr, go_sem]) ?_
  simp only [xw, p0, p1, p2, p3]
  go_wp2
  go_ret
  exact ⟨rfl, hE.out⟩
end Go.Proofs.YtgjabfjkokpkiaaDoor
namespace Go.Proofs.YtgjabfjkokpkiaaDoor
set_option maxRecDepth 100000
open Go.ChangeShapes Go.WideShapes Go.ChangeAt Go.RowKit
theorem arr_cells {H : Type} {enc : TypeId × Value → H} {W : World} {base : Nat} {spare : Nat → Bool} {held : Bool} {n : Nat} {cs : List Value} {x : DataW H × List MemPlace} {t : TypeId} {N : Nat} (hu : Tryd.prog.underlying t = some (.array N 5)) (h : DataW.trod enc Tryd.prog W base spare held n t cs = some x) :
    ∃ f : Nat → BitVec 8, ∀ i, i < N → cs[i]? = some (.int .u8 ((f i).toNat : Int)) := by
  have hc5 : Tryd.prog.cellsOf 5 = 1 := by kernel_rfl
  obtain ⟨xs, m, _, _, _, hxl, hx⟩ := DataW.trod_array hu h
  have hall : ∀ i, i < N → ∃ b : BitVec 8, cs[i]? = some (.int .u8 (b.toNat : Int)) := by
    intro i hi
    have h1 := hx i hi
    rw [List.getElem?_eq_getElem (by omega)] at h1
    obtain ⟨n, e0, _, w0⟩ := DataW.trod_int Tryd.underlying5 h1
    obtain ⟨b, rfl⟩ := of_wf8 w0
    refine ⟨b, ?_⟩
    rw [hc5] at e0
    have h2 : (List.take 1 (List.drop (i * 1) cs))[0]? = some (.int .u8 (b.toNat : Int)) := by rw [e0]; rfl
    simpa [List.getElem?_take, List.getElem?_drop] using h2
  refine ⟨fun i => if h : i < N then (hall i h).choose else 0#8, fun i hi => ?_⟩
  rw [(hall i hi).choose_spec]
  simp only [dif_pos hi]
theorem sub_cells {cs : List Value} {off m i : Nat} (hi : i < m) : ((cs.drop off).take m)[i]? = cs[off + i]? := by
  rw [List.getElem?_take_of_lt hi, List.getElem?_drop]
theorem row_of {cs : List Value} {n : Nat} {g : Nat → Value} (hl : cs.length = n) (h : ∀ i, i < n → cs[i]? = some (g i)) : cs = row n g := by
  apply List.ext_getElem?
  intro i
  by_cases hi : i < n
  · rw [h i hi, row_get n g i hi]
  · rw [List.getElem?_eq_none (by omega), List.getElem?_eq_none (by rw [row_length]; omega)]
theorem okWide_st {P : Program} {w : World} {r : Reach} {base : Nat} {t : TypeId} {v : Value} {fs : Array Field} (ht : P.underlying t = some (.struct fs)) (h : Value.okWide P w r base t v) : ∃ cs, v = .agg cs ∧ cs.size = P.cellsOf t ∧ Row.okWide P w r base t cs := by
  unfold Value.okWide at h
  rw [ht] at h
  exact h
theorem of_wf64 {n : Int} (h : (Lit.int .u64 n).wf = true) : ∃ a : BitVec 64, n = (a.toNat : Int) := by
  have hb := bounds_u64 h
  exact ⟨BitVec.ofNat 64 n.toNat, by rw [BitVec.toNat_ofNat]; omega⟩
theorem trod_st {H : Type} {enc : TypeId × Value → H} {P : Program} {w : World} {base : Nat} {spare : Nat → Bool} {held : Bool} {t : TypeId} {fs : List Field} {fuel : Nat} {cs : List Value} {x : DataW H × List MemPlace} (ht : P.underlying t = some (.struct fs.toArray)) (h : DataW.trod enc P w base spare held fuel t cs = some x) :
    ∃ n, cs.length = P.cellsOf t ∧ ∀ (i : Nat) (f : Field), fs[i]? = some f → ∃ y, DataW.trod enc P w base spare held n f.type ((cs.drop f.offset).take (P.cellsOf f.type)) = some y := by
  obtain ⟨xs, n, _, _, hl, hlen, hf⟩ := DataW.trod_struct ht h
  refine ⟨n, hl, fun i f hi => ?_⟩
  have hi2 : fs.toArray[i]? = some f := by simpa using hi
  have hlt : i < xs.length := by
    have := (List.getElem?_eq_some_iff.1 hi).1
    simp at hlen
    omega
  refine ⟨xs[i], ?_⟩
  rw [hf i f hi2, List.getElem?_eq_getElem hlt]
set_option maxRecDepth 100000 in
theorem pa_cells {H : Type} {enc : TypeId × Value → H} {W : World} {base : Nat} {spare : Nat → Bool} {held : Bool} {n : Nat} {cs : List Value} {x : DataW H × List MemPlace} (h : DataW.trod enc Tryd.prog W base spare held n 34 cs = some x) :
    ∃ a b c, ∀ i, i < 3 → cs[i]? = some (pav a b c i) := by
  have c3 : Tryd.prog.cellsOf 3 = 1 := by kernel_rfl
  obtain ⟨m, hl, hf⟩ := trod_st (fs := [_, _, _]) Tryd.underlying34 h
  have _ := hl
  · obtain ⟨y0, h0⟩ := hf 0 _ rfl
    obtain ⟨y1, h1⟩ := hf 1 _ rfl
    obtain ⟨y2, h2⟩ := hf 2 _ rfl
    simp only [c3] at h0 h1 h2
    obtain ⟨k0, e0, _, _⟩ := DataW.trod_int Tryd.underlying3 h0
    obtain ⟨k1, e1, _, _⟩ := DataW.trod_int Tryd.underlying3 h1
    obtain ⟨k2, e2, _, _⟩ := DataW.trod_int Tryd.underlying3 h2
    refine ⟨k0, k1, k2, fun i hi => ?_⟩
    have q0 := congrArg (·[0]?) e0
    have q1 := congrArg (·[0]?) e1
    have q2 := congrArg (·[0]?) e2
    simp only [sub_cells (show 0 < 1 by decide)] at q0 q1 q2
    rcases (by omega : i = 0 ∨ i = 1 ∨ i = 2) with rfl | rfl | rfl
    · exact q0
    · exact q1
    · exact q2
set_option maxRecDepth 100000 in
theorem head_cells {H : Type} {enc : TypeId × Value → H} {W : World} {base : Nat} {spare : Nat → Bool} {held : Bool} {n : Nat} {cs : List Value} {x : DataW H × List MemPlace} (h : DataW.trod enc Tryd.prog W base spare held n 37 cs = some x) :
    ∃ k : Hd, cs = row 24 (hdv k) := by
  have hC : Tryd.prog.cellsOf 37 = 24 := by kernel_rfl
  have c3 : Tryd.prog.cellsOf 3 = 1 := by kernel_rfl
  have cD : Tryd.prog.cellsOf 32 = 1 := by kernel_rfl
  have cB : Tryd.prog.cellsOf 34 = 3 := by kernel_rfl
  have cC : Tryd.prog.cellsOf 35 = 16 := by kernel_rfl
  obtain ⟨m, hl, hf⟩ := trod_st (fs := [_, _, _, _, _, _, _]) Tryd.underlying37 h
  rw [hC] at hl
  · obtain ⟨y0, h0⟩ := hf 0 _ rfl
    obtain ⟨y1, h1⟩ := hf 1 _ rfl
    obtain ⟨y2, h2⟩ := hf 2 _ rfl
    obtain ⟨y3, h3⟩ := hf 3 _ rfl
    obtain ⟨y4, h4⟩ := hf 4 _ rfl
    obtain ⟨y5, h5⟩ := hf 5 _ rfl
    obtain ⟨y6, h6⟩ := hf 6 _ rfl
    simp only [c3, cD, cB, cC] at h0 h1 h2 h3 h4 h5 h6
    obtain ⟨k0, e0, _, w0⟩ := DataW.trod_int Tryd.underlying32 h0
    obtain ⟨g, rfl⟩ := of_wf64 w0
    obtain ⟨k1, e1, _, _⟩ := DataW.trod_int Tryd.underlying3 h1
    obtain ⟨k2, e2, _, _⟩ := DataW.trod_int Tryd.underlying3 h2
    obtain ⟨k3, e3, _, _⟩ := DataW.trod_int Tryd.underlying3 h3
    obtain ⟨k4, e4, _, _⟩ := DataW.trod_int Tryd.underlying3 h4
    obtain ⟨a, b, c, e5⟩ := pa_cells h5
    obtain ⟨f, e6⟩ := arr_cells Tryd.underlying35 h6
    have q0 := congrArg (·[0]?) e0
    have q1 := congrArg (·[0]?) e1
    have q2 := congrArg (·[0]?) e2
    have q3 := congrArg (·[0]?) e3
    have q4 := congrArg (·[0]?) e4
    have p0 := e5 0 (by decide)
    have p1 := e5 1 (by decide)
    have p2 := e5 2 (by decide)
    simp only [sub_cells (show 0 < 1 by decide), sub_cells (show 0 < 3 by decide), sub_cells (show 1 < 3 by decide), sub_cells (show 2 < 3 by decide)] at q0 q1 q2 q3 q4 p0 p1 p2
    refine ⟨⟨g, k1, k2, k3, k4, a, b, c, f⟩, row_of hl fun i hi => ?_⟩
    by_cases c8 : i < 8
    · rcases (by omega : i = 0 ∨ i = 1 ∨ i = 2 ∨ i = 3 ∨ i = 4 ∨ i = 5 ∨ i = 6 ∨ i = 7) with rfl | rfl | rfl | rfl | rfl | rfl | rfl | rfl
      · exact q0
      · exact q1
      · exact q2
      · exact q3
      · exact q4
      · exact p0
      · exact p1
      · exact p2
    · have := e6 (i - 8) (by omega)
      rw [sub_cells (by omega), show 8 + (i - 8) = i by omega] at this
      rw [this]
      unfold hdv
      rw [if_neg (by omega), if_neg (by omega), if_neg (by omega), if_neg (by omega), if_neg (by omega), if_neg (by omega), if_neg (by omega), if_neg (by omega)]
theorem open_head {H : Type} {enc : TypeId × Value → H} {W : World} {r : Reach} {b0 base : Nat} {spare : Nat → Bool} {held : Bool} {v : Value} {d : DataW H} {p : List MemPlace}
    (hv : Value.okWide Tryd.prog W r b0 37 v) (h : DataW.Trod enc Tryd.prog W base spare held 37 v d p) : ∃ k : Hd, v = .agg (row 24 (hdv k)).toArray := by
  obtain ⟨cs, rfl, _, _⟩ := okWide_st Tryd.underlying37 hv
  obtain ⟨fuel, hf⟩ := h
  obtain ⟨k, e⟩ := head_cells hf
  refine ⟨k, ?_⟩
  rw [← e]
  simp [Value.cells]
set_option maxRecDepth 100000 in
theorem root_cells {H : Type} {enc : TypeId × Value → H} {W : World} {base : Nat} {spare : Nat → Bool} {held : Bool} {n : Nat} {cs : List Value} {x : DataW H × List MemPlace} (h : DataW.trod enc Tryd.prog W base spare held n 39 cs = some x) :
    ∃ g b s T, cs = row 35 (rtV g b s T) := by
  have hC : Tryd.prog.cellsOf 39 = 35 := by kernel_rfl
  have c3 : Tryd.prog.cellsOf 3 = 1 := by kernel_rfl
  have c4 : Tryd.prog.cellsOf 4 = 1 := by kernel_rfl
  have c32 : Tryd.prog.cellsOf 32 = 1 := by kernel_rfl
  have c31 : Tryd.prog.cellsOf 31 = 32 := by kernel_rfl
  obtain ⟨m, hl, hf⟩ := trod_st (fs := [_, _, _, _]) Tryd.underlying39 h
  rw [hC] at hl
  obtain ⟨y0, h0⟩ := hf 0 _ rfl
  obtain ⟨y1, h1⟩ := hf 1 _ rfl
  obtain ⟨y2, h2⟩ := hf 2 _ rfl
  obtain ⟨y3, h3⟩ := hf 3 _ rfl
  simp only [c3, c4, c32, c31] at h0 h1 h2 h3
  obtain ⟨k0, e0, _, w0⟩ := DataW.trod_int Tryd.underlying32 h0
  obtain ⟨g, rfl⟩ := of_wf64 w0
  obtain ⟨k1, e1, _⟩ := DataW.trod_bool Tryd.underlying4 h1
  obtain ⟨k2, e2, _, _⟩ := DataW.trod_int Tryd.underlying3 h2
  obtain ⟨f, e3⟩ := arr_cells Tryd.underlying31 h3
  have q0 := congrArg (·[0]?) e0
  have q1 := congrArg (·[0]?) e1
  have q2 := congrArg (·[0]?) e2
  simp only [sub_cells (show 0 < 1 by decide)] at q0 q1 q2
  refine ⟨g, k1, k2, f, row_of hl fun i hi => ?_⟩
  by_cases c8 : i < 3
  · rcases (by omega : i = 0 ∨ i = 1 ∨ i = 2) with rfl | rfl | rfl
    · exact q0
    · exact q1
    · exact q2
  · have := e3 (i - 3) (by omega)
    rw [sub_cells (by omega), show 3 + (i - 3) = i by omega] at this
    rw [this]
    unfold rtV
    rw [if_neg (by omega), if_neg (by omega), if_neg (by omega)]
    rfl
theorem open_root {H : Type} {enc : TypeId × Value → H} {W : World} {r : Reach} {b0 base : Nat} {spare : Nat → Bool} {held : Bool} {v : Value} {d : DataW H} {p : List MemPlace}
    (hv : Value.okWide Tryd.prog W r b0 39 v) (h : DataW.Trod enc Tryd.prog W base spare held 39 v d p) : ∃ g b s T, v = .agg (row 35 (rtV g b s T)).toArray := by
  obtain ⟨cs, rfl, _, _⟩ := okWide_st Tryd.underlying39 hv
  obtain ⟨fuel, hf⟩ := h
  obtain ⟨g, b, s, T, e⟩ := root_cells hf
  refine ⟨g, b, s, T, ?_⟩
  rw [← e]
  simp [Value.cells]
theorem open_arru8_32 {H : Type} {enc : TypeId × Value → H} {W : World} {r : Reach} {b0 base : Nat} {spare : Nat → Bool} {held : Bool} {v : Value} {d : DataW H} {p : List MemPlace}
    (hv : Value.okWide Tryd.prog W r b0 31 v) (h : DataW.Trod enc Tryd.prog W base spare held 31 v d p) : ∃ f : Nat → BitVec 8, v = .agg (row 32 (yv f)).toArray := open_arr Tryd.underlying31 (by kernel_rfl) hv h
end Go.Proofs.YtgjabfjkokpkiaaDoor
