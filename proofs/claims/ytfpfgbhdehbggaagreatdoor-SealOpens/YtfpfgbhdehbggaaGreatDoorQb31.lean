/-
  A record's epoch, the program's and the document's; what may be sealed. Bytes of one's own that grow. A region that draws its order, told as in LadM; classes need to stand the moves of makers alone, what makers have made must stand all moves; no word of the program.
-/
import Derived.Test.YtfpfgbhdehbggaaGreatDoorQb1
import Derived.Test.YtfpfgbhdehbggaaGreatDoorQb30
import Derived.Test.YtfpfgbhdehbggaaGreatDoorQb9
import Derived.Test.YtfpfgbhdehbggaaGreatDoorQb15
import Derived.Test.YtfpfgbhdehbggaaGreatDoorQb14
import Derived.Test.YtfpfgbhdehbggaaGreatDoorQb12
import Derived.Test.YtfpfgbhdehbggaaGreatDoorQb5
import Derived.Test.YtfpfgbhdehbggaaGreatDoorQb13
import Derived.Test.YtfpfgbhdehbggaaGreatDoorQb28
namespace Go.Proofs.YtfpfgbhdehbggaaGreatDoor
open Go.RowKit Go.BigFrame
set_option linter.unusedVariables false
set_option maxRecDepth 20000
def eqN (n : Nat) (f g : Nat → BitVec 8) : Bool := decide (∀ j, j < n → f j = g j)
theorem eqN_iff {n : Nat} {f g : Nat → BitVec 8} : eqN n f g = true ↔ ∀ j, j < n → f j = g j := decide_eq_true_iff
theorem neq26 (f g : Nat → BitVec 8) (r : Bool) (hr : r = true ↔ ∀ j, j < 64 → f j = g j) (w : World) : (binOp .neq 26 (.agg (row 64 (yv f)).toArray) (.agg (row 64 (yv g)).toArray)).run Tryz.prog w = .ok (.bool (!r)) w := by
  have e := equalIn_row (P := Tryz.prog) 9998 26 5 64 .u8 Tryz.underlying26 Tryz.underlying5 Tryz.sizeOf5 (fun j => ((f j).toNat : Int)) (fun j => ((g j).toNat : Int)) w
  have e2 : ((List.range 64).all fun j => ((f j).toNat : Int) == ((g j).toNat : Int)) = r := by rw [Bool.eq_iff_iff, hr, all_iff, decide_eq_true_iff]
  rw [e2] at e
  rw [run_neq_struct]
  show ((Op.equalIn (9998 + 2) 26 (.agg (row 64 fun j => .int .u8 ((f j).toNat : Int)).toArray) (.agg (row 64 fun j => .int .u8 ((g j).toNat : Int)).toArray)).run Tryz.prog w).andThen _ = _
  rw [e]
  rfl
theorem eqG26 : Tryz.prog.eqGuardType Tryz.prog.depth 26 = false := by kernel_rfl
theorem nK_or (f : Nat → BitVec 8) (i : Nat) (hi : i < 4) : bits .or .i64 ((leS f i : Nat) : Int) (((f i).toNat * 2 ^ (8 * i) : Nat) : Int) = ((leS f (i + 1) : Nat) : Int) := by
  have h1 := (leN_nat f i (by omega)).2
  have h2 := (f i).isLt
  have hp : 2 ^ (8 * (i + 1)) = 256 * 2 ^ (8 * i) := by rw [show 8 * (i + 1) = 8 + 8 * i by omega, Nat.pow_add]
  have h5 : (f i).toNat * 2 ^ (8 * i) < 2 ^ (8 * (i + 1)) := by rw [hp]; exact Nat.mul_lt_mul_of_pos_right h2 (Nat.two_pow_pos _)
  have h6 : 2 ^ (8 * (i + 1)) ≤ 2 ^ 32 := Nat.pow_le_pow_right (by decide) (by omega)
  have h7 : 2 ^ (8 * i) ≤ 2 ^ 32 := Nat.pow_le_pow_right (by decide) (by omega)
  rw [or_nat _ _ (by omega) (by omega)]
  show _ = ((leS f i + (f i).toNat * 2 ^ (8 * i) : Nat) : Int)
  congr 1
  rw [Nat.or_comm, Nat.mul_comm, ← Nat.two_pow_add_eq_or_of_lt h1, Nat.add_comm]
def epC (R : Nat → BitVec 8) : Int := if (leN R 4).toNat = 0 then (if eqN 64 R (fun _ => 0#8) = true then 0 else 160) else 0
set_option maxRecDepth 20000 in
set_option maxHeartbeats 4000000 in
theorem ep_zyes (R : Nat → BitVec 8) (w : World) (h0 : ((leN R 4).toNat : Int) = 0) (hq0 : ∀ j, j < 64 → R j = 0#8) : Calls Tryz.prog 11 #[.agg (row 64 (yv R)).toArray] w fun e w' => e = .returned (.tuple #[.int .i64 ((leN R 4).toNat : Int), .int .i64 0]) ∧ Ext w w' := by
  have hcv : IntKind.i64.wrap ((leN R 4).toNat : Int) = ((leN R 4).toNat : Int) := by have := leN4 R; rw [IntKind.wrap_i64]; omega
  have hq : true = true ↔ ∀ j, j < 64 → R j = 0#8 := ⟨fun _ => hq0, fun _ => rfl⟩
  clear hq0
  have hE := hideit (Ext.refl w)
  go_enter Tryz.func11, Tryz.ntmps11
  go_upto_region 0 with (fail)
  refine wp_region_lit ?_
  have A0 := hideit (RowAt.new w 64 (yv R) 26)
  have XB : Ext w (w.alloc (.cells (row 64 (yv R)).toArray 26)) := (Below.refl _ _).alloc (Nat.le_refl _) _
  have AE := hideit (Ext.trans hE.out (XB))
  have AB := hideit (hE.out.size)
  clear XB
  refine wpList_to rfl (.pointer (some ⟨w.heap.size, 0, none⟩)) (w.alloc (.cells (row 64 (yv R)).toArray 26)) (by simp [go_sem]) ?_
  simp only [zp0, zp1, zp2, zp3]
  generalize w.alloc (.cells (row 64 (yv R)).toArray 26) = x1 at A0 AE ⊢
  obtain ⟨c1, ec1⟩ : ∃ b, b = w.heap.size := ⟨_, rfl⟩
  have ABc1 : Hid (w.heap.size ≤ c1) := by rw [ec1]; exact AB.out
  clear AB
  rw [← ec1] at A0  ⊢
  clear ec1
  have Hc1 := A0
  clear A0
  replace hE := AE
  clear AE
  refine xm [some (.int .i64 0), some (.int .i64 0)] (by kernel_rfl) (by simp [xr, go_sem]) ?_
  simp only [xw, p0, p1, p2, p3]
  go_upto_region 1 with (fail)
  refine wp_region_lit ?_
  refine xm [some (.slice (some ⟨c1, 0, none⟩) 64 64)] (by kernel_rfl) (by simp [xr, go_sem]) ?_
  simp only [xw, p0, p1, p2, p3]
  have hE0 := hE
  have hlt1 := hideit Hc1.out.2.2
  refine wpList_call rfl (by simp [go_sem]) ((newr_any (.slice (some ⟨c1, 0, none⟩) 64 64) 64 R x1 (.inr ⟨_, 64, rfl, by decide, RowAt.lie Hc1.out 64 (by decide)⟩) (by decide)).mono ?_)
  rintro e y1 ⟨c, rfl, hlc, hR, hX1⟩
  refine ⟨_, rfl, ?_⟩
  simp only [zp0, zp1, zp2, zp3]
  replace Hc1 := hideit (Hc1.out.carry hX1)
  replace hE := hideit (Ext.trans hE.out (hX1))
  replace hR := hideit hR
  have hc1c := hideit (Nat.lt_of_lt_of_le (show c1 < _ from hlt1.out) hlc)
  clear hX1
  replace hlc := hideit (Nat.le_trans (Below.size hE0.out) hlc)
  refine wpList_call rfl (by simp [go_sem]) ((ruint_ok _ c 64 4 R y1 hR.out (by decide) (by decide) (by decide)).mono ?_)
  rintro e y2 ⟨rfl, hR2, hB2⟩
  refine ⟨_, rfl, ?_⟩
  simp only [zp0, zp1, zp2, zp3]
  have hE2 : Hid (Ext w y2) := Ext.but hE.out hB2 hlc.out
  replace Hc1 := hideit (Hc1.out.but hB2 (by have := hc1c.out; omega))
  clear hR2 hB2 hR hE
  refine xm [some (.int .i64 ((leN R 4).toNat : Int)), some (.int .i64 ((leN R 4).toNat : Int))] (by kernel_rfl) (by simp [xr, go_sem, hcv]) ?_
  simp only [xw, p0, p1, p2, p3]
  go_upto_region 2 with (fail)
  refine wp_region_lit ?_
  refine xm [some (.int .i64 ((leN R 4).toNat : Int)), some (.bool true), some (.bool true)] (by kernel_rfl) (by simp [xr, go_sem, h0]) ?_
  simp only [xw, p0, p1, p2, p3]
  refine wpList_runW rfl (.agg (row 64 (yv R)).toArray) (xload 26 (.tmp 1) rfl c1 0 64 _ rfl Hc1.out.range Tryz.underlying26 rfl inf23) ?_
  simp only [zp0, zp1, zp2, zp3]
  refine wpList_runW rfl (.agg (row 64 (yv fun _ => 0#8)).toArray) (xbuild 26 [] rfl _ (build26 _)) ?_
  simp only [zp0, zp1, zp2, zp3]
  refine wpList_runW rfl (.bool false) (xcmp .neq 26 26 (.tmp 12) (.tmp 13) rfl _ _ rfl rfl eqG26 false (neq26 (R) (fun _ => 0#8) true hq _)) ?_
  simp only [zp0, zp1, zp2, zp3]
  refine xm [some (.bool false)] (by kernel_rfl) (by simp [xr, go_sem]) ?_
  simp only [xw, p0, p1, p2, p3]
  go_upto_region 4 with (fail)
  refine wp_region_lit ?_
  refine xm [some (.int .i64 ((leN R 4).toNat : Int)), some (.int .i64 ((leN R 4).toNat : Int)), some (.int .i64 0)] (by kernel_rfl) (by simp [xr, go_sem]) ?_
  simp only [xw, p0, p1, p2, p3]
  go_wp2
  refine bodyPost_ret (res2 rfl _ _ _) rfl ?_
  exact ⟨by first | rfl | (rw [h0]; rfl), hE2.out⟩
set_option maxRecDepth 20000 in
set_option maxHeartbeats 4000000 in
theorem ep_zno (R : Nat → BitVec 8) (w : World) (h0 : ((leN R 4).toNat : Int) = 0) (hq0 : ¬ ∀ j, j < 64 → R j = 0#8) : Calls Tryz.prog 11 #[.agg (row 64 (yv R)).toArray] w fun e w' => e = .returned (.tuple #[.int .i64 ((leN R 4).toNat : Int), .int .i64 160]) ∧ Ext w w' := by
  have hcv : IntKind.i64.wrap ((leN R 4).toNat : Int) = ((leN R 4).toNat : Int) := by have := leN4 R; rw [IntKind.wrap_i64]; omega
  have hq : false = true ↔ ∀ j, j < 64 → R j = 0#8 := ⟨fun x => Bool.noConfusion x, fun x => (hq0 x).elim⟩
  clear hq0
  have hE := hideit (Ext.refl w)
  go_enter Tryz.func11, Tryz.ntmps11
  go_upto_region 0 with (fail)
  refine wp_region_lit ?_
  have A0 := hideit (RowAt.new w 64 (yv R) 26)
  have XB : Ext w (w.alloc (.cells (row 64 (yv R)).toArray 26)) := (Below.refl _ _).alloc (Nat.le_refl _) _
  have AE := hideit (Ext.trans hE.out (XB))
  have AB := hideit (hE.out.size)
  clear XB
  refine wpList_to rfl (.pointer (some ⟨w.heap.size, 0, none⟩)) (w.alloc (.cells (row 64 (yv R)).toArray 26)) (by simp [go_sem]) ?_
  simp only [zp0, zp1, zp2, zp3]
  generalize w.alloc (.cells (row 64 (yv R)).toArray 26) = x1 at A0 AE ⊢
  obtain ⟨c1, ec1⟩ : ∃ b, b = w.heap.size := ⟨_, rfl⟩
  have ABc1 : Hid (w.heap.size ≤ c1) := by rw [ec1]; exact AB.out
  clear AB
  rw [← ec1] at A0  ⊢
  clear ec1
  have Hc1 := A0
  clear A0
  replace hE := AE
  clear AE
  refine xm [some (.int .i64 0), some (.int .i64 0)] (by kernel_rfl) (by simp [xr, go_sem]) ?_
  simp only [xw, p0, p1, p2, p3]
  go_upto_region 1 with (fail)
  refine wp_region_lit ?_
  refine xm [some (.slice (some ⟨c1, 0, none⟩) 64 64)] (by kernel_rfl) (by simp [xr, go_sem]) ?_
  simp only [xw, p0, p1, p2, p3]
  have hE0 := hE
  have hlt1 := hideit Hc1.out.2.2
  refine wpList_call rfl (by simp [go_sem]) ((newr_any (.slice (some ⟨c1, 0, none⟩) 64 64) 64 R x1 (.inr ⟨_, 64, rfl, by decide, RowAt.lie Hc1.out 64 (by decide)⟩) (by decide)).mono ?_)
  rintro e y1 ⟨c, rfl, hlc, hR, hX1⟩
  refine ⟨_, rfl, ?_⟩
  simp only [zp0, zp1, zp2, zp3]
  replace Hc1 := hideit (Hc1.out.carry hX1)
  replace hE := hideit (Ext.trans hE.out (hX1))
  replace hR := hideit hR
  have hc1c := hideit (Nat.lt_of_lt_of_le (show c1 < _ from hlt1.out) hlc)
  clear hX1
  replace hlc := hideit (Nat.le_trans (Below.size hE0.out) hlc)
  refine wpList_call rfl (by simp [go_sem]) ((ruint_ok _ c 64 4 R y1 hR.out (by decide) (by decide) (by decide)).mono ?_)
  rintro e y2 ⟨rfl, hR2, hB2⟩
  refine ⟨_, rfl, ?_⟩
  simp only [zp0, zp1, zp2, zp3]
  have hE2 : Hid (Ext w y2) := Ext.but hE.out hB2 hlc.out
  replace Hc1 := hideit (Hc1.out.but hB2 (by have := hc1c.out; omega))
  clear hR2 hB2 hR hE
  refine xm [some (.int .i64 ((leN R 4).toNat : Int)), some (.int .i64 ((leN R 4).toNat : Int))] (by kernel_rfl) (by simp [xr, go_sem, hcv]) ?_
  simp only [xw, p0, p1, p2, p3]
  go_upto_region 2 with (fail)
  refine wp_region_lit ?_
  refine xm [some (.int .i64 ((leN R 4).toNat : Int)), some (.bool true), some (.bool true)] (by kernel_rfl) (by simp [xr, go_sem, h0]) ?_
  simp only [xw, p0, p1, p2, p3]
  refine wpList_runW rfl (.agg (row 64 (yv R)).toArray) (xload 26 (.tmp 1) rfl c1 0 64 _ rfl Hc1.out.range Tryz.underlying26 rfl inf23) ?_
  simp only [zp0, zp1, zp2, zp3]
  refine wpList_runW rfl (.agg (row 64 (yv fun _ => 0#8)).toArray) (xbuild 26 [] rfl _ (build26 _)) ?_
  simp only [zp0, zp1, zp2, zp3]
  refine wpList_runW rfl (.bool true) (xcmp .neq 26 26 (.tmp 12) (.tmp 13) rfl _ _ rfl rfl eqG26 true (neq26 (R) (fun _ => 0#8) false hq _)) ?_
  simp only [zp0, zp1, zp2, zp3]
  refine xm [some (.bool true)] (by kernel_rfl) (by simp [xr, go_sem]) ?_
  simp only [xw, p0, p1, p2, p3]
  go_upto_region 3 with (fail)
  refine wp_region_lit ?_
  refine xm [some (.int .i64 0), some (.int .i64 160)] (by kernel_rfl) (by simp [xr, go_sem]) ?_
  simp only [xw, p0, p1, p2, p3]
  go_wp2
  refine bodyPost_ret (res2 rfl _ _ _) rfl ?_
  exact ⟨by first | rfl | (rw [h0]; rfl), hE2.out⟩
theorem sep_any (R : Nat → BitVec 8) (w : World) : Calls Tryz.prog 11 #[.agg (row 64 (yv R)).toArray] w fun e w' => e = .returned (.tuple #[.int .i64 ((leN R 4).toNat : Int), .int .i64 (epC R)]) ∧ Ext w w' := by
  unfold epC
  by_cases h : (leN R 4).toNat = 0
  · rw [if_pos h]
    by_cases hq : ∀ j, j < 64 → R j = 0#8
    · rw [if_pos (eqN_iff.2 hq)]
      exact ep_zyes R w (by omega) hq
    · rw [if_neg (fun x => hq (eqN_iff.1 x))]
      exact ep_zno R w (by omega) hq
  · rw [if_neg h]
    exact ep_ok R w h
set_option maxRecDepth 20000 in
set_option maxHeartbeats 4000000 in
theorem rep_zyes (R : Nat → BitVec 8) (w : World) (h0 : ((leN R 4).toNat : Int) = 0) (hq0 : ∀ j, j < 64 → R j = 0#8) : Calls Tryz.prog 12 #[.agg (row 64 (yv R)).toArray] w fun e w' => e = .returned (.tuple #[.int .i64 ((leN R 4).toNat : Int), .int .i64 0]) ∧ Ext w w' := by
  have wb0 : Hid (IntKind.i64.wrap ((R 0).toNat : Int) = ((R 0).toNat : Int)) := by have := (R 0).isLt; show IntKind.i64.wrap _ = _; rw [IntKind.wrap_i64]; omega
  have wb1 : Hid (IntKind.i64.wrap ((R 1).toNat : Int) = ((R 1).toNat : Int)) := by have := (R 1).isLt; show IntKind.i64.wrap _ = _; rw [IntKind.wrap_i64]; omega
  have wb2 : Hid (IntKind.i64.wrap ((R 2).toNat : Int) = ((R 2).toNat : Int)) := by have := (R 2).isLt; show IntKind.i64.wrap _ = _; rw [IntKind.wrap_i64]; omega
  have wb3 : Hid (IntKind.i64.wrap ((R 3).toNat : Int) = ((R 3).toNat : Int)) := by have := (R 3).isLt; show IntKind.i64.wrap _ = _; rw [IntKind.wrap_i64]; omega
  have w1 : Hid (IntKind.i64.wrap (((R 1).toNat : Int) * 256) = (((R 1).toNat : Int) * 256)) := by have := (R 1).isLt; show IntKind.i64.wrap _ = _; rw [IntKind.wrap_i64]; omega
  have w2 : Hid (IntKind.i64.wrap (((R 2).toNat : Int) * 65536) = (((R 2).toNat : Int) * 65536)) := by have := (R 2).isLt; show IntKind.i64.wrap _ = _; rw [IntKind.wrap_i64]; omega
  have w3 : Hid (IntKind.i64.wrap (((R 3).toNat : Int) * 16777216) = (((R 3).toNat : Int) * 16777216)) := by have := (R 3).isLt; show IntKind.i64.wrap _ = _; rw [IntKind.wrap_i64]; omega
  have o2 : Hid (bits .or .i64 ((R 0).toNat : Int) (((R 1).toNat : Int) * 256) = ((leS R 2 : Nat) : Int)) := by
    have h := nK_or R 1 (by decide)
    rw [show leS R 1 = (R 0).toNat by show 0 + (R 0).toNat * 2 ^ 0 = _; omega] at h
    exact h
  have o3 : Hid (bits .or .i64 ((leS R 2 : Nat) : Int) (((R 2).toNat : Int) * 65536) = ((leS R 3 : Nat) : Int)) := nK_or R 2 (by decide)
  have o4 : Hid (bits .or .i64 ((leS R 3 : Nat) : Int) (((R 3).toNat : Int) * 16777216) = ((leN R 4).toNat : Int)) := by
    show _ = _
    rw [(leN_nat R 4 (by decide)).1]
    exact nK_or R 3 (by decide)
  have hq : true = true ↔ ∀ j, j < 64 → R j = 0#8 := ⟨fun _ => hq0, fun _ => rfl⟩
  clear hq0
  have hE := hideit (Ext.refl w)
  go_enter Tryz.func12, Tryz.ntmps12
  go_upto_region 0 with (fail)
  refine wp_region_lit ?_
  have A0 := hideit (RowAt.new w 64 (yv R) 26)
  have XB : Ext w (w.alloc (.cells (row 64 (yv R)).toArray 26)) := (Below.refl _ _).alloc (Nat.le_refl _) _
  have AE := hideit (Ext.trans hE.out (XB))
  have AB := hideit (hE.out.size)
  clear XB
  refine wpList_to rfl (.pointer (some ⟨w.heap.size, 0, none⟩)) (w.alloc (.cells (row 64 (yv R)).toArray 26)) (by simp [go_sem]) ?_
  simp only [zp0, zp1, zp2, zp3]
  generalize w.alloc (.cells (row 64 (yv R)).toArray 26) = x1 at A0 AE ⊢
  obtain ⟨c1, ec1⟩ : ∃ b, b = w.heap.size := ⟨_, rfl⟩
  have ABc1 : Hid (w.heap.size ≤ c1) := by rw [ec1]; exact AB.out
  clear AB
  rw [← ec1] at A0  ⊢
  clear ec1
  have Hc1 := A0
  clear A0
  replace hE := AE
  clear AE
  refine xm [some (.int .i64 0), some (.int .i64 0)] (by kernel_rfl) (by simp [xr, go_sem]) ?_
  simp only [xw, p0, p1, p2, p3]
  have e0 : Hid (x1.cell? ⟨c1, 0, none⟩ = some (.int .u8 ((R 0).toNat : Int))) := Hc1.out.1 0 (by decide)
  have e1 : Hid (x1.cell? ⟨c1, 1, none⟩ = some (.int .u8 ((R 1).toNat : Int))) := Hc1.out.1 1 (by decide)
  have e2 : Hid (x1.cell? ⟨c1, 2, none⟩ = some (.int .u8 ((R 2).toNat : Int))) := Hc1.out.1 2 (by decide)
  have e3 : Hid (x1.cell? ⟨c1, 3, none⟩ = some (.int .u8 ((R 3).toNat : Int))) := Hc1.out.1 3 (by decide)
  go_upto_region 1 with (fail)
  refine wp_region_lit ?_
  refine xm [some (.pointer (some ⟨c1, 0, none⟩)), some (.int .u8 ((R 0).toNat : Int)), some (.int .i64 ((R 0).toNat : Int)), some (.pointer (some ⟨c1, 1, none⟩)), some (.int .u8 ((R 1).toNat : Int)), some (.int .i64 ((R 1).toNat : Int)), some (.int .i64 (((R 1).toNat : Int) * 256)), some (.int .i64 ((leS R 2 : Nat) : Int)), some (.pointer (some ⟨c1, 2, none⟩)), some (.int .u8 ((R 2).toNat : Int)), some (.int .i64 ((R 2).toNat : Int)), some (.int .i64 (((R 2).toNat : Int) * 65536)), some (.int .i64 ((leS R 3 : Nat) : Int)), some (.pointer (some ⟨c1, 3, none⟩)), some (.int .u8 ((R 3).toNat : Int)), some (.int .i64 ((R 3).toNat : Int)), some (.int .i64 (((R 3).toNat : Int) * 16777216)), some (.int .i64 ((leN R 4).toNat : Int)), some (.int .i64 ((leN R 4).toNat : Int))] (by kernel_rfl) (by simp [xr, go_sem, addr0, e0.out, wb0.out, e1.out, wb1.out, w1.out, o2.out, e2.out, wb2.out, w2.out, o3.out, e3.out, wb3.out, w3.out, o4.out]) ?_
  simp only [xw, p0, p1, p2, p3]
  go_upto_region 2 with (fail)
  refine wp_region_lit ?_
  refine xm [some (.int .i64 ((leN R 4).toNat : Int)), some (.bool true), some (.bool true)] (by kernel_rfl) (by simp [xr, go_sem, h0]) ?_
  simp only [xw, p0, p1, p2, p3]
  refine wpList_runW rfl (.agg (row 64 (yv R)).toArray) (xload 26 (.tmp 1) rfl c1 0 64 _ rfl Hc1.out.range Tryz.underlying26 rfl inf23) ?_
  simp only [zp0, zp1, zp2, zp3]
  refine wpList_runW rfl (.agg (row 64 (yv fun _ => 0#8)).toArray) (xbuild 26 [] rfl _ (build26 _)) ?_
  simp only [zp0, zp1, zp2, zp3]
  refine wpList_runW rfl (.bool false) (xcmp .neq 26 26 (.tmp 26) (.tmp 27) rfl _ _ rfl rfl eqG26 false (neq26 (R) (fun _ => 0#8) true hq _)) ?_
  simp only [zp0, zp1, zp2, zp3]
  refine xm [some (.bool false)] (by kernel_rfl) (by simp [xr, go_sem]) ?_
  simp only [xw, p0, p1, p2, p3]
  go_upto_region 4 with (fail)
  refine wp_region_lit ?_
  refine xm [some (.int .i64 ((leN R 4).toNat : Int)), some (.int .i64 ((leN R 4).toNat : Int)), some (.int .i64 0)] (by kernel_rfl) (by simp [xr, go_sem]) ?_
  simp only [xw, p0, p1, p2, p3]
  go_wp2
  refine bodyPost_ret (res2 rfl _ _ _) rfl ?_
  exact ⟨by first | rfl | (rw [h0]; rfl), hE.out⟩
set_option maxRecDepth 20000 in
set_option maxHeartbeats 4000000 in
theorem rep_zno (R : Nat → BitVec 8) (w : World) (h0 : ((leN R 4).toNat : Int) = 0) (hq0 : ¬ ∀ j, j < 64 → R j = 0#8) : Calls Tryz.prog 12 #[.agg (row 64 (yv R)).toArray] w fun e w' => e = .returned (.tuple #[.int .i64 ((leN R 4).toNat : Int), .int .i64 160]) ∧ Ext w w' := by
  have wb0 : Hid (IntKind.i64.wrap ((R 0).toNat : Int) = ((R 0).toNat : Int)) := by have := (R 0).isLt; show IntKind.i64.wrap _ = _; rw [IntKind.wrap_i64]; omega
  have wb1 : Hid (IntKind.i64.wrap ((R 1).toNat : Int) = ((R 1).toNat : Int)) := by have := (R 1).isLt; show IntKind.i64.wrap _ = _; rw [IntKind.wrap_i64]; omega
  have wb2 : Hid (IntKind.i64.wrap ((R 2).toNat : Int) = ((R 2).toNat : Int)) := by have := (R 2).isLt; show IntKind.i64.wrap _ = _; rw [IntKind.wrap_i64]; omega
  have wb3 : Hid (IntKind.i64.wrap ((R 3).toNat : Int) = ((R 3).toNat : Int)) := by have := (R 3).isLt; show IntKind.i64.wrap _ = _; rw [IntKind.wrap_i64]; omega
  have w1 : Hid (IntKind.i64.wrap (((R 1).toNat : Int) * 256) = (((R 1).toNat : Int) * 256)) := by have := (R 1).isLt; show IntKind.i64.wrap _ = _; rw [IntKind.wrap_i64]; omega
  have w2 : Hid (IntKind.i64.wrap (((R 2).toNat : Int) * 65536) = (((R 2).toNat : Int) * 65536)) := by have := (R 2).isLt; show IntKind.i64.wrap _ = _; rw [IntKind.wrap_i64]; omega
  have w3 : Hid (IntKind.i64.wrap (((R 3).toNat : Int) * 16777216) = (((R 3).toNat : Int) * 16777216)) := by have := (R 3).isLt; show IntKind.i64.wrap _ = _; rw [IntKind.wrap_i64]; omega
  have o2 : Hid (bits .or .i64 ((R 0).toNat : Int) (((R 1).toNat : Int) * 256) = ((leS R 2 : Nat) : Int)) := by
    have h := nK_or R 1 (by decide)
    rw [show leS R 1 = (R 0).toNat by show 0 + (R 0).toNat * 2 ^ 0 = _; omega] at h
    exact h
  have o3 : Hid (bits .or .i64 ((leS R 2 : Nat) : Int) (((R 2).toNat : Int) * 65536) = ((leS R 3 : Nat) : Int)) := nK_or R 2 (by decide)
  have o4 : Hid (bits .or .i64 ((leS R 3 : Nat) : Int) (((R 3).toNat : Int) * 16777216) = ((leN R 4).toNat : Int)) := by
    show _ = _
    rw [(leN_nat R 4 (by decide)).1]
    exact nK_or R 3 (by decide)
  have hq : false = true ↔ ∀ j, j < 64 → R j = 0#8 := ⟨fun x => Bool.noConfusion x, fun x => (hq0 x).elim⟩
  clear hq0
  have hE := hideit (Ext.refl w)
  go_enter Tryz.func12, Tryz.ntmps12
  go_upto_region 0 with (fail)
  refine wp_region_lit ?_
  have A0 := hideit (RowAt.new w 64 (yv R) 26)
  have XB : Ext w (w.alloc (.cells (row 64 (yv R)).toArray 26)) := (Below.refl _ _).alloc (Nat.le_refl _) _
  have AE := hideit (Ext.trans hE.out (XB))
  have AB := hideit (hE.out.size)
  clear XB
  refine wpList_to rfl (.pointer (some ⟨w.heap.size, 0, none⟩)) (w.alloc (.cells (row 64 (yv R)).toArray 26)) (by simp [go_sem]) ?_
  simp only [zp0, zp1, zp2, zp3]
  generalize w.alloc (.cells (row 64 (yv R)).toArray 26) = x1 at A0 AE ⊢
  obtain ⟨c1, ec1⟩ : ∃ b, b = w.heap.size := ⟨_, rfl⟩
  have ABc1 : Hid (w.heap.size ≤ c1) := by rw [ec1]; exact AB.out
  clear AB
  rw [← ec1] at A0  ⊢
  clear ec1
  have Hc1 := A0
  clear A0
  replace hE := AE
  clear AE
  refine xm [some (.int .i64 0), some (.int .i64 0)] (by kernel_rfl) (by simp [xr, go_sem]) ?_
  simp only [xw, p0, p1, p2, p3]
  have e0 : Hid (x1.cell? ⟨c1, 0, none⟩ = some (.int .u8 ((R 0).toNat : Int))) := Hc1.out.1 0 (by decide)
  have e1 : Hid (x1.cell? ⟨c1, 1, none⟩ = some (.int .u8 ((R 1).toNat : Int))) := Hc1.out.1 1 (by decide)
  have e2 : Hid (x1.cell? ⟨c1, 2, none⟩ = some (.int .u8 ((R 2).toNat : Int))) := Hc1.out.1 2 (by decide)
  have e3 : Hid (x1.cell? ⟨c1, 3, none⟩ = some (.int .u8 ((R 3).toNat : Int))) := Hc1.out.1 3 (by decide)
  go_upto_region 1 with (fail)
  refine wp_region_lit ?_
  refine xm [some (.pointer (some ⟨c1, 0, none⟩)), some (.int .u8 ((R 0).toNat : Int)), some (.int .i64 ((R 0).toNat : Int)), some (.pointer (some ⟨c1, 1, none⟩)), some (.int .u8 ((R 1).toNat : Int)), some (.int .i64 ((R 1).toNat : Int)), some (.int .i64 (((R 1).toNat : Int) * 256)), some (.int .i64 ((leS R 2 : Nat) : Int)), some (.pointer (some ⟨c1, 2, none⟩)), some (.int .u8 ((R 2).toNat : Int)), some (.int .i64 ((R 2).toNat : Int)), some (.int .i64 (((R 2).toNat : Int) * 65536)), some (.int .i64 ((leS R 3 : Nat) : Int)), some (.pointer (some ⟨c1, 3, none⟩)), some (.int .u8 ((R 3).toNat : Int)), some (.int .i64 ((R 3).toNat : Int)), some (.int .i64 (((R 3).toNat : Int) * 16777216)), some (.int .i64 ((leN R 4).toNat : Int)), some (.int .i64 ((leN R 4).toNat : Int))] (by kernel_rfl) (by simp [xr, go_sem, addr0, e0.out, wb0.out, e1.out, wb1.out, w1.out, o2.out, e2.out, wb2.out, w2.out, o3.out, e3.out, wb3.out, w3.out, o4.out]) ?_
  simp only [xw, p0, p1, p2, p3]
  go_upto_region 2 with (fail)
  refine wp_region_lit ?_
  refine xm [some (.int .i64 ((leN R 4).toNat : Int)), some (.bool true), some (.bool true)] (by kernel_rfl) (by simp [xr, go_sem, h0]) ?_
  simp only [xw, p0, p1, p2, p3]
  refine wpList_runW rfl (.agg (row 64 (yv R)).toArray) (xload 26 (.tmp 1) rfl c1 0 64 _ rfl Hc1.out.range Tryz.underlying26 rfl inf23) ?_
  simp only [zp0, zp1, zp2, zp3]
  refine wpList_runW rfl (.agg (row 64 (yv fun _ => 0#8)).toArray) (xbuild 26 [] rfl _ (build26 _)) ?_
  simp only [zp0, zp1, zp2, zp3]
  refine wpList_runW rfl (.bool true) (xcmp .neq 26 26 (.tmp 26) (.tmp 27) rfl _ _ rfl rfl eqG26 true (neq26 (R) (fun _ => 0#8) false hq _)) ?_
  simp only [zp0, zp1, zp2, zp3]
  refine xm [some (.bool true)] (by kernel_rfl) (by simp [xr, go_sem]) ?_
  simp only [xw, p0, p1, p2, p3]
  go_upto_region 3 with (fail)
  refine wp_region_lit ?_
  refine xm [some (.int .i64 0), some (.int .i64 160)] (by kernel_rfl) (by simp [xr, go_sem]) ?_
  simp only [xw, p0, p1, p2, p3]
  go_wp2
  refine bodyPost_ret (res2 rfl _ _ _) rfl ?_
  exact ⟨by first | rfl | (rw [h0]; rfl), hE.out⟩
set_option maxRecDepth 20000 in
set_option maxHeartbeats 4000000 in
theorem rep_ok (R : Nat → BitVec 8) (w : World) (h0n : ¬ (leN R 4).toNat = 0) : Calls Tryz.prog 12 #[.agg (row 64 (yv R)).toArray] w fun e w' => e = .returned (.tuple #[.int .i64 ((leN R 4).toNat : Int), .int .i64 0]) ∧ Ext w w' := by
  have wb0 : Hid (IntKind.i64.wrap ((R 0).toNat : Int) = ((R 0).toNat : Int)) := by have := (R 0).isLt; show IntKind.i64.wrap _ = _; rw [IntKind.wrap_i64]; omega
  have wb1 : Hid (IntKind.i64.wrap ((R 1).toNat : Int) = ((R 1).toNat : Int)) := by have := (R 1).isLt; show IntKind.i64.wrap _ = _; rw [IntKind.wrap_i64]; omega
  have wb2 : Hid (IntKind.i64.wrap ((R 2).toNat : Int) = ((R 2).toNat : Int)) := by have := (R 2).isLt; show IntKind.i64.wrap _ = _; rw [IntKind.wrap_i64]; omega
  have wb3 : Hid (IntKind.i64.wrap ((R 3).toNat : Int) = ((R 3).toNat : Int)) := by have := (R 3).isLt; show IntKind.i64.wrap _ = _; rw [IntKind.wrap_i64]; omega
  have w1 : Hid (IntKind.i64.wrap (((R 1).toNat : Int) * 256) = (((R 1).toNat : Int) * 256)) := by have := (R 1).isLt; show IntKind.i64.wrap _ = _; rw [IntKind.wrap_i64]; omega
  have w2 : Hid (IntKind.i64.wrap (((R 2).toNat : Int) * 65536) = (((R 2).toNat : Int) * 65536)) := by have := (R 2).isLt; show IntKind.i64.wrap _ = _; rw [IntKind.wrap_i64]; omega
  have w3 : Hid (IntKind.i64.wrap (((R 3).toNat : Int) * 16777216) = (((R 3).toNat : Int) * 16777216)) := by have := (R 3).isLt; show IntKind.i64.wrap _ = _; rw [IntKind.wrap_i64]; omega
  have o2 : Hid (bits .or .i64 ((R 0).toNat : Int) (((R 1).toNat : Int) * 256) = ((leS R 2 : Nat) : Int)) := by
    have h := nK_or R 1 (by decide)
    rw [show leS R 1 = (R 0).toNat by show 0 + (R 0).toNat * 2 ^ 0 = _; omega] at h
    exact h
  have o3 : Hid (bits .or .i64 ((leS R 2 : Nat) : Int) (((R 2).toNat : Int) * 65536) = ((leS R 3 : Nat) : Int)) := nK_or R 2 (by decide)
  have o4 : Hid (bits .or .i64 ((leS R 3 : Nat) : Int) (((R 3).toNat : Int) * 16777216) = ((leN R 4).toNat : Int)) := by
    show _ = _
    rw [(leN_nat R 4 (by decide)).1]
    exact nK_or R 3 (by decide)
  have h0 := h0n
  clear h0n
  have hE := hideit (Ext.refl w)
  go_enter Tryz.func12, Tryz.ntmps12
  go_upto_region 0 with (fail)
  refine wp_region_lit ?_
  have A0 := hideit (RowAt.new w 64 (yv R) 26)
  have XB : Ext w (w.alloc (.cells (row 64 (yv R)).toArray 26)) := (Below.refl _ _).alloc (Nat.le_refl _) _
  have AE := hideit (Ext.trans hE.out (XB))
  have AB := hideit (hE.out.size)
  clear XB
  refine wpList_to rfl (.pointer (some ⟨w.heap.size, 0, none⟩)) (w.alloc (.cells (row 64 (yv R)).toArray 26)) (by simp [go_sem]) ?_
  simp only [zp0, zp1, zp2, zp3]
  generalize w.alloc (.cells (row 64 (yv R)).toArray 26) = x1 at A0 AE ⊢
  obtain ⟨c1, ec1⟩ : ∃ b, b = w.heap.size := ⟨_, rfl⟩
  have ABc1 : Hid (w.heap.size ≤ c1) := by rw [ec1]; exact AB.out
  clear AB
  rw [← ec1] at A0  ⊢
  clear ec1
  have Hc1 := A0
  clear A0
  replace hE := AE
  clear AE
  refine xm [some (.int .i64 0), some (.int .i64 0)] (by kernel_rfl) (by simp [xr, go_sem]) ?_
  simp only [xw, p0, p1, p2, p3]
  have e0 : Hid (x1.cell? ⟨c1, 0, none⟩ = some (.int .u8 ((R 0).toNat : Int))) := Hc1.out.1 0 (by decide)
  have e1 : Hid (x1.cell? ⟨c1, 1, none⟩ = some (.int .u8 ((R 1).toNat : Int))) := Hc1.out.1 1 (by decide)
  have e2 : Hid (x1.cell? ⟨c1, 2, none⟩ = some (.int .u8 ((R 2).toNat : Int))) := Hc1.out.1 2 (by decide)
  have e3 : Hid (x1.cell? ⟨c1, 3, none⟩ = some (.int .u8 ((R 3).toNat : Int))) := Hc1.out.1 3 (by decide)
  go_upto_region 1 with (fail)
  refine wp_region_lit ?_
  refine xm [some (.pointer (some ⟨c1, 0, none⟩)), some (.int .u8 ((R 0).toNat : Int)), some (.int .i64 ((R 0).toNat : Int)), some (.pointer (some ⟨c1, 1, none⟩)), some (.int .u8 ((R 1).toNat : Int)), some (.int .i64 ((R 1).toNat : Int)), some (.int .i64 (((R 1).toNat : Int) * 256)), some (.int .i64 ((leS R 2 : Nat) : Int)), some (.pointer (some ⟨c1, 2, none⟩)), some (.int .u8 ((R 2).toNat : Int)), some (.int .i64 ((R 2).toNat : Int)), some (.int .i64 (((R 2).toNat : Int) * 65536)), some (.int .i64 ((leS R 3 : Nat) : Int)), some (.pointer (some ⟨c1, 3, none⟩)), some (.int .u8 ((R 3).toNat : Int)), some (.int .i64 ((R 3).toNat : Int)), some (.int .i64 (((R 3).toNat : Int) * 16777216)), some (.int .i64 ((leN R 4).toNat : Int)), some (.int .i64 ((leN R 4).toNat : Int))] (by kernel_rfl) (by simp [xr, go_sem, addr0, e0.out, wb0.out, e1.out, wb1.out, w1.out, o2.out, e2.out, wb2.out, w2.out, o3.out, e3.out, wb3.out, w3.out, o4.out]) ?_
  simp only [xw, p0, p1, p2, p3]
  go_upto_region 2 with (fail)
  refine wp_region_lit ?_
  refine xm [some (.int .i64 ((leN R 4).toNat : Int)), some (.bool false), some (.bool false), none, none, none, some (.bool false)] (by kernel_rfl) (by simp [xr, go_sem, h0]) ?_
  simp only [xw, p0, p1, p2, p3]
  go_upto_region 4 with (fail)
  refine wp_region_lit ?_
  refine xm [some (.int .i64 ((leN R 4).toNat : Int)), some (.int .i64 ((leN R 4).toNat : Int)), some (.int .i64 0)] (by kernel_rfl) (by simp [xr, go_sem]) ?_
  simp only [xw, p0, p1, p2, p3]
  go_wp2
  refine bodyPost_ret (res2 rfl _ _ _) rfl ?_
  exact ⟨by rfl, hE.out⟩
theorem rep_any (R : Nat → BitVec 8) (w : World) : Calls Tryz.prog 12 #[.agg (row 64 (yv R)).toArray] w fun e w' => e = .returned (.tuple #[.int .i64 ((leN R 4).toNat : Int), .int .i64 (epC R)]) ∧ Ext w w' := by
  unfold epC
  by_cases h : (leN R 4).toNat = 0
  · rw [if_pos h]
    by_cases hq : ∀ j, j < 64 → R j = 0#8
    · rw [if_pos (eqN_iff.2 hq)]
      exact rep_zyes R w (by omega) hq
    · rw [if_neg (fun x => hq (eqN_iff.1 x))]
      exact rep_zno R w (by omega) hq
  · rw [if_neg h]
    exact rep_ok R w h
set_option maxRecDepth 20000 in
set_option maxHeartbeats 4000000 in
theorem right_a (e n : Int) (D T : Nat → BitVec 8) (w : World) (h1 : e < 1) : Calls Tryz.prog 17 #[.agg (row 65 (ekI e D T)).toArray, .int .i64 n] w fun e' w' => e' = .returned (.bool false) ∧ Ext w w' := by
  have hE := hideit (Ext.refl w)
  go_enter Tryz.func17, Tryz.ntmps17
  go_upto_region 0 with (fail)
  refine wp_region_lit ?_
  have A0 := hideit (RowAt.new w 65 (ekI e D T) 24)
  have XB : Ext w (w.alloc (.cells (row 65 (ekI e D T)).toArray 24)) := (Below.refl _ _).alloc (Nat.le_refl _) _
  have AE := hideit (Ext.trans hE.out (XB))
  have AB := hideit (hE.out.size)
  clear XB
  refine wpList_to rfl (.pointer (some ⟨w.heap.size, 0, none⟩)) (w.alloc (.cells (row 65 (ekI e D T)).toArray 24)) (by simp [go_sem]) ?_
  simp only [zp0, zp1, zp2, zp3]
  generalize w.alloc (.cells (row 65 (ekI e D T)).toArray 24) = x1 at A0 AE ⊢
  obtain ⟨c2, ec2⟩ : ∃ b, b = w.heap.size := ⟨_, rfl⟩
  have ABc2 : Hid (w.heap.size ≤ c2) := by rw [ec2]; exact AB.out
  clear AB
  rw [← ec2] at A0  ⊢
  clear ec2
  have Hc2 := A0
  clear A0
  replace hE := AE
  clear AE
  refine xm [some (.bool false)] (by kernel_rfl) (by simp [xr, go_sem]) ?_
  simp only [xw, p0, p1, p2, p3]
  go_upto_region 1 with (fail)
  refine wp_region_lit ?_
  have m2 : x1.cell? ⟨c2, 0, none⟩ = some (.int .i64 (e)) := Hc2.out.1 0 (by decide)
  refine xm [some (.pointer (some ⟨c2, 0, none⟩)), some (.int .i64 (e)), some (.bool false), some (.bool false), none, none, none, some (.bool false), some (.bool false), none, none, some (.bool false), some (.bool false), none, none, some (.bool false), some (.bool false)] (by kernel_rfl) (by simp [xr, go_sem, m2, h1]) ?_
  simp only [xw, p0, p1, p2, p3]
  clear m2
  go_wp2
  go_ret
  exact ⟨rfl, hE.out⟩
set_option maxRecDepth 20000 in
set_option maxHeartbeats 4000000 in
theorem right_b (e n : Int) (D T : Nat → BitVec 8) (w : World) (h1 : 1 ≤ e) (h2 : 4294967295 < e) : Calls Tryz.prog 17 #[.agg (row 65 (ekI e D T)).toArray, .int .i64 n] w fun e' w' => e' = .returned (.bool false) ∧ Ext w w' := by
  have hE := hideit (Ext.refl w)
  go_enter Tryz.func17, Tryz.ntmps17
  go_upto_region 0 with (fail)
  refine wp_region_lit ?_
  have A0 := hideit (RowAt.new w 65 (ekI e D T) 24)
  have XB : Ext w (w.alloc (.cells (row 65 (ekI e D T)).toArray 24)) := (Below.refl _ _).alloc (Nat.le_refl _) _
  have AE := hideit (Ext.trans hE.out (XB))
  have AB := hideit (hE.out.size)
  clear XB
  refine wpList_to rfl (.pointer (some ⟨w.heap.size, 0, none⟩)) (w.alloc (.cells (row 65 (ekI e D T)).toArray 24)) (by simp [go_sem]) ?_
  simp only [zp0, zp1, zp2, zp3]
  generalize w.alloc (.cells (row 65 (ekI e D T)).toArray 24) = x1 at A0 AE ⊢
  obtain ⟨c2, ec2⟩ : ∃ b, b = w.heap.size := ⟨_, rfl⟩
  have ABc2 : Hid (w.heap.size ≤ c2) := by rw [ec2]; exact AB.out
  clear AB
  rw [← ec2] at A0  ⊢
  clear ec2
  have Hc2 := A0
  clear A0
  replace hE := AE
  clear AE
  refine xm [some (.bool false)] (by kernel_rfl) (by simp [xr, go_sem]) ?_
  simp only [xw, p0, p1, p2, p3]
  go_upto_region 1 with (fail)
  refine wp_region_lit ?_
  have m2 : x1.cell? ⟨c2, 0, none⟩ = some (.int .i64 (e)) := Hc2.out.1 0 (by decide)
  refine xm [some (.pointer (some ⟨c2, 0, none⟩)), some (.int .i64 (e)), some (.bool true), some (.bool true), some (.pointer (some ⟨c2, 0, none⟩)), some (.int .i64 (e)), some (.bool false), some (.bool false), some (.bool false), none, none, some (.bool false), some (.bool false), none, none, some (.bool false), some (.bool false)] (by kernel_rfl) (by simp [xr, go_sem, m2, h1, h2]) ?_
  simp only [xw, p0, p1, p2, p3]
  clear m2
  go_wp2
  go_ret
  exact ⟨rfl, hE.out⟩
set_option maxRecDepth 20000 in
set_option maxHeartbeats 4000000 in
theorem right_c (e n : Int) (D T : Nat → BitVec 8) (w : World) (h1 : 1 ≤ e) (h2 : e ≤ 4294967295) (h3 : n < 0) : Calls Tryz.prog 17 #[.agg (row 65 (ekI e D T)).toArray, .int .i64 n] w fun e' w' => e' = .returned (.bool false) ∧ Ext w w' := by
  have hE := hideit (Ext.refl w)
  go_enter Tryz.func17, Tryz.ntmps17
  go_upto_region 0 with (fail)
  refine wp_region_lit ?_
  have A0 := hideit (RowAt.new w 65 (ekI e D T) 24)
  have XB : Ext w (w.alloc (.cells (row 65 (ekI e D T)).toArray 24)) := (Below.refl _ _).alloc (Nat.le_refl _) _
  have AE := hideit (Ext.trans hE.out (XB))
  have AB := hideit (hE.out.size)
  clear XB
  refine wpList_to rfl (.pointer (some ⟨w.heap.size, 0, none⟩)) (w.alloc (.cells (row 65 (ekI e D T)).toArray 24)) (by simp [go_sem]) ?_
  simp only [zp0, zp1, zp2, zp3]
  generalize w.alloc (.cells (row 65 (ekI e D T)).toArray 24) = x1 at A0 AE ⊢
  obtain ⟨c2, ec2⟩ : ∃ b, b = w.heap.size := ⟨_, rfl⟩
  have ABc2 : Hid (w.heap.size ≤ c2) := by rw [ec2]; exact AB.out
  clear AB
  rw [← ec2] at A0  ⊢
  clear ec2
  have Hc2 := A0
  clear A0
  replace hE := AE
  clear AE
  refine xm [some (.bool false)] (by kernel_rfl) (by simp [xr, go_sem]) ?_
  simp only [xw, p0, p1, p2, p3]
  go_upto_region 1 with (fail)
  refine wp_region_lit ?_
  have m2 : x1.cell? ⟨c2, 0, none⟩ = some (.int .i64 (e)) := Hc2.out.1 0 (by decide)
  refine xm [some (.pointer (some ⟨c2, 0, none⟩)), some (.int .i64 (e)), some (.bool true), some (.bool true), some (.pointer (some ⟨c2, 0, none⟩)), some (.int .i64 (e)), some (.bool true), some (.bool true), some (.bool true), some (.int .i64 (n)), some (.bool false), some (.bool false), some (.bool false), none, none, some (.bool false), some (.bool false)] (by kernel_rfl) (by simp [xr, go_sem, m2, h1, h2, h3]) ?_
  simp only [xw, p0, p1, p2, p3]
  clear m2
  go_wp2
  go_ret
  exact ⟨rfl, hE.out⟩
set_option maxRecDepth 20000 in
set_option maxHeartbeats 4000000 in
theorem right_d (e n : Int) (D T : Nat → BitVec 8) (w : World) (h1 : 1 ≤ e) (h2 : e ≤ 4294967295) (h3 : 0 ≤ n) (h4 : 1024 ≤ n) : Calls Tryz.prog 17 #[.agg (row 65 (ekI e D T)).toArray, .int .i64 n] w fun e' w' => e' = .returned (.bool false) ∧ Ext w w' := by
  have hE := hideit (Ext.refl w)
  go_enter Tryz.func17, Tryz.ntmps17
  go_upto_region 0 with (fail)
  refine wp_region_lit ?_
  have A0 := hideit (RowAt.new w 65 (ekI e D T) 24)
  have XB : Ext w (w.alloc (.cells (row 65 (ekI e D T)).toArray 24)) := (Below.refl _ _).alloc (Nat.le_refl _) _
  have AE := hideit (Ext.trans hE.out (XB))
  have AB := hideit (hE.out.size)
  clear XB
  refine wpList_to rfl (.pointer (some ⟨w.heap.size, 0, none⟩)) (w.alloc (.cells (row 65 (ekI e D T)).toArray 24)) (by simp [go_sem]) ?_
  simp only [zp0, zp1, zp2, zp3]
  generalize w.alloc (.cells (row 65 (ekI e D T)).toArray 24) = x1 at A0 AE ⊢
  obtain ⟨c2, ec2⟩ : ∃ b, b = w.heap.size := ⟨_, rfl⟩
  have ABc2 : Hid (w.heap.size ≤ c2) := by rw [ec2]; exact AB.out
  clear AB
  rw [← ec2] at A0  ⊢
  clear ec2
  have Hc2 := A0
  clear A0
  replace hE := AE
  clear AE
  refine xm [some (.bool false)] (by kernel_rfl) (by simp [xr, go_sem]) ?_
  simp only [xw, p0, p1, p2, p3]
  go_upto_region 1 with (fail)
  refine wp_region_lit ?_
  have m2 : x1.cell? ⟨c2, 0, none⟩ = some (.int .i64 (e)) := Hc2.out.1 0 (by decide)
  refine xm [some (.pointer (some ⟨c2, 0, none⟩)), some (.int .i64 (e)), some (.bool true), some (.bool true), some (.pointer (some ⟨c2, 0, none⟩)), some (.int .i64 (e)), some (.bool true), some (.bool true), some (.bool true), some (.int .i64 (n)), some (.bool true), some (.bool true), some (.bool true), some (.int .i64 (n)), some (.bool false), some (.bool false), some (.bool false)] (by kernel_rfl) (by simp [xr, go_sem, m2, h1, h2, h3, h4]) ?_
  simp only [xw, p0, p1, p2, p3]
  clear m2
  go_wp2
  go_ret
  exact ⟨rfl, hE.out⟩
set_option maxRecDepth 20000 in
set_option maxHeartbeats 4000000 in
theorem right_e (e n : Int) (D T : Nat → BitVec 8) (w : World) (h1 : 1 ≤ e) (h2 : e ≤ 4294967295) (h3 : 0 ≤ n) (h4 : n < 1024) : Calls Tryz.prog 17 #[.agg (row 65 (ekI e D T)).toArray, .int .i64 n] w fun e' w' => e' = .returned (.bool true) ∧ Ext w w' := by
  have hE := hideit (Ext.refl w)
  go_enter Tryz.func17, Tryz.ntmps17
  go_upto_region 0 with (fail)
  refine wp_region_lit ?_
  have A0 := hideit (RowAt.new w 65 (ekI e D T) 24)
  have XB : Ext w (w.alloc (.cells (row 65 (ekI e D T)).toArray 24)) := (Below.refl _ _).alloc (Nat.le_refl _) _
  have AE := hideit (Ext.trans hE.out (XB))
  have AB := hideit (hE.out.size)
  clear XB
  refine wpList_to rfl (.pointer (some ⟨w.heap.size, 0, none⟩)) (w.alloc (.cells (row 65 (ekI e D T)).toArray 24)) (by simp [go_sem]) ?_
  simp only [zp0, zp1, zp2, zp3]
  generalize w.alloc (.cells (row 65 (ekI e D T)).toArray 24) = x1 at A0 AE ⊢
  obtain ⟨c2, ec2⟩ : ∃ b, b = w.heap.size := ⟨_, rfl⟩
  have ABc2 : Hid (w.heap.size ≤ c2) := by rw [ec2]; exact AB.out
  clear AB
  rw [← ec2] at A0  ⊢
  clear ec2
  have Hc2 := A0
  clear A0
  replace hE := AE
  clear AE
  refine xm [some (.bool false)] (by kernel_rfl) (by simp [xr, go_sem]) ?_
  simp only [xw, p0, p1, p2, p3]
  go_upto_region 1 with (fail)
  refine wp_region_lit ?_
  have m2 : x1.cell? ⟨c2, 0, none⟩ = some (.int .i64 (e)) := Hc2.out.1 0 (by decide)
  refine xm [some (.pointer (some ⟨c2, 0, none⟩)), some (.int .i64 (e)), some (.bool true), some (.bool true), some (.pointer (some ⟨c2, 0, none⟩)), some (.int .i64 (e)), some (.bool true), some (.bool true), some (.bool true), some (.int .i64 (n)), some (.bool true), some (.bool true), some (.bool true), some (.int .i64 (n)), some (.bool true), some (.bool true), some (.bool true)] (by kernel_rfl) (by simp [xr, go_sem, m2, h1, h2, h3, h4]) ?_
  simp only [xw, p0, p1, p2, p3]
  clear m2
  go_wp2
  go_ret
  exact ⟨rfl, hE.out⟩
theorem sright_any (e n : Int) (D T : Nat → BitVec 8) (w : World) : Calls Tryz.prog 17 #[.agg (row 65 (ekI e D T)).toArray, .int .i64 n] w fun e' w' => e' = .returned (.bool (decide (okK e n))) ∧ Ext w w' := by
  by_cases h1 : e < 1
  · rw [show decide (okK e n) = false from decide_eq_false (by unfold okK; omega)]
    exact right_a e n D T w h1
  by_cases h2 : 4294967295 < e
  · rw [show decide (okK e n) = false from decide_eq_false (by unfold okK; omega)]
    exact right_b e n D T w (by omega) h2
  by_cases h3 : n < 0
  · rw [show decide (okK e n) = false from decide_eq_false (by unfold okK; omega)]
    exact right_c e n D T w (by omega) (by omega) h3
  by_cases h4 : 1024 ≤ n
  · rw [show decide (okK e n) = false from decide_eq_false (by unfold okK; omega)]
    exact right_d e n D T w (by omega) (by omega) (by omega) h4
  rw [show decide (okK e n) = true from decide_eq_true (by unfold okK; omega)]
  exact right_e e n D T w (by omega) (by omega) (by omega) (by omega)
end Go.Proofs.YtfpfgbhdehbggaaGreatDoor
namespace Go.Proofs.YtfpfgbhdehbggaaGreatDoor
open Go.RowKit Go.BigFrame
set_option linter.unusedVariables false
set_option maxRecDepth 20000
def GB (w0 : World) (v : Value) (n : Nat) (f : Nat → BitVec 8) (X : World) : Prop := OwnB w0.heap.size 5 v n (yv f) X ∧ Ext w0 X
theorem GB.ext {w0 : World} {v : Value} {n : Nat} {f : Nat → BitVec 8} {X Y : World} (h : GB w0 v n f X) (k : Ext X Y) : GB w0 v n f Y := ⟨h.1.ext k, Ext.trans h.2 k⟩
theorem GB.bv {w0 : World} {v : Value} {n : Nat} {f : Nat → BitVec 8} {X : World} (h : GB w0 v n f X) : BV v n f X := h.1.bv
theorem GB.form {w0 : World} {v : Value} {n : Nat} {f : Nat → BitVec 8} {X : World} (h : GB w0 v n f X) : ∃ o c, v = .slice o n c := h.1.bv.form
theorem GB.congr {w0 : World} {v : Value} {n m : Nat} {f g : Nat → BitVec 8} {X : World} (h : GB w0 v n f X) (hn : n = m) (e : ∀ j, j < n → f j = g j) : GB w0 v m g X := by
  subst hn
  exact ⟨h.1.congr fun j hj => by simp only [yv, e j hj], h.2⟩
theorem GB.nil (w0 : World) {X : World} (h : Ext w0 X) (f : Nat → BitVec 8) : GB w0 (.slice none 0 0) 0 f X := ⟨own_nil _ _ _ _, h⟩
theorem GB.empty (w0 : World) {X : World} (h : Ext w0 X) (f : Nat → BitVec 8) : GB w0 (.slice (some ⟨X.heap.size, 0, none⟩) 0 0) 0 f (X.alloc (.cells #[] 5)) := ⟨own_empty X _ 5 _ (Below.size h), Below.alloc h (Below.size h) _⟩
theorem GB.of {w0 : World} {v : Value} {n : Nat} {f : Nat → BitVec 8} {X Y : World} (h : Ext w0 X) (hO : OwnB X.heap.size 5 v n (yv f) Y) (k : Ext X Y) : GB w0 v n f Y := ⟨hO.down (Below.size h), Ext.trans h k⟩
theorem wpList_gb {ops : Array Oper} {rest : List Oper} {o : Oper} {a : Act} {Q : Exit → Act → World → Prop} {w0 X : World} {v : Value} {n : Nat} {f : Nat → BitVec 8} (hgd : o.guard = none) (s x : Operand)
    (ho : o.op = .call { callee := .builtin .append, args := #[s, x], argTypes := #[25, 25] }) (hs : a.eval s = v) (hG : GB w0 v n f X) (xv : Value) (l : Nat) (b : Nat → BitVec 8) (hx : a.eval x = xv) (hb : BV xv l b X) (hn : n + l ≤ 140737488355328)
    (h : ∀ v' X', GB w0 v' (n + l) (catF f n b) X' → wpList Tryz.prog ops Q rest (a.put o.dst v') X') : wpList Tryz.prog ops Q (o :: rest) a X := by
  refine wpList_growV (n := n) (base := w0.heap.size) elem22 hgd s x ho hs hG.1 xv l b (yv (catF f n b)) hx hb (fun j hj => by simp only [catF, yv, if_pos hj]) (fun j hj => by simp only [catF, yv, if_neg (show ¬ n + j < n by omega), Nat.add_sub_cancel_left]) hn (Below.size hG.2) ?_
  intro v' X' hO hg
  exact h v' X' ⟨hO, Below.trans hG.2 (below_grown (Below.size hG.2) hg fun k hk => (hG.1.lt k hk).1)⟩
theorem BV.congr {v : Value} {l : Nat} {f g : Nat → BitVec 8} {w : World} (h : BV v l f w) (e : ∀ j, j < l → f j = g j) : BV v l g w := by
  rcases h with h | ⟨a, c, h1, h2, h3⟩
  · exact .inl h
  · exact .inr ⟨a, c, h1, h2, fun j hj => by rw [h3.1 j hj]; simp only [yv, e j hj], h3.2⟩
theorem exec_append {P : Program} {o : Oper} {a : Act} {w w' : World} (s x : Operand) (t u : TypeId) (ho : o.op = .call { callee := .builtin .append, args := #[s, x], argTypes := #[t, u] }) (v y v' : Value) (hs : a.eval s = v) (hx : a.eval x = y) (hr : (Builtin.append_ #[t, u] o.type #[v, y]).run P w = .ok v' w') : (execOp a.eval o).run P w = .ok (.value v') w' := by
  unfold execOp
  simp only [ho, resolve, invoke, builtin, Sem.run_bind, Sem.run_pure, Result.andThen_ok, List.map_toArray, List.map_cons, List.map_nil, hs, hx, hr]
theorem run_gbC {w0 X : World} {n : Nat} {f : Nat → BitVec 8} (ty : TypeId) (hE : Ext w0 X) (ad0 : Addr) (hf : BV (.slice (some ad0) n n) n f X) (xv : Value) (m : Nat) (b : Nat → BitVec 8) (hb : BV xv m b X) (hm : 0 < m) (hnm : n + m ≤ 1000000) :
    ∃ v' Y, (Builtin.append_ #[25, 25] ty #[.slice (some ad0) n n, xv]).run Tryz.prog X = .ok v' Y ∧ GB w0 v' (n + m) (catF f n b) Y ∧ Ext X Y := by
  rcases hb with ⟨_, h0⟩ | ⟨ad, c, rfl, _, hl⟩
  · omega
  have hf' : LieAt ad0 n (yv f) X := by
    rcases hf with ⟨h, _⟩ | ⟨a', c, h, _, hl⟩
    · cases h
    · injection h with h
      injection h with h
      subst h
      exact hl
  obtain ⟨i, z, e1, e2, e3, e4, e5⟩ := elem22.info
  obtain ⟨v', Y, h1, h2, h3⟩ := run_append_arg_grows (P := Tryz.prog) X 25 ty 5 i z 1 1 elem22.slice e1 e2 e3 e4 e5 (by decide) ad0 n n (row n (yv f)) (by rw [row_length, Nat.mul_one]) (fun j u hj => by
    obtain ⟨hj', rfl⟩ := row_some hj
    exact hf'.1 j hj') ad m c (row m (yv b)) (by rw [row_length, Nat.mul_one]) (fun j u hj => by
    obtain ⟨hj', rfl⟩ := row_some hj
    exact hl.1 j hj') (by omega) (by unfold maxLen; omega) (by omega)
  have hXY : Ext X Y := ⟨h3.os, h3.tape, h3.output, h3.size, fun k hk => h3.block k hk (by simp)⟩
  refine ⟨v', Y, h1, GB.of hE ?_ hXY, hXY⟩
  unfold OwnB
  rw [row_append n m (yv f) (yv b) (yv (catF f n b)) (fun j hj => by simp only [yv]; unfold catF; rw [if_pos hj]) (fun j hj => by simp only [yv]; unfold catF; rw [if_neg (by omega), Nat.add_sub_cancel_left])] at h2
  exact h2
end Go.Proofs.YtfpfgbhdehbggaaGreatDoor
namespace Go.Proofs.YtfpfgbhdehbggaaGreatDoor
open Go.RowKit
set_option linter.unusedVariables false
section
variable {P : Program} {ops : Array Oper} {Q : Exit → Act → World → Prop} {brk fin : List Nat} {Mk Mv : World → World → Prop} {R : Nat → Value → World → Prop} {C0 : World → Prop}
def MakJ (P : Program) (ops : Array Oper) (C0 : World → Prop) (Mk : World → World → Prop) (o : Oper) (R : Value → World → Prop) (a : Act) : Prop :=
  ∀ X, C0 X → EffY P ops o X (fun v X' => R v X' ∧ Mk X X') a
theorem MakJ.put {o : Oper} {T : Value → World → Prop} {u : Value} {a : Act} {d : Option Tmp} (hs : ∀ cs b, o.op ≠ .select cs b) (h : ∀ t, d = some t → t ∉ o.looksAt ops) : MakJ P ops C0 Mk o T (a.put d u) ↔ MakJ P ops C0 Mk o T a := by
  unfold MakJ
  exact ⟨fun k X hX => (EffY.put hs h).1 (k X hX), fun k X hX => (EffY.put hs h).2 (k X hX)⟩
def wpJ (P : Program) (ops : Array Oper) (Q : Exit → Act → World → Prop) (brk fin : List Nat) (Mk Mv : World → World → Prop) (R : Nat → Value → World → Prop) (C0 : World → Prop) : List (Nat × Nat) → (World → Prop) → Act → Prop
  | [], C, a => ∀ w, C w → Q .normal a w
  | (0, i) :: r, C, a => ∃ o v, ops[i]? = some o ∧ StrC P ops C0 o v a ∧ wpJ P ops Q brk fin Mk Mv R C0 r C (a.put o.dst v)
  | (1, i) :: r, C, a => ∃ o, ops[i]? = some o ∧ ∀ X, C X → EffY P ops o X (fun v X' => ∃ C' : World → Prop, C' X' ∧ (i ∈ brk ∨ (i ∈ fin ∧ ∀ Y, C' Y → C0 Y) ∨ ((∀ Y, C' Y → C0 Y) ∧ Mv X X' ∧ Cl Mk C')) ∧ wpJ P ops Q brk fin Mk Mv R C0 r C' (a.put o.dst v)) a
  | (2, i) :: r, C, a => ∃ o, ops[i]? = some o ∧ MakJ P ops C0 Mk o (R i) a ∧ ∀ v, (∃ X, C X ∧ R i v X) → wpJ P ops Q brk fin Mk Mv R C0 r (fun X => C X ∧ R i v X) (a.put o.dst v)
  | (_ + 3, i) :: r, C, a => ∃ o v, ops[i]? = some o ∧ StrC P ops C o v a ∧ wpJ P ops Q brk fin Mk Mv R C0 r C (a.put o.dst v)
structure LadJAt (P : Program) (ops : Array Oper) (Q : Exit → Act → World → Prop) (brk fin : List Nat) (Mk Mv : World → World → Prop) (R : Nat → Value → World → Prop) (C0 : World → Prop) (l : List (Nat × Nat)) (L : Array Bool) (A : Act) (w : World) : Prop where
  size : L.size = ops.size
  closed : Closed ops L
  way : ∃ C : World → Prop, C w ∧ ((∀ X, C X → C0 X) ∨ ∀ p ∈ lfm L l, p.1 ≠ 0 ∧ p.1 ≠ 2) ∧ (Cl Mk C ∨ ∀ p ∈ lfm L l, p.1 ≠ 2) ∧ wpJ P ops Q brk fin Mk Mv R C0 (lfm L l) C A
end
end Go.Proofs.YtfpfgbhdehbggaaGreatDoor
