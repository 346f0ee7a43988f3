/-
  The document seals and opens. Sealing and opening in any case, the program's and the document's. Headers as rows of 24 cells; may they be, the program's and the document's.
-/
import Derived.Test.YtfpfgbhdehbggaaGreatDoorQb1
import Derived.Test.YtfpfgbhdehbggaaGreatDoorQb40
import Derived.Test.YtfpfgbhdehbggaaGreatDoorQb14
import Derived.Test.YtfpfgbhdehbggaaGreatDoorQb15
import Derived.Laws.Tables
namespace Go.Proofs.YtfpfgbhdehbggaaGreatDoor
open Go.RowKit Go.BigFrame
set_option linter.unusedVariables false
set_option maxRecDepth 20000
set_option maxRecDepth 20000 in
set_option maxHeartbeats 4000000 in
theorem ropen_yes (e n : Nat) (D T : Nat → BitVec 8) (R : Nat → BitVec 8) (a : Addr) (k : Nat) (f : Nat → BitVec 8) (w : World) (hk : 512 ≤ k) (hV : LieAt a 512 (yv f) w) (he1 : 1 ≤ e) (he : e < 4294967296) (hn : n < 1024) (hR : ∀ j, j < 64 → rcF e n T f 512 j = R j) : Calls Tryz.prog 10 #[.agg (row 65 (ekV e D T)).toArray, .int .i64 (n : Int), .slice (some a) 512 k, .agg (row 64 (yv R)).toArray] w fun e' w' => ∃ v', e' = .returned (.tuple #[v', .int .i64 0]) ∧ OwnB w.heap.size 5 v' 512 (yv (opF D n f)) w' ∧ Ext w w' := by
  have hrt : ∀ X, Calls Tryz.prog 17 #[.agg (row 65 (ekV e D T)).toArray, .int .i64 (n : Int)] X fun e' w' => e' = .returned (.bool true) ∧ Ext X w' := fun X => by
    have q := sright_any (e : Int) (n : Int) D T X
    rw [decide_eq_true (show okK (e : Int) (n : Int) by unfold okK; omega)] at q
    exact q
  have hcn : IntKind.u64.wrap (n : Int) = ((n4 n).toNat : Int) := by rw [n4_nat (by omega), IntKind.wrap_u64]; omega
  have hr : true = true ↔ ∀ j, j < 64 → rcF e n T f 512 j = R j := ⟨fun _ => hR, fun _ => rfl⟩
  clear hR
  have hE := hideit (Ext.refl w)
  go_enter Tryz.func10, Tryz.ntmps10
  go_upto_region 0 with (fail)
  refine wp_region_lit ?_
  have A0 := hideit (RowAt.new w 65 (ekV e D T) 24)
  have XB : Ext w (w.alloc (.cells (row 65 (ekV e D T)).toArray 24)) := (Below.refl _ _).alloc (Nat.le_refl _) _
  have AE := hideit (Ext.trans hE.out (XB))
  have AB := hideit (hE.out.size)
  clear XB
  refine wpList_to rfl (.pointer (some ⟨w.heap.size, 0, none⟩)) (w.alloc (.cells (row 65 (ekV e D T)).toArray 24)) (by simp [go_sem]) ?_
  simp only [zp0, zp1, zp2, zp3]
  generalize w.alloc (.cells (row 65 (ekV e D T)).toArray 24) = x1 at A0 AE ⊢
  obtain ⟨c4, ec4⟩ : ∃ b, b = w.heap.size := ⟨_, rfl⟩
  have ABc4 : Hid (w.heap.size ≤ c4) := by rw [ec4]; exact AB.out
  clear AB
  rw [← ec4] at A0  ⊢
  clear ec4
  have Hc4 := A0
  clear A0
  replace hE := AE
  clear AE
  have A0 := hideit (RowAt.new x1 64 (yv R) 26)
  have XB : Ext x1 (x1.alloc (.cells (row 64 (yv R)).toArray 26)) := (Below.refl _ _).alloc (Nat.le_refl _) _
  have A1 := hideit (Hc4.out.carry XB)
  have AE := hideit (Ext.trans hE.out (XB))
  have AB := hideit (hE.out.size)
  have D0 : Hid (c4 ≠ x1.heap.size) := Nat.ne_of_lt Hc4.out.2.2
  clear XB
  refine wpList_to rfl (.pointer (some ⟨x1.heap.size, 0, none⟩)) (x1.alloc (.cells (row 64 (yv R)).toArray 26)) (by simp [go_sem]) ?_
  simp only [zp0, zp1, zp2, zp3]
  generalize x1.alloc (.cells (row 64 (yv R)).toArray 26) = x2 at A0 A1 AE ⊢
  obtain ⟨c7, ec7⟩ : ∃ b, b = x1.heap.size := ⟨_, rfl⟩
  have ABc7 : Hid (w.heap.size ≤ c7) := by rw [ec7]; exact AB.out
  clear AB
  rw [← ec7] at A0 D0 ⊢
  clear ec7
  have Hc7 := A0
  clear A0
  replace Hc4 := A1
  clear A1
  replace hE := AE
  clear AE
  have Dc7_0 := D0
  clear D0
  refine xm [some (.slice none 0 0), some (.int .i64 0)] (by kernel_rfl) (by simp [xr, go_sem]) ?_
  simp only [xw, p0, p1, p2, p3]
  go_upto_region 1 with (fail)
  refine wp_region_lit ?_
  refine wpList_run rfl (.agg (row 65 (ekV e D T)).toArray) (xload 24 (.tmp 4) rfl c4 0 65 _ rfl Hc4.out.range Tryz.underlying24 rfl inf50) ?_
  simp only [zp0, zp1, zp2, zp3]
  refine xm [some (.int .i64 (n : Int))] (by kernel_rfl) (by simp [xr, go_sem]) ?_
  simp only [xw, p0, p1, p2, p3]
  refine wpList_call rfl (by simp [go_sem]) ((hrt x2).mono ?_)
  rintro e y3 ⟨rfl, hX4⟩
  refine ⟨_, rfl, ?_⟩
  simp only [zp0, zp1, zp2, zp3]
  replace Hc4 := hideit (Hc4.out.carry hX4)
  replace Hc7 := hideit (Hc7.out.carry hX4)
  replace hE := hideit (Ext.trans hE.out (hX4))
  clear hX4
  refine xm [some (.bool false)] (by kernel_rfl) (by simp [xr, go_sem]) ?_
  simp only [xw, p0, p1, p2, p3]
  go_upto_region 3 with (fail)
  refine wp_region_lit ?_
  refine xm [some (.slice (some a) 512 k), some (.int .i64 512), some (.bool false)] (by kernel_rfl) (by simp [xr, go_sem]) ?_
  simp only [xw, p0, p1, p2, p3]
  go_upto_region 5 with (fail)
  replace Hc4 := hideit Hc4.out.drew
  replace Hc7 := hideit Hc7.out.drew
  replace hE := hideit (Ext.draw hE.out)
  refine wp_region_lad (fun X => Ext y3.drew X) [(false, 0), (false, 1), (false, 2), (false, 4), (true, 3), (false, 5)] (by kernel_rfl) (by kernel_rfl) (by decide +kernel) (by decide +kernel) (by decide +kernel) (by decide +kernel) (Ext.refl _) ?_
  refine wpX_f _ (.agg (row 65 (ekV e D T)).toArray) rfl rfl (fun X hX => xload 24 (.tmp 4) rfl c4 0 65 _ rfl (Hc4.out.carry hX).range Tryz.underlying24 rfl inf50) ?_
  simp only [List.getElem_toArray, List.getElem_cons_zero, Act.put, List.setIfInBounds_toArray, List.set_cons_zero, List.set_cons_succ]
  refine wpX_f _ (.int .i64 (n : Int)) rfl rfl (fun X _ => by simp [go_sem]) ?_
  simp only [zp4, zp5, zp6, zp0, zp1, zp2, zp3]
  refine wpX_f _ (.slice (some a) 512 k) rfl rfl (fun X _ => by simp [go_sem]) ?_
  simp only [zp4, zp5, zp6, zp0, zp1, zp2, zp3]
  refine wpX_f _ (.agg (row 64 (yv R)).toArray) rfl rfl (fun X hX => xload 26 (.tmp 7) rfl c7 0 64 _ rfl (Hc7.out.carry hX).range Tryz.underlying26 rfl inf23) ?_
  simp only [zp4, zp5, zp6, zp0, zp1, zp2, zp3]
  refine wpX_call _ rfl rfl (by simp [go_sem]) ((rrOf_any e n D T (.slice (some a) 512 k) f y3.drew (.inr ⟨a, k, rfl, hk, hV.carry hE.out⟩) he (by omega)).mono ?_)
  rintro e y3 ⟨rfl, hX3⟩
  refine ⟨_, rfl, fun X => Ext y3 X, fun X hX => Ext.trans hX3 hX, Ext.refl _, ?_⟩
  simp only [zp4, zp5, zp6, zp0, zp1, zp2, zp3]
  replace Hc4 := hideit (Hc4.out.carry hX3)
  replace Hc7 := hideit (Hc7.out.carry hX3)
  replace hE := hideit (Ext.trans hE.out (hX3))
  clear hX3
  refine wpX_f _ (.bool false) rfl rfl (fun X hX => xcmp .neq 26 26 (.tmp 22) (.tmp 23) rfl _ _ rfl rfl eqG26 false (neq26 (rcF e n T f 512) (R) true hr _)) ?_
  simp only [zp4, zp5, zp6, zp0, zp1, zp2, zp3]
  refine wpX_nil ?_
  go_upto_region 7 with (fail)
  refine wp_region_lit ?_
  refine xm [some (.pointer (some ⟨c4, 1, none⟩))] (by kernel_rfl) (by simp [xr, go_sem]) ?_
  simp only [xw, p0, p1, p2, p3]
  refine xm [some (.slice (some ⟨c4, 1, none⟩) 32 32)] (by kernel_rfl) (by simp [xr, go_sem]) ?_
  simp only [xw, p0, p1, p2, p3]
  obtain ⟨Bp, hBp⟩ : ∃ b, b = y3.heap.size := ⟨_, rfl⟩
  refine wpList_call rfl (by simp [go_sem]) ((rxnew4_any ⟨c4, 1, none⟩ 32 D y3 (ek_data Hc4.out) (by decide)).mono ?_)
  rintro e y1 ⟨q, rfl, hP, hX1⟩
  refine ⟨_, rfl, ?_⟩
  simp only [zp0, zp1, zp2, zp3]
  replace Hc4 := hideit (Hc4.out.carry hX1)
  replace Hc7 := hideit (Hc7.out.carry hX1)
  replace hE := hideit (Ext.trans hE.out (hX1))
  replace hP := hideit hP
  rw [← hBp] at hP
  clear hX1 hBp
  refine xm [some (.tuple #[.pointer (some ⟨q, 0, none⟩), .int .i64 0]), some (.pointer (some ⟨q, 0, none⟩)), some (.int .i64 0), some (.pointer (some ⟨q, 0, none⟩)), some (.int .i64 0)] (by kernel_rfl) (by simp [xr, go_sem]) ?_
  simp only [xw, p0, p1, p2, p3]
  go_upto_region 8 with (fail)
  refine wp_region_lit ?_
  refine xm [some (.pointer (some ⟨q, 0, none⟩)), some (.int .i64 (n : Int))] (by kernel_rfl) (by simp [xr, go_sem]) ?_
  simp only [xw, p0, p1, p2, p3]
  refine xm [some (.int .u64 ((n4 n).toNat : Int)), some (.slice (some a) 512 k)] (by kernel_rfl) (by simp [xr, go_sem, hcn]) ?_
  simp only [xw, p0, p1, p2, p3]
  have hb := hideit (Below.size hE.out)
  refine wpList_call rfl (by simp [go_sem]) ((rdec512 _ q k _ _ (n4 n) a f y1 hP.out hk (hV.carry hE.out)).mono ?_)
  rintro e y6 ⟨v6, rfl, hO, hX6⟩
  refine ⟨_, rfl, ?_⟩
  simp only [zp0, zp1, zp2, zp3]
  replace Hc4 := hideit (Hc4.out.carry hX6)
  replace Hc7 := hideit (Hc7.out.carry hX6)
  replace hE := hideit (Ext.trans hE.out (hX6))
  replace hO := hideit (show OwnB w.heap.size 5 v6 512 (yv (opF D n f)) y6 from hO.down hb.out)
  clear hX6 hb
  refine xm [some (v6), some (.int .i64 0), some (v6), some (.int .i64 0)] (by kernel_rfl) (by simp [xr, go_sem]) ?_
  simp only [xw, p0, p1, p2, p3]
  go_wp2
  refine bodyPost_ret (res2 rfl _ _ _) rfl ?_
  exact ⟨_, rfl, hO.out, hE.out⟩
set_option maxRecDepth 20000 in
set_option maxHeartbeats 4000000 in
theorem ropen_no (e n : Nat) (D T : Nat → BitVec 8) (R : Nat → BitVec 8) (a : Addr) (k : Nat) (f : Nat → BitVec 8) (w : World) (hk : 512 ≤ k) (hV : LieAt a 512 (yv f) w) (he1 : 1 ≤ e) (he : e < 4294967296) (hn : n < 1024) (hR : ¬ ∀ j, j < 64 → rcF e n T f 512 j = R j) : Calls Tryz.prog 10 #[.agg (row 65 (ekV e D T)).toArray, .int .i64 (n : Int), .slice (some a) 512 k, .agg (row 64 (yv R)).toArray] w fun e' w' => e' = .returned (.tuple #[.slice none 0 0, .int .i64 160]) ∧ Ext w w' := by
  have hrt : ∀ X, Calls Tryz.prog 17 #[.agg (row 65 (ekV e D T)).toArray, .int .i64 (n : Int)] X fun e' w' => e' = .returned (.bool true) ∧ Ext X w' := fun X => by
    have q := sright_any (e : Int) (n : Int) D T X
    rw [decide_eq_true (show okK (e : Int) (n : Int) by unfold okK; omega)] at q
    exact q
  have hcn : IntKind.u64.wrap (n : Int) = ((n4 n).toNat : Int) := by rw [n4_nat (by omega), IntKind.wrap_u64]; omega
  have hr : false = true ↔ ∀ j, j < 64 → rcF e n T f 512 j = R j := ⟨fun q => Bool.noConfusion q, fun q => (hR q).elim⟩
  clear hR
  have hE := hideit (Ext.refl w)
  go_enter Tryz.func10, Tryz.ntmps10
  go_upto_region 0 with (fail)
  refine wp_region_lit ?_
  have A0 := hideit (RowAt.new w 65 (ekV e D T) 24)
  have XB : Ext w (w.alloc (.cells (row 65 (ekV e D T)).toArray 24)) := (Below.refl _ _).alloc (Nat.le_refl _) _
  have AE := hideit (Ext.trans hE.out (XB))
  have AB := hideit (hE.out.size)
  clear XB
  refine wpList_to rfl (.pointer (some ⟨w.heap.size, 0, none⟩)) (w.alloc (.cells (row 65 (ekV e D T)).toArray 24)) (by simp [go_sem]) ?_
  simp only [zp0, zp1, zp2, zp3]
  generalize w.alloc (.cells (row 65 (ekV e D T)).toArray 24) = x1 at A0 AE ⊢
  obtain ⟨c4, ec4⟩ : ∃ b, b = w.heap.size := ⟨_, rfl⟩
  have ABc4 : Hid (w.heap.size ≤ c4) := by rw [ec4]; exact AB.out
  clear AB
  rw [← ec4] at A0  ⊢
  clear ec4
  have Hc4 := A0
  clear A0
  replace hE := AE
  clear AE
  have A0 := hideit (RowAt.new x1 64 (yv R) 26)
  have XB : Ext x1 (x1.alloc (.cells (row 64 (yv R)).toArray 26)) := (Below.refl _ _).alloc (Nat.le_refl _) _
  have A1 := hideit (Hc4.out.carry XB)
  have AE := hideit (Ext.trans hE.out (XB))
  have AB := hideit (hE.out.size)
  have D0 : Hid (c4 ≠ x1.heap.size) := Nat.ne_of_lt Hc4.out.2.2
  clear XB
  refine wpList_to rfl (.pointer (some ⟨x1.heap.size, 0, none⟩)) (x1.alloc (.cells (row 64 (yv R)).toArray 26)) (by simp [go_sem]) ?_
  simp only [zp0, zp1, zp2, zp3]
  generalize x1.alloc (.cells (row 64 (yv R)).toArray 26) = x2 at A0 A1 AE ⊢
  obtain ⟨c7, ec7⟩ : ∃ b, b = x1.heap.size := ⟨_, rfl⟩
  have ABc7 : Hid (w.heap.size ≤ c7) := by rw [ec7]; exact AB.out
  clear AB
  rw [← ec7] at A0 D0 ⊢
  clear ec7
  have Hc7 := A0
  clear A0
  replace Hc4 := A1
  clear A1
  replace hE := AE
  clear AE
  have Dc7_0 := D0
  clear D0
  refine xm [some (.slice none 0 0), some (.int .i64 0)] (by kernel_rfl) (by simp [xr, go_sem]) ?_
  simp only [xw, p0, p1, p2, p3]
  go_upto_region 1 with (fail)
  refine wp_region_lit ?_
  refine wpList_run rfl (.agg (row 65 (ekV e D T)).toArray) (xload 24 (.tmp 4) rfl c4 0 65 _ rfl Hc4.out.range Tryz.underlying24 rfl inf50) ?_
  simp only [zp0, zp1, zp2, zp3]
  refine xm [some (.int .i64 (n : Int))] (by kernel_rfl) (by simp [xr, go_sem]) ?_
  simp only [xw, p0, p1, p2, p3]
  refine wpList_call rfl (by simp [go_sem]) ((hrt x2).mono ?_)
  rintro e y3 ⟨rfl, hX4⟩
  refine ⟨_, rfl, ?_⟩
  simp only [zp0, zp1, zp2, zp3]
  replace Hc4 := hideit (Hc4.out.carry hX4)
  replace Hc7 := hideit (Hc7.out.carry hX4)
  replace hE := hideit (Ext.trans hE.out (hX4))
  clear hX4
  refine xm [some (.bool false)] (by kernel_rfl) (by simp [xr, go_sem]) ?_
  simp only [xw, p0, p1, p2, p3]
  go_upto_region 3 with (fail)
  refine wp_region_lit ?_
  refine xm [some (.slice (some a) 512 k), some (.int .i64 512), some (.bool false)] (by kernel_rfl) (by simp [xr, go_sem]) ?_
  simp only [xw, p0, p1, p2, p3]
  go_upto_region 5 with (fail)
  replace Hc4 := hideit Hc4.out.drew
  replace Hc7 := hideit Hc7.out.drew
  replace hE := hideit (Ext.draw hE.out)
  refine wp_region_lad (fun X => Ext y3.drew X) [(false, 0), (false, 1), (false, 2), (false, 4), (true, 3), (false, 5)] (by kernel_rfl) (by kernel_rfl) (by decide +kernel) (by decide +kernel) (by decide +kernel) (by decide +kernel) (Ext.refl _) ?_
  refine wpX_f _ (.agg (row 65 (ekV e D T)).toArray) rfl rfl (fun X hX => xload 24 (.tmp 4) rfl c4 0 65 _ rfl (Hc4.out.carry hX).range Tryz.underlying24 rfl inf50) ?_
  simp only [List.getElem_toArray, List.getElem_cons_zero, Act.put, List.setIfInBounds_toArray, List.set_cons_zero, List.set_cons_succ]
  refine wpX_f _ (.int .i64 (n : Int)) rfl rfl (fun X _ => by simp [go_sem]) ?_
  simp only [zp4, zp5, zp6, zp0, zp1, zp2, zp3]
  refine wpX_f _ (.slice (some a) 512 k) rfl rfl (fun X _ => by simp [go_sem]) ?_
  simp only [zp4, zp5, zp6, zp0, zp1, zp2, zp3]
  refine wpX_f _ (.agg (row 64 (yv R)).toArray) rfl rfl (fun X hX => xload 26 (.tmp 7) rfl c7 0 64 _ rfl (Hc7.out.carry hX).range Tryz.underlying26 rfl inf23) ?_
  simp only [zp4, zp5, zp6, zp0, zp1, zp2, zp3]
  refine wpX_call _ rfl rfl (by simp [go_sem]) ((rrOf_any e n D T (.slice (some a) 512 k) f y3.drew (.inr ⟨a, k, rfl, hk, hV.carry hE.out⟩) he (by omega)).mono ?_)
  rintro e y3 ⟨rfl, hX3⟩
  refine ⟨_, rfl, fun X => Ext y3 X, fun X hX => Ext.trans hX3 hX, Ext.refl _, ?_⟩
  simp only [zp4, zp5, zp6, zp0, zp1, zp2, zp3]
  replace Hc4 := hideit (Hc4.out.carry hX3)
  replace Hc7 := hideit (Hc7.out.carry hX3)
  replace hE := hideit (Ext.trans hE.out (hX3))
  clear hX3
  refine wpX_f _ (.bool true) rfl rfl (fun X hX => xcmp .neq 26 26 (.tmp 22) (.tmp 23) rfl _ _ rfl rfl eqG26 true (neq26 (rcF e n T f 512) (R) false hr _)) ?_
  simp only [zp4, zp5, zp6, zp0, zp1, zp2, zp3]
  refine wpX_nil ?_
  go_upto_region 6 with (fail)
  refine wp_region_lit ?_
  refine xm [some (.slice none 0 0), some (.int .i64 160)] (by kernel_rfl) (by simp [xr, go_sem]) ?_
  simp only [xw, p0, p1, p2, p3]
  go_wp2
  refine bodyPost_ret (res2 rfl _ _ _) rfl ?_
  exact ⟨rfl, hE.out⟩
end Go.Proofs.YtfpfgbhdehbggaaGreatDoor
namespace Go.Proofs.YtfpfgbhdehbggaaGreatDoor
open Go.RowKit Go.BigFrame
set_option linter.unusedVariables false
set_option maxRecDepth 20000
def opC (e n : Int) (T : Nat → BitVec 8) (l : Nat) (g R : Nat → BitVec 8) : Int := if sC e n l = 0 then (if eqN 64 (rcF e.toNat n.toNat T g 512) R = true then 0 else 160) else sC e n l
def opL (e n : Int) (T : Nat → BitVec 8) (l : Nat) (g R : Nat → BitVec 8) : Nat := if opC e n T l g R = 0 then 512 else 0
theorem opC_0 {e n : Int} {T : Nat → BitVec 8} {l : Nat} {g R : Nat → BitVec 8} (h1 : sC e n l = 0) (h2 : ∀ j, j < 64 → rcF e.toNat n.toNat T g 512 j = R j) : opC e n T l g R = 0 := (if_pos h1).trans (if_pos (eqN_iff.2 h2))
theorem opC_160 {e n : Int} {T : Nat → BitVec 8} {l : Nat} {g R : Nat → BitVec 8} (h1 : sC e n l = 0) (h2 : ¬ ∀ j, j < 64 → rcF e.toNat n.toNat T g 512 j = R j) : opC e n T l g R = 160 := (if_pos h1).trans (if_neg fun q => h2 (eqN_iff.1 q))
theorem opC_no {e n : Int} {T : Nat → BitVec 8} {l : Nat} {g R : Nat → BitVec 8} (h1 : ¬ sC e n l = 0) : opC e n T l g R = sC e n l := if_neg h1
theorem opL_0 {e n : Int} {T : Nat → BitVec 8} {l : Nat} {g R : Nat → BitVec 8} (h1 : opC e n T l g R = 0) : opL e n T l g R = 512 := if_pos h1
theorem opL_no {e n : Int} {T : Nat → BitVec 8} {l : Nat} {g R : Nat → BitVec 8} (h1 : ¬ opC e n T l g R = 0) : opL e n T l g R = 0 := if_neg h1
theorem open_any (e n : Int) (D T : Nat → BitVec 8) (R : Nat → BitVec 8) (v : Value) (l : Nat) (g : Nat → BitVec 8) (w : World) (hV : BV v l g w) (h9 : e < 9223372036854775808) (hC : TabC w) : Calls Tryz.prog 9 #[.agg (row 65 (ekI e D T)).toArray, .int .i64 n, v, .agg (row 64 (yv R)).toArray] w fun e' w' => ∃ u, e' = .returned (.tuple #[u, .int .i64 (opC e n T l g R)]) ∧ BV u (opL e n T l g R) (opF D n.toNat g) w' ∧ Ext w w' := by
  by_cases h : sC e n l = 0
  · obtain ⟨⟨h1, h2, h3, h4⟩, rfl⟩ := sC_ok h
    rcases hV with ⟨_, h0⟩ | ⟨q, k, rfl, hk, hL⟩
    · omega
    have hV : BV (.slice (some q) 512 k) 512 g w := .inr ⟨q, k, rfl, hk, hL⟩
    by_cases h5 : ∀ j, j < 64 → rcF e.toNat n.toNat T g 512 j = R j
    · have e1 := opC_0 h h5
      rw [opL_0 e1, e1]
      clear e1 h
      obtain ⟨a, rfl⟩ : ∃ a : Nat, e = (a : Int) := ⟨e.toNat, by omega⟩
      obtain ⟨b, rfl⟩ : ∃ b : Nat, n = (b : Int) := ⟨n.toNat, by omega⟩
      replace h1 : 1 ≤ a := by omega
      replace h4 : b < 1024 := by omega
      refine (open_yes a b D T R (.slice (some q) 512 k) g w hV hC h1 (by omega) h4 (fun j hj => (h5 j hj).symm)).mono ?_
      rintro e' w' ⟨u, rfl, hO, hX⟩
      exact ⟨u, rfl, hO.bv, hX⟩
    · have e1 := opC_160 h h5
      rw [opL_no (show ¬ opC e n T 512 g R = 0 by rw [e1]; decide), e1]
      clear e1 h
      obtain ⟨a, rfl⟩ : ∃ a : Nat, e = (a : Int) := ⟨e.toNat, by omega⟩
      obtain ⟨b, rfl⟩ : ∃ b : Nat, n = (b : Int) := ⟨n.toNat, by omega⟩
      replace h1 : 1 ≤ a := by omega
      replace h4 : b < 1024 := by omega
      refine (open_no a b D T R (.slice (some q) 512 k) g w hV hC h1 (by omega) h4 (fun x => h5 fun j hj => (x j hj).symm)).mono ?_
      rintro e' w' ⟨rfl, hX⟩
      exact ⟨_, rfl, .inl ⟨rfl, rfl⟩, hX⟩
  · have e1 := opC_no (T := T) (g := g) (R := R) h
    rw [opL_no (show ¬ opC e n T l g R = 0 by rw [e1]; exact h), e1]
    obtain ⟨o, k, rfl⟩ := hV.form
    refine (open_bad e n D T o l k w R h9 h).mono ?_
    rintro e' w' ⟨rfl, hX⟩
    exact ⟨_, rfl, .inl ⟨rfl, rfl⟩, hX⟩
theorem ropen_any (e n : Int) (D T : Nat → BitVec 8) (R : Nat → BitVec 8) (v : Value) (l : Nat) (g : Nat → BitVec 8) (w : World) (hV : BV v l g w) (h9 : e < 9223372036854775808) : Calls Tryz.prog 10 #[.agg (row 65 (ekI e D T)).toArray, .int .i64 n, v, .agg (row 64 (yv R)).toArray] w fun e' w' => ∃ u, e' = .returned (.tuple #[u, .int .i64 (opC e n T l g R)]) ∧ BV u (opL e n T l g R) (opF D n.toNat g) w' ∧ Ext w w' := by
  by_cases h : sC e n l = 0
  · obtain ⟨⟨h1, h2, h3, h4⟩, rfl⟩ := sC_ok h
    rcases hV with ⟨_, h0⟩ | ⟨q, k, rfl, hk, hL⟩
    · omega
    have hV : BV (.slice (some q) 512 k) 512 g w := .inr ⟨q, k, rfl, hk, hL⟩
    by_cases h5 : ∀ j, j < 64 → rcF e.toNat n.toNat T g 512 j = R j
    · have e1 := opC_0 h h5
      rw [opL_0 e1, e1]
      clear e1 h
      obtain ⟨a, rfl⟩ : ∃ a : Nat, e = (a : Int) := ⟨e.toNat, by omega⟩
      obtain ⟨b, rfl⟩ : ∃ b : Nat, n = (b : Int) := ⟨n.toNat, by omega⟩
      replace h1 : 1 ≤ a := by omega
      replace h4 : b < 1024 := by omega
      refine (ropen_yes a b D T R q k g w hk hL h1 (by omega) h4 h5).mono ?_
      rintro e' w' ⟨u, rfl, hO, hX⟩
      exact ⟨u, rfl, hO.bv, hX⟩
    · have e1 := opC_160 h h5
      rw [opL_no (show ¬ opC e n T 512 g R = 0 by rw [e1]; decide), e1]
      clear e1 h
      obtain ⟨a, rfl⟩ : ∃ a : Nat, e = (a : Int) := ⟨e.toNat, by omega⟩
      obtain ⟨b, rfl⟩ : ∃ b : Nat, n = (b : Int) := ⟨n.toNat, by omega⟩
      replace h1 : 1 ≤ a := by omega
      replace h4 : b < 1024 := by omega
      refine (ropen_no a b D T R q k g w hk hL h1 (by omega) h4 h5).mono ?_
      rintro e' w' ⟨rfl, hX⟩
      exact ⟨_, rfl, .inl ⟨rfl, rfl⟩, hX⟩
  · have e1 := opC_no (T := T) (g := g) (R := R) h
    rw [opL_no (show ¬ opC e n T l g R = 0 by rw [e1]; exact h), e1]
    obtain ⟨o, k, rfl⟩ := hV.form
    refine (ropen_bad e n D T R o l k w h).mono ?_
    rintro e' w' ⟨rfl, hX⟩
    exact ⟨_, rfl, .inl ⟨rfl, rfl⟩, hX⟩
end Go.Proofs.YtfpfgbhdehbggaaGreatDoor
namespace Go.Proofs.YtfpfgbhdehbggaaGreatDoor
set_option maxRecDepth 20000
open Go.RowKit Go.BigFrame
structure Hd where
  g : BitVec 64
  se : Int
  sl : Int
  jo : Int
  sg : Int
  ti : Int
  me : Int
  la : Int
  nm : Nat → BitVec 8
def hdv (h : Hd) : Nat → Value := fun j => if j = 0 then .int .u64 (h.g.toNat : Int) else if j = 1 then .int .i64 h.se else if j = 2 then .int .i64 h.sl else if j = 3 then .int .i64 h.jo else if j = 4 then .int .i64 h.sg else if j = 5 then .int .i64 h.ti else if j = 6 then .int .i64 h.me else if j = 7 then .int .i64 h.la else .int .u8 ((h.nm (j - 8)).toNat : Int)
def pav (ti me la : Int) : Nat → Value := fun j => if j = 0 then .int .i64 ti else if j = 1 then .int .i64 me else .int .i64 la
def okP (ti me la : Int) : Prop := (1 ≤ ti ∧ ti ≤ 8) ∧ (1 ≤ la ∧ la ≤ 4) ∧ (8 * la ≤ me ∧ me ≤ 256)
set_option maxRecDepth 20000 in
set_option maxHeartbeats 2000000 in
theorem acheck (ti me la : Int) (w : World) (R : Int) (hR : Hid ((okP ti me la → R = 0) ∧ (¬ okP ti me la → R = 80))) :
    Calls Tryz.prog 77 #[.agg (row 3 (pav ti me la)).toArray] w fun e w' => e = .returned (.int .i64 R) ∧ Ext w w' := by
  have H0 : Hid (RowAt w.heap.size 3 (pav ti me la) (w.alloc (.cells (row 3 (pav ti me la)).toArray 51))) := RowAt.new w 3 _ 51
  have hE0 : Hid (Ext w (w.alloc (.cells (row 3 (pav ti me la)).toArray 51))) := (Below.refl _ _).alloc (Nat.le_refl _) _
  have hno : Hid (¬ okP ti me la → R = 80) := hR.out.2
  have hyes : Hid (okP ti me la → R = 0) := hR.out.1
  clear hR
  go_enter Tryz.func77, Tryz.ntmps77
  go_upto_region 1 with (fail)
  generalize w.alloc (.cells (row 3 (pav ti me la)).toArray 51) = w1 at *
  obtain ⟨c, hc⟩ : ∃ c, c = w.heap.size := ⟨_, rfl⟩
  rw [← hc] at H0 ⊢
  clear hc
  have e0 : w1.cell? ⟨c, 0, none⟩ = some (.int .i64 ti) := H0.out.1 0 (by decide)
  have e1 : w1.cell? ⟨c, 1, none⟩ = some (.int .i64 me) := H0.out.1 1 (by decide)
  have e2 : w1.cell? ⟨c, 2, none⟩ = some (.int .i64 la) := H0.out.1 2 (by decide)
  by_cases c1 : 1 ≤ ti
  · by_cases c2 : ti ≤ 8
    · by_cases c3 : 1 ≤ la
      · by_cases c4 : la ≤ 4
        · have hm : IntKind.i64.wrap (8 * la) = 8 * la := by rw [IntKind.wrap_i64]; omega
          by_cases c5 : 8 * la ≤ me
          · by_cases c6 : me ≤ 256
            · have hf : Hid (R = 0) := hideit (hyes.out ⟨⟨c1, c2⟩, ⟨c3, c4⟩, ⟨c5, c6⟩⟩)
              go_wp2
              go_ret
              exact ⟨ret_int hf.out.symm, hE0.out⟩
            · have hf : Hid (R = 80) := hideit (hno.out fun hh => c6 hh.2.2.2)
              go_wp2
              go_ret
              exact ⟨ret_int hf.out.symm, hE0.out⟩
          · have hf : Hid (R = 80) := hideit (hno.out fun hh => c5 hh.2.2.1)
            go_wp2
            go_ret
            exact ⟨ret_int hf.out.symm, hE0.out⟩
        · have hf : Hid (R = 80) := hideit (hno.out fun hh => c4 hh.2.1.2)
          go_wp2
          all_goals (go_ret; exact ⟨ret_int hf.out.symm, hE0.out⟩)
      · have hf : Hid (R = 80) := hideit (hno.out fun hh => c3 hh.2.1.1)
        go_wp2
        all_goals (go_ret; exact ⟨ret_int hf.out.symm, hE0.out⟩)
    · have hf : Hid (R = 80) := hideit (hno.out fun hh => c2 hh.1.2)
      go_wp2
      all_goals (go_ret; exact ⟨ret_int hf.out.symm, hE0.out⟩)
  · have hf : Hid (R = 80) := hideit (hno.out fun hh => c1 hh.1.1)
    go_wp2
    all_goals (go_ret; exact ⟨ret_int hf.out.symm, hE0.out⟩)
def inB3 (x a b : Int) : Bool := decide (a ≤ x) && decide (x ≤ b)
theorem within_any (x a b : Int) (w : World) : Calls Tryz.prog 75 #[.int .i64 x, .int .i64 a, .int .i64 b] w fun e w' => e = .returned (.bool (inB3 x a b)) ∧ w' = w := by
  unfold inB3
  by_cases c1 : a ≤ x <;> by_cases c2 : x ≤ b <;> (go_enter Tryz.func75, Tryz.ntmps75; go_wp2; go_ret; exact ⟨by simp [c1, c2], rfl⟩)
theorem above_any (x y : BitVec 64) (w : World) : Calls Tryz.prog 76 #[.int .u64 (x.toNat : Int), .int .u64 (y.toNat : Int)] w fun e w' => e = .returned (.bool (decide (y.toNat < x.toNat))) ∧ w' = w := by
  go_enter Tryz.func76, Tryz.ntmps76
  go_wp2
  go_ret
  exact ⟨by simp, rfl⟩
end Go.Proofs.YtfpfgbhdehbggaaGreatDoor
