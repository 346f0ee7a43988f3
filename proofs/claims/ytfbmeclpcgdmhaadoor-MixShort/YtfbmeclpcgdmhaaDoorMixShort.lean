/-
  For every length and all bytes the law MixShort returns true, and its arguments read behind the call as they read before; the package-level table of places is as the program lays it.
-/
import Derived.Test.YtfbmeclpcgdmhaaDoorCards
import Derived.Test.YtfbmeclpcgdmhaaDoorTie
import Derived.WalkKit
import Derived.ProofKit
import Derived.OpenShut
import Derived.ShutString
import Derived.ChangeOld
import Derived.Below
import Derived.Deep.DeepHandedRow
import Derived.Lib.LaidTab
import Derived.Test.YtfbmeclpcgdmhaaDoorRLong
import Derived.Test.YtfbmeclpcgdmhaaDoorOpenB
import Derived.Test.YtfbmeclpcgdmhaaDoorLad
import Derived.Test.YtfbmeclpcgdmhaaDoorTabP
namespace Go.Proofs.YtfbmeclpcgdmhaaDoor.mixShort
open Go.ChangeShapes Go.WideShapes Go.ChangeAt Go.RowKit
set_option linter.unusedVariables false

theorem own : ownKnob Tryd.prog.godebug = none := by kernel_rfl
theorem laidOut : laidOutB Tryd.prog = true := by kernel_rfl
theorem gTab : Tryd.prog.globalNamed "casket/blake.places" = some 1 := by kernel_rfl
theorem gTabType : (Tryd.prog.globals[1]?).map (·.type) = some 55 := by kernel_rfl
theorem cellsG : Tryd.prog.cellsOf 55 = 32 := by kernel_rfl
theorem tabC {W : World} (h : laidMetH Tryd.prog Rows.mixShortRow.laid W) (h0 : 1 < W.heap.size) : TabC W := ⟨fun j hj => tab_places h j hj, h0⟩

open Go.BigFrame
def two {α : Type} (a b : α) (j : Nat) : α := if j = 0 then a else b
theorem partsTwo (X : World) (v1 v2 : Value) (l1 l2 : Nat) (b1 b2 : Nat → BitVec 8) (h1 : BV v1 l1 b1 (X.alloc (.cells #[v1, v2] 22))) (h2 : BV v2 l2 b2 (X.alloc (.cells #[v1, v2] 22))) : Parts (.slice (some ⟨X.heap.size, 0, none⟩) 2 2) 2 (two v1 v2) (two l1 l2) (two b1 b2) (X.alloc (.cells #[v1, v2] 22)) := by
  refine ⟨.inr ⟨_, 2, rfl, Nat.le_refl _, lieNew X 2 _ 22 (0, 0) _ (fun j hj => by
    rcases (by omega : j = 0 ∨ j = 1) with rfl | rfl <;> rfl)⟩, fun i hi => ?_⟩
  rcases (by omega : i = 0 ∨ i = 1) with rfl | rfl
  · exact h1
  · exact h2
theorem two_all (la lb : Nat) (ba bb : Nat → BitVec 8) : allF (two la lb) (two ba bb) 2 = catF ba la bb := by
  show catF (catF (fun _ => 0#8) (0 + 0) ba) (0 + (0 + la)) bb = catF ba la bb
  simp only [Nat.zero_add, cat0]
theorem one_all (l : Nat) (b : Nat → BitVec 8) : allF (fun _ => l) (fun _ => b) 1 = b := by
  show catF (fun _ => 0#8) (0 + 0) b = b
  simp only [Nat.zero_add, cat0]
theorem vd_first (n : Nat) (m : Nat → BitVec 8) (N : Nat) (h : 64 < n) : Vd n m N 0 = bF 64 (catF (fourB n) 4 m) (4 + N) := by
  show bF (min n 64) (catF (fourB n) 4 m) (4 + N) = _
  rw [show min n 64 = 64 by omega]
set_option maxRecDepth 20000 in
set_option maxHeartbeats 4000000 in
theorem bad (z : Int) (hz : z < 1 ∨ 65536 < z) (ob : Option Addr) (l cb : Nat) (w : World) (hC : Hid (TabC w)) : Calls Tryd.prog 8 #[.int .i64 z, .slice ob l cb] w fun e w' => e = .returned (.bool true) ∧ Below w.heap.size w w' := by
  have hE : Ext w (w.alloc (.cells #[.slice ob l cb] 22)) := (Below.refl _ _).alloc (Nat.le_refl _) _
  have hlv := hideit (lives_any (w.alloc (.cells #[.slice ob l cb] 22)) (hC.out.ext hE))
  replace hE := hideit hE
  have kb := fun (u : Value) (X : World) => hideit (long_bad z u hz X)
  rcases hz with hz | hz
  · go_enter Tryd.func8, Tryd.ntmps8
    go_upto_region 2 with (fail)
    refine wp_region_lit ?_
    refine wpList_run rfl (.int .i64 z) (by simp [go_sem]) ?_
    simp only [Act.put, List.setIfInBounds_toArray, List.set_cons_zero, List.set_cons_succ]
    refine wpList_run rfl (.slice ob l cb) (by simp [go_sem]) ?_
    simp only [Act.put, List.setIfInBounds_toArray, List.set_cons_zero, List.set_cons_succ]
    refine wpList_to rfl (.slice (some ⟨w.heap.size, 0, none⟩) 1 1) (w.alloc (.cells #[.slice ob l cb] 22)) (by simp [go_sem]) ?_
    simp only [Act.put, List.setIfInBounds_toArray, List.set_cons_zero, List.set_cons_succ]
    refine wpList_call rfl (by simp [go_sem]) ((kb (.slice (some ⟨w.heap.size, 0, none⟩) 1 1) _).out.mono ?_)
    rintro e w' ⟨rfl, hw'⟩
    refine ⟨_, rfl, ?_⟩
    rw [hw']
    clear hw'
    simp only [Act.put, List.setIfInBounds_toArray, List.set_cons_zero, List.set_cons_succ]
    go_wp2_with (go_at_call 11; refine hlv.out.mono ?_; rintro e w1 ⟨rfl, hE1⟩; replace hE1 := hideit (Ext.trans hE.out hE1))
    go_ret
    exact ⟨rfl, hE1.out⟩
  · have hz2 : 1 ≤ z := by omega
    go_enter Tryd.func8, Tryd.ntmps8
    go_upto_region 2 with (fail)
    refine wp_region_lit ?_
    refine wpList_run rfl (.int .i64 z) (by simp [go_sem]) ?_
    simp only [Act.put, List.setIfInBounds_toArray, List.set_cons_zero, List.set_cons_succ]
    refine wpList_run rfl (.slice ob l cb) (by simp [go_sem]) ?_
    simp only [Act.put, List.setIfInBounds_toArray, List.set_cons_zero, List.set_cons_succ]
    refine wpList_to rfl (.slice (some ⟨w.heap.size, 0, none⟩) 1 1) (w.alloc (.cells #[.slice ob l cb] 22)) (by simp [go_sem]) ?_
    simp only [Act.put, List.setIfInBounds_toArray, List.set_cons_zero, List.set_cons_succ]
    refine wpList_call rfl (by simp [go_sem]) ((kb (.slice (some ⟨w.heap.size, 0, none⟩) 1 1) _).out.mono ?_)
    rintro e w' ⟨rfl, hw'⟩
    refine ⟨_, rfl, ?_⟩
    rw [hw']
    clear hw'
    simp only [Act.put, List.setIfInBounds_toArray, List.set_cons_zero, List.set_cons_succ]
    go_wp2_with (go_at_call 11; refine hlv.out.mono ?_; rintro e w1 ⟨rfl, hE1⟩; replace hE1 := hideit (Ext.trans hE.out hE1))
    go_ret
    exact ⟨rfl, hE1.out⟩
set_option maxRecDepth 20000 in
set_option maxHeartbeats 8000000 in
theorem good (n l : Nat) (hn1 : 1 ≤ n) (hn2 : n ≤ 65536) (ob : Option Addr) (cb : Nat) (b : Nat → BitVec 8) (w : World) (hB : Hid (BV (.slice ob l cb) l b w)) (hC : Hid (TabC w)) : Calls Tryd.prog 8 #[.int .i64 (n : Int), .slice ob l cb] w fun e w' => e = .returned (.bool true) ∧ Below w.heap.size w w' := by
  have n0 : (1 : Int) ≤ (n : Int) := by omega
  have n1 : (n : Int) ≤ 65536 := by omega
  have q0 : IntKind.u8.wrap (n : Int) = ((fourB n 0).toNat : Int) := by unfold fourB; rw [wrap8]; simp
  have q1 : IntKind.u8.wrap ((n : Int) / 256) = ((fourB n 1).toNat : Int) := by unfold fourB; rw [← wrap8]; rfl
  have q2 : IntKind.u8.wrap ((n : Int) / 65536) = ((fourB n 2).toNat : Int) := by unfold fourB; rw [← wrap8]; rfl
  have q3 : IntKind.u8.wrap ((n : Int) / 16777216) = ((fourB n 3).toNat : Int) := by unfold fourB; rw [← wrap8]; rfl
  obtain ⟨f4, hf4⟩ : ∃ f4, f4 = fourB n := ⟨_, rfl⟩
  rw [← hf4] at q0 q1 q2 q3
  replace hf4 := hideit hf4
  go_enter Tryd.func8, Tryd.ntmps8
  go_upto_region 5 with (fail)
  have hN := newB w #[.int .u8 ((f4 0).toNat : Int), .int .u8 ((f4 1).toNat : Int), .int .u8 ((f4 2).toNat : Int), .int .u8 ((f4 3).toNat : Int)] 4 f4 (fun j hj => by
    rcases (by omega : j = 0 ∨ j = 1 ∨ j = 2 ∨ j = 3) with rfl | rfl | rfl | rfl <;> rfl)
  obtain ⟨w1, hw1⟩ : ∃ w1, w1 = w.alloc (.cells #[.int .u8 ((f4 0).toNat : Int), .int .u8 ((f4 1).toNat : Int), .int .u8 ((f4 2).toNat : Int), .int .u8 ((f4 3).toNat : Int)] 5) := ⟨_, rfl⟩
  obtain ⟨g7, hg7⟩ : ∃ g7, g7 = w.heap.size := ⟨_, rfl⟩
  rw [← hw1, ← hg7] at hN
  rw [← hw1, ← hg7]
  have hF1 := hideit hN.1
  have hE1 : Ext w w1 := hN.2
  clear hN hw1 hg7 q0 q1 q2 q3
  have hEa : Ext w1 (w1.alloc (.cells #[.slice ob l cb] 22)) := (Below.refl _ _).alloc (Nat.le_refl _) _
  have hs := long_any n 1 l hn1 hn2 _ _ _ _ b _ (partsOne w1 (.slice ob l cb) l b ((hB.out.ext hE1).ext hEa)) (hC.out.ext (Ext.trans hE1 hEa)) (by omega) (by simp [sumL]) (fun j _ => by rw [one_all])
  replace hE1 := hideit hE1
  refine wp_region_lit ?_
  refine wpList_run rfl (.int .i64 (n : Int)) (by simp [go_sem]) ?_
  simp only [Act.put, List.setIfInBounds_toArray, List.set_cons_zero, List.set_cons_succ]
  refine wpList_run rfl (.slice ob l cb) (by simp [go_sem]) ?_
  simp only [Act.put, List.setIfInBounds_toArray, List.set_cons_zero, List.set_cons_succ]
  refine wpList_to rfl (.slice (some ⟨w1.heap.size, 0, none⟩) 1 1) (w1.alloc (.cells #[.slice ob l cb] 22)) (by simp [go_sem]) ?_
  simp only [Act.put, List.setIfInBounds_toArray, List.set_cons_zero, List.set_cons_succ]
  refine wpList_call rfl (by simp [go_sem]) (hs.mono ?_)
  rintro e w2 ⟨v2, rfl, hO2, hE2⟩
  refine ⟨_, rfl, ?_⟩
  have hE2' := hideit (Ext.trans (Ext.trans hE1.out hEa) hE2)
  have hF2 := hideit ((hF1.out.ext hEa).ext hE2)
  obtain ⟨bx, cx, hv, _, hcx, _, hX2⟩ := hO2.lies (by omega)
  subst hv
  replace hX2 := hideit hX2
  clear hO2 hE2 hs hEa hE1 hF1
  simp only [Act.put, List.setIfInBounds_toArray, List.set_cons_zero, List.set_cons_succ]
  go_upto_region 8 with (go_at_call 11; refine (lives_any w2 (hC.out.ext hE2'.out)).mono ?_; rintro e w3 ⟨rfl, hE3⟩; have hX3 := hideit (hX2.out.carry hE3); have hF3 := hideit (hF2.out.ext hE3); have hE3' := hideit (Ext.trans hE2'.out hE3); clear hE3 hX2 hF2 hE2')
  have hEb : Ext w3 (w3.alloc (.cells #[.slice (some ⟨g7, 0, none⟩) 4 4, .slice ob l cb] 22)) := (Below.refl _ _).alloc (Nat.le_refl _) _
  have hpt := partsTwo w3 (.slice (some ⟨g7, 0, none⟩) 4 4) (.slice ob l cb) 4 l f4 b (hF3.out.ext hEb) ((hB.out.ext hE3'.out).ext hEb)
  have hE4 := hideit (Ext.trans hE3'.out hEb)
  have hX4 := hideit (hX3.out.carry hEb)
  by_cases h64 : n ≤ 64
  · have n2 : (n : Int) ≤ 64 := by omega
    have hs := plain_sum n 2 hn1 h64 _ _ _ _ _ hpt (hC.out.ext hE4.out) (by omega)
    rw [two_all, show sumL (two 4 l) 2 = 4 + l by simp [sumL, two], hf4.out, ← vd_zero n b l h64] at hs
    replace hs := hideit hs
    go_upto_region 9 with (fail)
    refine wp_region_lit ?_
    refine wpList_run rfl (.int .i64 (n : Int)) (by simp [go_sem]) ?_
    simp only [Act.put, List.setIfInBounds_toArray, List.set_cons_zero, List.set_cons_succ]
    refine wpList_run rfl (.slice (some ⟨g7, 0, none⟩) 4 4) (by simp [go_sem]) ?_
    simp only [Act.put, List.setIfInBounds_toArray, List.set_cons_zero, List.set_cons_succ]
    refine wpList_run rfl (.slice ob l cb) (by simp [go_sem]) ?_
    simp only [Act.put, List.setIfInBounds_toArray, List.set_cons_zero, List.set_cons_succ]
    refine wpList_to rfl (.slice (some ⟨w3.heap.size, 0, none⟩) 2 2) (w3.alloc (.cells #[.slice (some ⟨g7, 0, none⟩) 4 4, .slice ob l cb] 22)) (by simp [go_sem]) ?_
    simp only [Act.put, List.setIfInBounds_toArray, List.set_cons_zero, List.set_cons_succ]
    refine wpList_call rfl (by simp [go_sem]) (hs.out.mono ?_)
    rintro e w5 ⟨v5, rfl, hO5, hE5⟩
    refine ⟨_, rfl, ?_⟩
    have hc1 := convV (.slice (some ⟨bx, 0, none⟩) n cx) n (longF n b l) w5 (.inr ⟨_, cx, rfl, hcx, (hX4.out.carry hE5).lie n (Nat.le_refl _)⟩)
    have hc2 := convV _ _ _ _ hO5.bv
    rw [show bstr n (fun j => ((longF n b l j).toNat : Int)) = bstr n (fun j => ((Vd n b l 0 j).toNat : Int)) from bstr_congr fun j hj => by
      unfold longF
      rw [show rN n = 0 by unfold rN; omega, if_neg (by omega), Nat.mul_zero, Nat.sub_zero]] at hc1
    obtain ⟨sx, hsx⟩ : ∃ sx, sx = bstr n (fun j => ((Vd n b l 0 j).toNat : Int)) := ⟨_, rfl⟩
    rw [← hsx] at hc1 hc2
    clear hsx
    have hE5' := hideit (Ext.trans hE4.out hE5)
    obtain ⟨o5, c5, rfl⟩ := hO5.bv.form
    clear hO5 hE5 hs hpt hEb
    simp only [Act.put, List.setIfInBounds_toArray, List.set_cons_zero, List.set_cons_succ]
    refine wpList_run rfl (.tuple #[.slice o5 n c5, .int .i64 0]) (by simp [go_sem]) ?_
    simp only [Act.put, List.setIfInBounds_toArray, List.set_cons_zero, List.set_cons_succ]
    refine wpList_run rfl (.slice o5 n c5) (by simp [go_sem]) ?_
    simp only [Act.put, List.setIfInBounds_toArray, List.set_cons_zero, List.set_cons_succ]
    refine wpList_run rfl (.int .i64 0) (by simp [go_sem]) ?_
    simp only [Act.put, List.setIfInBounds_toArray, List.set_cons_zero, List.set_cons_succ]
    refine wpList_run rfl (.slice o5 n c5) (by simp [go_sem]) ?_
    simp only [Act.put, List.setIfInBounds_toArray, List.set_cons_zero, List.set_cons_succ]
    refine wpList_run rfl (.int .i64 0) (by simp [go_sem]) ?_
    simp only [Act.put, List.setIfInBounds_toArray, List.set_cons_zero, List.set_cons_succ]
    go_upto_region 10 with (fail)
    refine wp_region_lit ?_
    refine wpList_run rfl (.int .i64 0) (by simp [go_sem]) ?_
    simp only [Act.put, List.setIfInBounds_toArray, List.set_cons_zero, List.set_cons_succ]
    refine wpList_run rfl (.bool true) (by simp [go_sem]) ?_
    simp only [Act.put, List.setIfInBounds_toArray, List.set_cons_zero, List.set_cons_succ]
    refine wpList_run rfl (.bool true) (by simp [go_sem]) ?_
    simp only [Act.put, List.setIfInBounds_toArray, List.set_cons_zero, List.set_cons_succ]
    refine wpList_runW rfl (.slice (some ⟨bx, 0, none⟩) n cx) (by simp [go_sem]) ?_
    simp only [Act.put, List.setIfInBounds_toArray, List.set_cons_zero, List.set_cons_succ]
    refine wpList_runW rfl (.string sx) (by simp [go_sem, hc1]) ?_
    simp only [Act.put, List.setIfInBounds_toArray, List.set_cons_zero, List.set_cons_succ]
    refine wpList_runW rfl (.slice o5 n c5) (by simp [go_sem]) ?_
    simp only [Act.put, List.setIfInBounds_toArray, List.set_cons_zero, List.set_cons_succ]
    refine wpList_runW rfl (.string sx) (by simp [go_sem, hc2]) ?_
    simp only [Act.put, List.setIfInBounds_toArray, List.set_cons_zero, List.set_cons_succ]
    refine wpList_runW rfl (.bool true) (by simp [go_sem]) ?_
    simp only [Act.put, List.setIfInBounds_toArray, List.set_cons_zero, List.set_cons_succ]
    refine wpList_run rfl (.bool true) (by simp [go_sem]) ?_
    simp only [Act.put, List.setIfInBounds_toArray, List.set_cons_zero, List.set_cons_succ]
    clear hc1 hc2
    go_wp2
    go_ret
    exact ⟨rfl, hE5'.out⟩
  · have n2 : (64 : Int) < (n : Int) := by omega
    have hs := plain_sum 64 2 (by omega) (by omega) _ _ _ _ _ hpt (hC.out.ext hE4.out) (by omega)
    rw [two_all, show sumL (two 4 l) 2 = 4 + l by simp [sumL, two], hf4.out, ← vd_first n b l (by omega)] at hs
    replace hs := hideit hs
    obtain ⟨R, hR⟩ : ∃ R, R = rN n := ⟨_, rfl⟩
    have hR1 : 1 ≤ R ∧ n ≤ 32 * R + 64 ∧ 32 * R + 32 < n := by unfold rN at hR; omega
    have hlf : Hid (∀ j, longF n b l j = if j < 32 * R then Vd n b l (j / 32) (j % 32) else Vd n b l R (j - 32 * R)) := fun j => by rw [hR]; rfl
    clear hR
    go_upto_region 11 with (fail)
    refine wp_region_lit ?_
    refine wpList_run rfl (.slice (some ⟨g7, 0, none⟩) 4 4) (by simp [go_sem]) ?_
    simp only [Act.put, List.setIfInBounds_toArray, List.set_cons_zero, List.set_cons_succ]
    refine wpList_run rfl (.slice ob l cb) (by simp [go_sem]) ?_
    simp only [Act.put, List.setIfInBounds_toArray, List.set_cons_zero, List.set_cons_succ]
    refine wpList_to rfl (.slice (some ⟨w3.heap.size, 0, none⟩) 2 2) (w3.alloc (.cells #[.slice (some ⟨g7, 0, none⟩) 4 4, .slice ob l cb] 22)) (by simp [go_sem]) ?_
    simp only [Act.put, List.setIfInBounds_toArray, List.set_cons_zero, List.set_cons_succ]
    refine wpList_call rfl (by simp [go_sem]) (hs.out.mono ?_)
    rintro e w5 ⟨v5, rfl, hO5, hE5⟩
    refine ⟨_, rfl, ?_⟩
    have hX5 := hideit (hX4.out.carry hE5)
    have hE5' := hideit (Ext.trans hE4.out hE5)
    obtain ⟨o5, c5, rfl⟩ := hO5.bv.form
    have hB5 := hideit hO5.bv
    clear hO5 hE5 hs hpt hEb hX4 hE4
    simp only [Act.put, List.setIfInBounds_toArray, List.set_cons_zero, List.set_cons_succ]
    refine wpList_run rfl (.tuple #[.slice o5 64 c5, .int .i64 0]) (by simp [go_sem]) ?_
    simp only [Act.put, List.setIfInBounds_toArray, List.set_cons_zero, List.set_cons_succ]
    refine wpList_run rfl (.slice o5 64 c5) (by simp [go_sem]) ?_
    simp only [Act.put, List.setIfInBounds_toArray, List.set_cons_zero, List.set_cons_succ]
    refine wpList_run rfl (.int .i64 0) (by simp [go_sem]) ?_
    simp only [Act.put, List.setIfInBounds_toArray, List.set_cons_zero, List.set_cons_succ]
    refine wpList_run rfl (.slice o5 64 c5) (by simp [go_sem]) ?_
    simp only [Act.put, List.setIfInBounds_toArray, List.set_cons_zero, List.set_cons_succ]
    refine wpList_run rfl (.int .i64 0) (by simp [go_sem]) ?_
    simp only [Act.put, List.setIfInBounds_toArray, List.set_cons_zero, List.set_cons_succ]
    go_wp2
    go_loopw [12, 14] (fun y av wr => ∃ i A s : Nat, i ≤ R ∧ A = 32 * i ∧ s = min (n - A) 64 ∧ av = .int .i64 (A : Int) ∧ BV y s (Vd n b l i) wr ∧ RowAt bx n (yv (longF n b l)) wr ∧ Ext w wr) (fun _ av _ => 65600 - (intOf av).toNat)
    case atStart => exact ⟨0, 0, 64, Nat.zero_le _, rfl, by omega, rfl, hB5.out, hX5.out, hE5'.out⟩
    case round =>
      clear hB5 hX5 hE5'
      obtain ⟨i, A, s, hi, hA, hs, rfl, hY, hX, hE⟩ := hrel
      obtain ⟨oy, cy, rfl⟩ := hY.form
      replace hY := hideit hY
      replace hX := hideit hX
      replace hE := hideit hE
      have a0 : (0 : Int) ≤ (A : Int) := by omega
      have a1 : (A : Int) ≤ 65536 := by omega
      by_cases hlt : i < R
      · have i1 : (64 : Int) < (n : Int) - (A : Int) := by omega
        have hs64 : s = 64 := by omega
        rw [hs64] at hY
        rw [hs64]
        have hA' := hideit hA
        clear hs64 hs hA
        obtain ⟨ay, hoy, hya⟩ : ∃ ay, oy = some ay ∧ LieAt ay 64 (yv (Vd n b l i)) wr ∧ 64 ≤ cy := by
          rcases hY.out with ⟨_, h0⟩ | ⟨a, cap, h1, h2, h3⟩
          · omega
          · injection h1 with h1 _ h4
            subst h4
            exact ⟨a, h1, h3, h2⟩
        subst hoy
        have c32 : (32 : Int) ≤ (cy : Int) := by omega
        have a2 : (A : Int) + 32 ≤ (cx : Int) := by omega
        have hAn : A + 32 ≤ n := by have := hA'.out; omega
        obtain ⟨sx, hsx⟩ : ∃ sx, sx = bstr 32 (fun j => ((Vd n b l i j).toNat : Int)) := ⟨_, rfl⟩
        have hb1 : Hid (∀ X, Ext wr X → BV (.slice (some ⟨bx, A, none⟩) 32 (cx - A)) 32 (Vd n b l i) X) := fun X h => .inr ⟨⟨bx, A, none⟩, cx - A, rfl, by omega, ⟨fun j hj => by
          rw [Addr.add_mid, (hX.out.carry h).1 (A + j) (by omega)]
          simp only [yv]
          have hAe := hA'.out
          rw [hlf.out, if_pos (by omega), show (A + j) / 32 = i by omega, show (A + j) % 32 = j by omega], (hX.out.carry h).2.2⟩⟩
        have hb2 : Hid (∀ X, Ext wr X → BV (.slice (some ay) 32 cy) 32 (Vd n b l i) X) := fun X h => .inr ⟨ay, cy, rfl, by omega, ⟨fun j hj => (hya.1.carry h).1 j (by omega), (hya.1.carry h).2⟩⟩
        have hcv : ∀ v X, BV v 32 (Vd n b l i) X → (convert 22 9 v).run Tryd.prog X = .ok (.string sx) X := fun v X h => by rw [hsx]; exact convV _ _ _ _ h
        clear hsx hya
        go_upto_region 14 with (fail)
        have hrw : Ext wr wr.drew := (Ext.refl wr).draw
        refine wp_region_lad (fun X => Ext wr X) [(false, 0), (false, 1), (false, 2), (false, 3), (false, 4), (false, 5), (false, 6), (false, 7), (false, 8), (false, 9)] (by kernel_rfl) (by kernel_rfl) (by decide +kernel) (by decide +kernel) (by decide +kernel) (by decide +kernel) (hrw) ?_
        refine wpX_f _ (.slice (some ⟨bx, 0, none⟩) n cx) rfl rfl (fun X _ => by simp [go_sem]) ?_
        simp only [List.getElem_toArray, List.getElem_cons_zero, Act.put, List.setIfInBounds_toArray, List.set_cons_zero, List.set_cons_succ]
        refine wpX_f _ (.int .i64 (A : Int)) rfl rfl (fun X _ => by simp [go_sem]) ?_
        simp only [List.getElem_toArray, List.getElem_cons_zero, List.getElem_cons_succ, Act.put, List.setIfInBounds_toArray, List.set_cons_zero, List.set_cons_succ]
        refine wpX_f _ (.int .i64 (A : Int)) rfl rfl (fun X _ => by simp [go_sem]) ?_
        simp only [List.getElem_toArray, List.getElem_cons_zero, List.getElem_cons_succ, Act.put, List.setIfInBounds_toArray, List.set_cons_zero, List.set_cons_succ]
        refine wpX_f _ (.int .i64 ((A : Int) + 32)) rfl rfl (fun X _ => by simp [go_sem, show IntKind.i64.wrap ((A : Int) + 32) = (A : Int) + 32 by rw [IntKind.wrap_i64]; omega]) ?_
        simp only [List.getElem_toArray, List.getElem_cons_zero, List.getElem_cons_succ, Act.put, List.setIfInBounds_toArray, List.set_cons_zero, List.set_cons_succ]
        refine wpX_f _ (.slice (some ⟨bx, A, none⟩) 32 (cx - A)) rfl rfl (fun X _ => by
          simp [go_sem, a0, a2]
          rw [if_pos (by omega), if_pos (by omega), if_neg (by omega), show ((A : Int) + 32).toNat - A = 32 by omega]) ?_
        simp only [List.getElem_toArray, List.getElem_cons_zero, List.getElem_cons_succ, Act.put, List.setIfInBounds_toArray, List.set_cons_zero, List.set_cons_succ]
        refine wpX_f _ (.string sx) rfl rfl (fun X hX => by simp [go_sem, hcv _ _ (hb1.out X hX)]) ?_
        simp only [List.getElem_toArray, List.getElem_cons_zero, List.getElem_cons_succ, Act.put, List.setIfInBounds_toArray, List.set_cons_zero, List.set_cons_succ]
        refine wpX_f _ (.slice (some ay) 64 cy) rfl rfl (fun X _ => by simp [go_sem]) ?_
        simp only [List.getElem_toArray, List.getElem_cons_zero, List.getElem_cons_succ, Act.put, List.setIfInBounds_toArray, List.set_cons_zero, List.set_cons_succ]
        refine wpX_f _ (.slice (some ay) 32 cy) rfl rfl (fun X _ => by simp [go_sem, c32]) ?_
        simp only [List.getElem_toArray, List.getElem_cons_zero, List.getElem_cons_succ, Act.put, List.setIfInBounds_toArray, List.set_cons_zero, List.set_cons_succ]
        refine wpX_f _ (.string sx) rfl rfl (fun X hX => by simp [go_sem, hcv _ _ (hb2.out X hX)]) ?_
        simp only [List.getElem_toArray, List.getElem_cons_zero, List.getElem_cons_succ, Act.put, List.setIfInBounds_toArray, List.set_cons_zero, List.set_cons_succ]
        refine wpX_f _ (.bool false) rfl rfl (fun X _ => by simp [go_sem]) ?_
        simp only [List.getElem_toArray, List.getElem_cons_zero, List.getElem_cons_succ, Act.put, List.setIfInBounds_toArray, List.set_cons_zero, List.set_cons_succ]
        refine wpX_nil ?_
        have hYd := hideit (hY.out.ext hrw)
        have hXd := hideit (hX.out.carry hrw)
        have hEd := hideit (Ext.trans hE.out hrw)
        clear hrw hcv hb1 hb2 hY hX hE
        obtain ⟨s2, hs2⟩ : ∃ s2, s2 = min (n - (A + 32)) 64 := ⟨_, rfl⟩
        have hEa : Ext wr.drew (wr.drew.alloc (.cells #[.slice (some ay) 64 cy] 22)) := (Below.refl _ _).alloc (Nat.le_refl _) _
        have hsm := plain_sum s2 1 (by have := hA'.out; omega) (by omega) _ _ _ _ _ (partsOne wr.drew (.slice (some ay) 64 cy) 64 (Vd n b l i) (hYd.out.ext hEa)) (hC.out.ext (Ext.trans hEd.out hEa)) (by omega)
        have hvn : bF s2 (allF (fun _ => 64) (fun _ => Vd n b l i) 1) (sumL (fun _ => 64) 1) = Vd n b l (i + 1) := by
          rw [one_all, hs2, hA'.out]
          rfl
        rw [hvn] at hsm
        replace hsm := hideit hsm
        have hX2 := hideit (hXd.out.carry hEa)
        have hE2 := hideit (Ext.trans hEd.out hEa)
        clear hvn hYd hXd hEd hEa
        by_cases h2 : 64 < n - (A + 32)
        · have j1 : (64 : Int) < (n : Int) - ((A : Int) + 32) := by omega
          have e2 : s2 = 64 := by omega
          rw [e2] at hsm
          clear hs2 e2
          go_upto_region 20 with (fail)
          refine wp_region_lit ?_
          refine wpList_run rfl (.int .i64 (64)) (by simp [go_sem]) ?_
          simp only [Act.put, List.setIfInBounds_toArray, List.set_cons_zero, List.set_cons_succ]
          refine wpList_run rfl (.slice (some ay) 64 cy) (by simp [go_sem]) ?_
          simp only [Act.put, List.setIfInBounds_toArray, List.set_cons_zero, List.set_cons_succ]
          refine wpList_to rfl (.slice (some ⟨wr.drew.heap.size, 0, none⟩) 1 1) (wr.drew.alloc (.cells #[.slice (some ay) 64 cy] 22)) (by simp [go_sem]) ?_
          simp only [Act.put, List.setIfInBounds_toArray, List.set_cons_zero, List.set_cons_succ]
          refine wpList_call rfl (by simp [go_sem]) (hsm.out.mono ?_)
          rintro e w6 ⟨v6, rfl, hO6, hE6⟩
          refine ⟨_, rfl, ?_⟩
          have hY6 := hideit hO6.bv
          have hX6 := hideit (hX2.out.carry hE6)
          have hE6' := hideit (Ext.trans hE2.out hE6)
          obtain ⟨o6, c6, rfl⟩ := hO6.bv.form
          clear hO6 hE6 hsm hX2 hE2
          simp only [Act.put, List.setIfInBounds_toArray, List.set_cons_zero, List.set_cons_succ]
          go_wp2
          exact ⟨⟨i + 1, A + 32, 64, by omega, by have := hA'.out; omega, by omega, by go_num, hY6.out, hX6.out, hE6'.out⟩, by simp [intOf]; omega⟩
        · have j1 : ¬ (64 : Int) < (n : Int) - ((A : Int) + 32) := by omega
          have e2 : s2 = n - (A + 32) := by omega
          rw [e2] at hsm
          rw [show ((n - (A + 32) : Nat) : Int) = (n : Int) - ((A : Int) + 32) by omega] at hsm
          clear hs2 e2
          go_upto_region 20 with (fail)
          refine wp_region_lit ?_
          refine wpList_run rfl (.int .i64 ((n : Int) - ((A : Int) + 32))) (by simp [go_sem]) ?_
          simp only [Act.put, List.setIfInBounds_toArray, List.set_cons_zero, List.set_cons_succ]
          refine wpList_run rfl (.slice (some ay) 64 cy) (by simp [go_sem]) ?_
          simp only [Act.put, List.setIfInBounds_toArray, List.set_cons_zero, List.set_cons_succ]
          refine wpList_to rfl (.slice (some ⟨wr.drew.heap.size, 0, none⟩) 1 1) (wr.drew.alloc (.cells #[.slice (some ay) 64 cy] 22)) (by simp [go_sem]) ?_
          simp only [Act.put, List.setIfInBounds_toArray, List.set_cons_zero, List.set_cons_succ]
          refine wpList_call rfl (by simp [go_sem]) (hsm.out.mono ?_)
          rintro e w6 ⟨v6, rfl, hO6, hE6⟩
          refine ⟨_, rfl, ?_⟩
          have hY6 := hideit hO6.bv
          have hX6 := hideit (hX2.out.carry hE6)
          have hE6' := hideit (Ext.trans hE2.out hE6)
          obtain ⟨o6, c6, rfl⟩ := hO6.bv.form
          clear hO6 hE6 hsm hX2 hE2
          simp only [Act.put, List.setIfInBounds_toArray, List.set_cons_zero, List.set_cons_succ]
          go_wp2
          exact ⟨⟨i + 1, A + 32, (n - (A + 32)), by omega, by have := hA'.out; omega, by omega, by go_num, hY6.out, hX6.out, hE6'.out⟩, by simp [intOf]; omega⟩
      · have i1 : ¬ (64 : Int) < (n : Int) - (A : Int) := by omega
        have hiR : i = R := by omega
        have hsn : s = n - A := by omega
        rw [hsn] at hY
        rw [hsn]
        have a2 : (A : Int) ≤ (cx : Int) := by omega
        have a3 : (A : Int) ≤ (n : Int) := by omega
        obtain ⟨sx, hsx⟩ : ∃ sx, sx = bstr (n - A) (fun j => ((Vd n b l i j).toNat : Int)) := ⟨_, rfl⟩
        have hb1 : Hid (∀ X, Ext wr X → BV (.slice (some ⟨bx, A, none⟩) (n - A) (cx - A)) (n - A) (Vd n b l i) X) := fun X h => .inr ⟨⟨bx, A, none⟩, cx - A, rfl, by omega, ⟨fun j hj => by
          rw [Addr.add_mid, (hX.out.carry h).1 (A + j) (by omega)]
          simp only [yv]
          rw [hlf.out, if_neg (by omega), hiR, show A + j - 32 * R = j by omega], (hX.out.carry h).2.2⟩⟩
        have hb2 : Hid (∀ X, Ext wr X → BV (.slice oy (n - A) cy) (n - A) (Vd n b l i) X) := fun X h => hY.out.ext h
        have hcv : ∀ v X, BV v (n - A) (Vd n b l i) X → (convert 22 9 v).run Tryd.prog X = .ok (.string sx) X := fun v X h => by rw [hsx]; exact convV _ _ _ _ h
        have hlt2 : A < n := by omega
        clear hsx hiR hsn hs hA
        go_upto_region 21 with (fail)
        have hrw : Ext wr wr.drew := (Ext.refl wr).draw
        refine wp_region_lad (fun X => Ext wr X) [(false, 0), (false, 1), (false, 2), (false, 3), (false, 4), (false, 5), (false, 6), (false, 7)] (by kernel_rfl) (by kernel_rfl) (by decide +kernel) (by decide +kernel) (by decide +kernel) (by decide +kernel) (hrw) ?_
        refine wpX_f _ (.slice (some ⟨bx, 0, none⟩) n cx) rfl rfl (fun X _ => by simp [go_sem]) ?_
        simp only [List.getElem_toArray, List.getElem_cons_zero, Act.put, List.setIfInBounds_toArray, List.set_cons_zero, List.set_cons_succ]
        refine wpX_f _ (.int .i64 (A : Int)) rfl rfl (fun X _ => by simp [go_sem]) ?_
        simp only [List.getElem_toArray, List.getElem_cons_zero, List.getElem_cons_succ, Act.put, List.setIfInBounds_toArray, List.set_cons_zero, List.set_cons_succ]
        refine wpX_f _ (.slice (some ⟨bx, A, none⟩) (n - A) (cx - A)) rfl rfl (fun X _ => by
          simp [go_sem, a0, a3]
          omega) ?_
        simp only [List.getElem_toArray, List.getElem_cons_zero, List.getElem_cons_succ, Act.put, List.setIfInBounds_toArray, List.set_cons_zero, List.set_cons_succ]
        refine wpX_f _ (.string sx) rfl rfl (fun X hX => by simp [go_sem, hcv _ _ (hb1.out X hX)]) ?_
        simp only [List.getElem_toArray, List.getElem_cons_zero, List.getElem_cons_succ, Act.put, List.setIfInBounds_toArray, List.set_cons_zero, List.set_cons_succ]
        refine wpX_f _ (.slice oy (n - A) cy) rfl rfl (fun X _ => by simp [go_sem]) ?_
        simp only [List.getElem_toArray, List.getElem_cons_zero, List.getElem_cons_succ, Act.put, List.setIfInBounds_toArray, List.set_cons_zero, List.set_cons_succ]
        refine wpX_f _ (.string sx) rfl rfl (fun X hX => by simp [go_sem, hcv _ _ (hb2.out X hX)]) ?_
        simp only [List.getElem_toArray, List.getElem_cons_zero, List.getElem_cons_succ, Act.put, List.setIfInBounds_toArray, List.set_cons_zero, List.set_cons_succ]
        refine wpX_f _ (.bool true) rfl rfl (fun X _ => by simp [go_sem]) ?_
        simp only [List.getElem_toArray, List.getElem_cons_zero, List.getElem_cons_succ, Act.put, List.setIfInBounds_toArray, List.set_cons_zero, List.set_cons_succ]
        refine wpX_f _ (.bool true) rfl rfl (fun X _ => by simp [go_sem]) ?_
        simp only [List.getElem_toArray, List.getElem_cons_zero, List.getElem_cons_succ, Act.put, List.setIfInBounds_toArray, List.set_cons_zero, List.set_cons_succ]
        refine wpX_nil ?_
        have hEd := hideit (Ext.trans hE.out hrw)
        clear hrw hcv hb1 hb2 hY hX hE
        go_wp2
        go_ret
        exact ⟨rfl, hEd.out⟩
theorem walk (z : Int) (_ : (Lit.int .i64 z).wf = true) (v : Value) (w : World) (h1 : BArg v w) (hC : TabC w) : Calls Tryd.prog 8 #[.int .i64 z, v] w fun e w' => e = .returned (.bool true) ∧ Below w.heap.size w w' := by
  obtain ⟨l, b, hB, _⟩ := h1.bv
  obtain ⟨ob, cb, rfl⟩ := hB.form
  by_cases hz : 1 ≤ z ∧ z ≤ 65536
  · obtain ⟨n, rfl⟩ : ∃ n : Nat, z = (n : Int) := ⟨z.toNat, by omega⟩
    exact good n l (by omega) (by omega) ob cb b w hB hC
  · exact bad z (by omega) _ _ _ w hC

theorem contract (H : Type) (enc : TypeId × Value → H) (W : World) (base : Nat) (args : Array Value) (ds gs : List (DataW H)) (before : List MemPlace)
    (hval0 : ∀ (j : Nat) t v, Tryd.f8.params[j]? = some t → args[j]? = some v → Value.okWide Tryd.prog W .any base t v)
    (hW : DataW.Whole enc Tryd.prog Tryd.f8.params.toList Rows.mixShortSpec.vars false W args.toList ds gs before) (hL : laidMetH Tryd.prog Rows.mixShortRow.laid W) (hsz0 : (DataW.weightsEach Tryd.prog (Tryd.f8.params.toList ++ []) (ds ++ gs)).all (· ≤ reachBytes) = true) :
    Calls Tryd.prog 8 args W fun e W' => ∃ v, e = .returned v ∧ Rows.mixShortSpec.post enc Tryd.prog Tryd.f8 false true false false W args v W' := by
  have hval := hval0
  have hsz := hsz0
  have hW' := hW
  obtain ⟨p, q, hA0, hV, rfl, hfz, hnd⟩ := hW
  have hA : DataW.TrodAll enc Tryd.prog W 0 (fun _ => true) true Tryd.f8.params.toList args.toList ds p := hA0
  rw [Tryd.params8] at hA hval hsz
  obtain ⟨v0, vs0, d0, ds0, p0, q0, hargs, rfl, rfl, h0, r0⟩ := trodAll_cons hA
  obtain ⟨v1, vs1, d1, ds1, p1, q1, rfl, rfl, rfl, h1, r1⟩ := trodAll_cons r0
  obtain ⟨rfl, rfl, rfl⟩ := trodAll_nil r1
  obtain rfl : args = #[v0, v1] := by cases args; simp_all
  obtain ⟨rfl, rfl⟩ := trodVars_none hV
  have h0s : 1 < W.heap.size := by
    have hc := tab_places hL 0 (by decide)
    rcases Nat.lt_or_ge 1 W.heap.size with h | h
    · exact h
    · exfalso
      have : W.heap[1]? = none := Array.getElem?_eq_none h
      simp [World.cell?, this] at hc
  have hC : TabC W := tabC hL h0s
  have k0 := h0
  have lt0 : ∀ x ∈ p0, x.block < W.heap.size := by obtain ⟨m, hm⟩ := k0; exact DataW.trod_lt m _ _ _ hm
  have k1 := h1
  have lt1 : ∀ x ∈ p1, x.block < W.heap.size := by obtain ⟨m, hm⟩ := k1; exact DataW.trod_lt m _ _ _ hm
  obtain ⟨a0, rfl, rfl, rfl, w0⟩ := open_int Tryd.underlying3 (hval 0 3 v0 rfl rfl) h0
  have B1 := barg (hval 1 22 v1 rfl rfl) h1 hsz 1 rfl rfl
  clear hA0 hval0
  refine (walk a0 w0 v1 W B1 hC).mono fun e W' ⟨he, bel⟩ => ?_
  subst he
  exact ⟨_, rfl, _, _, _, [], _, [], hW', trodAll_mk1 (shut_bool Tryd.underlying4 _), (trodAll_cons_mk (Below.trod laidOut (by kernel_rfl) (of_decide_eq_true (by kernel_rfl)) k0 bel lt0) (trodAll_cons_mk (Below.trod laidOut (by kernel_rfl) (of_decide_eq_true (by kernel_rfl)) k1 bel lt1) trodAll_mk0)), rfl, bel.frame _, fun h => by cases h⟩

def wit : Array Value := #[.int .i64 0, .slice none 0 0]
def dat {H : Type} : List (DataW H) := [.lit (.int .i64 0), .nil]
def setTab : Obj → Obj
  | .cells _ t frozen => .cells (row 32 (iv plF)).toArray t frozen
  | o => o
theorem laid_met (os : Os) : laidMet Tryd.prog Rows.mixShortRow.laid (({ World.holding Tryd.prog os ⟨#[], #[], []⟩ with heap := (World.holding Tryd.prog os ⟨#[], #[], []⟩).heap.modify 1 setTab } : World).forCall (fun _ _ => 0) ⟨#[], wit, []⟩).memory :=
  laidMet_of_run' 8 (by kernel_rfl) (by kernel_rfl)
theorem reads (os : Os) {H : Type} (enc : TypeId × Value → H) : ∃ places, DataW.whole enc Tryd.prog (({ World.holding Tryd.prog os ⟨#[], #[], []⟩ with heap := (World.holding Tryd.prog os ⟨#[], #[], []⟩).heap.modify 1 setTab } : World).forCall (fun _ _ => 0) ⟨#[], wit, []⟩).memory Tryd.f8.params.toList Rows.mixShortSpec.vars false wit.toList 8 = some (dat, [], places) :=
  ⟨[], by kernel_rfl⟩

set_option maxRecDepth 100000 in
theorem lifted (os : Os) (started : os.Started) (H : Type) (enc : TypeId × Value → H) (F : Stop.Interp) :
    ReturnsInHanded {} Tryd.checked os 8 .any ((OpenSpec.ofChange Rows.mixShortSpec).preRow enc Tryd.prog Tryd.f8 Rows.mixShortRow.domain false Rows.mixShortRow.laid) (((OpenSpec.ofChange Rows.mixShortSpec).at F).post enc Tryd.prog Tryd.f8 false true false false) := by
  obtain ⟨places, hx⟩ := reads os enc
  refine returnsInHanded_of_row (C := Tryd.checked) (s := (OpenSpec.ofChange Rows.mixShortSpec)) own started (by kernel_rfl) Tryd.func8
    (witness_row_at (enc := enc) (C := Tryd.checked) false ({ World.holding Tryd.prog os ⟨#[], #[], []⟩ with heap := (World.holding Tryd.prog os ⟨#[], #[], []⟩).heap.modify 1 setTab } : World) wit rfl (by kernel_rfl) (by kernel_rfl) (by kernel_rfl)
      (OpenSpec.preRow_of_cond 8 hx (by kernel_rfl) (fun k hk => by cases hk) (by kernel_rfl) (laid_met os))) ?_
  intro W base args ds gs before hval hW _ hcond hsz hL _ _
  exact contract H enc W base args ds gs before hval hW hL hsz

theorem said : Rows.MixShortSaid :=
  OpenClaim.holds_of_cond 8 Tryd.f8 rfl rfl rfl rfl rfl rfl rfl ⟨rfl, rfl, rfl, rfl, rfl⟩ rfl rfl rfl rfl rfl (by kernel_rfl) Tryd.func8 (by kernel_rfl)
    (of_decide_eq_true (by kernel_rfl)) (by unfold Func.isWrapper; first | (rw [if_pos (by decide +kernel)]; kernel_rfl) | (rw [if_neg (by decide +kernel)]; exact ⟨rfl, rfl⟩))
    (fun os started H enc _ F => by rw [OpenClaim.pre_eq_preRow]; exact lifted os started H enc F)

theorem plain (f : FuncId) (fn : Func) (hf : Tryd.pinned.checked.prog.funcNamed "casket/casketlaw07.MixShort" = some f) (hfn : Tryd.pinned.checked.prog.funcs[f]? = some fn) :
    false = Tryd.pinned.checked.prog.looks [] ∧ ∀ (j : Nat) t, fn.params[j]? = some t → Tryd.pinned.checked.prog.wantsStandIn t = false := by
  obtain rfl : f = 8 := Option.some.inj ((show Tryd.prog.funcNamed "casket/casketlaw07.MixShort" = some 8 by kernel_rfl).symm.trans hf) |>.symm
  obtain rfl : fn = Tryd.f8 := (Option.some.inj (Tryd.func8.symm.trans hfn)).symm
  refine ⟨by kernel_rfl, fun j t ht => ?_⟩
  rw [Tryd.params8] at ht
  have hm : t ∈ [3, 22] := by simpa using Array.mem_of_getElem? ht
  have hall : ([3, 22].all fun u => !Tryd.prog.wantsStandIn u) = true := by kernel_rfl
  exact (show Tryd.prog.wantsStandIn t = false by simpa using List.all_eq_true.1 hall t hm)

theorem card : Rows.MixShortCardSaid :=
  Claim7.holds_tied_plain_at .later [] _ _ _ _ said (fun _ h => by cases h) (by kernel_rfl) (fun _ h => by cases h) mixShort_row_tie rfl ⟨rfl, rfl⟩ (by kernel_rfl) rfl plain (by kernel_rfl)
end Go.Proofs.YtfbmeclpcgdmhaaDoor.mixShort
namespace Go.Proofs.YtfbmeclpcgdmhaaDoor
theorem mixShort_holds : Rows.MixShortCardSaid := mixShort.card
end Go.Proofs.YtfbmeclpcgdmhaaDoor
