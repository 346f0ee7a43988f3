/-
  For every length and all bytes that hold together at most 1048576 values the law MixLong returns true, and its arguments read behind the call as they read before; the package-level table of places is as the program lays it.
-/
import Derived.Test.YtfbmeclpcgdmhaaDoorCards
import Derived.Test.YtfbmeclpcgdmhaaDoorTie
import Derived.WalkKit
import Derived.ProofKit
import Derived.OpenShut
import Derived.ShutString
import Derived.ChangeOld
import Derived.Below
import Derived.Deep.DeepHandedRow
import Derived.Lib.LaidTab
import Derived.Test.YtfbmeclpcgdmhaaDoorRLong
import Derived.Test.YtfbmeclpcgdmhaaDoorOpenU
import Derived.Test.YtfbmeclpcgdmhaaDoorTabP
namespace Go.Proofs.YtfbmeclpcgdmhaaDoor.mixLong
open Go.ChangeShapes Go.WideShapes Go.ChangeAt Go.RowKit
set_option linter.unusedVariables false

theorem own : ownKnob Tryd.prog.godebug = none := by kernel_rfl
theorem laidOut : laidOutB Tryd.prog = true := by kernel_rfl
theorem gTab : Tryd.prog.globalNamed "casket/blake.places" = some 1 := by kernel_rfl
theorem gTabType : (Tryd.prog.globals[1]?).map (·.type) = some 55 := by kernel_rfl
theorem cellsG : Tryd.prog.cellsOf 55 = 32 := by kernel_rfl
theorem tabC {W : World} (h : laidMetH Tryd.prog Rows.mixLongUptoRow.laid W) (h0 : 1 < W.heap.size) : TabC W := ⟨fun j hj => tab_places h j hj, h0⟩

open Go.BigFrame
theorem grownE {w X Y : World} {e : TypeId} {v : Value} {n base : Nat} {g : Nat → Value} (hE : Ext w X) (hO : OwnB base e v n g X) (hb : w.heap.size ≤ base) (hg : X.grownBy Y v.ownBlock) : Ext w Y :=
  Below.trans hE (below_grown (Below.size hE) hg fun k hk => Nat.le_trans hb (hO.lt k hk).1)
def two {α : Type} (a b : α) (j : Nat) : α := if j = 0 then a else b
theorem partsTwo (X : World) (v1 v2 : Value) (l1 l2 : Nat) (b1 b2 : Nat → BitVec 8) (h1 : BV v1 l1 b1 (X.alloc (.cells #[v1, v2] 22))) (h2 : BV v2 l2 b2 (X.alloc (.cells #[v1, v2] 22))) : Parts (.slice (some ⟨X.heap.size, 0, none⟩) 2 2) 2 (two v1 v2) (two l1 l2) (two b1 b2) (X.alloc (.cells #[v1, v2] 22)) := by
  refine ⟨.inr ⟨_, 2, rfl, Nat.le_refl _, lieNew X 2 _ 22 (0, 0) _ (fun j hj => by
    rcases (by omega : j = 0 ∨ j = 1) with rfl | rfl <;> rfl)⟩, fun i hi => ?_⟩
  rcases (by omega : i = 0 ∨ i = 1) with rfl | rfl
  · exact h1
  · exact h2
theorem two_all (la lb : Nat) (ba bb : Nat → BitVec 8) (j : Nat) : allF (two la lb) (two ba bb) 2 j = catF ba la bb j := by
  show catF (catF (fun _ => 0#8) (0 + 0) ba) (0 + (0 + la)) bb j = catF ba la bb j
  simp only [Nat.zero_add, cat0]
set_option maxRecDepth 20000 in
set_option maxHeartbeats 4000000 in
theorem good (n la lb : Nat) (hn1 : 1 ≤ n) (hn2 : n ≤ 65536) (oa ob : Option Addr) (ca cb : Nat) (ba bb : Nat → BitVec 8) (w : World) (hla : la ≤ 1048576) (hlb : lb ≤ 1048576) (hA : Hid (BV (.slice oa la ca) la ba w)) (hBb : Hid (BV (.slice ob lb cb) lb bb w)) (hC : Hid (TabC w)) :
    Calls Tryd.prog 3 #[.int .i64 (n : Int), .slice oa la ca, .slice ob lb cb] w fun e w' => e = .returned (.bool true) ∧ Below w.heap.size w w' := by
  go_enter Tryd.func3, Tryd.ntmps3
  go_upto_region 1 with (fail)
  refine wp_region_lit ?_
  have hE00 := Ext.refl w
  have hEeh : Ext w (w.alloc (.cells #[] 5)) := (Below.refl _ _).alloc (Nat.le_refl _) _
  have hOeh := own_empty w w.heap.size 5 (yv ba) (Nat.le_refl _)
  refine wpList_to rfl (.slice (some ⟨w.heap.size, 0, none⟩) 0 0) (w.alloc (.cells #[] 5)) (by simp [go_sem]) ?_
  simp only [Act.put, List.setIfInBounds_toArray, List.set_cons_zero, List.set_cons_succ]
  refine wpList_run rfl (.slice oa la ca) (by simp [go_sem]) ?_
  simp only [Act.put, List.setIfInBounds_toArray, List.set_cons_zero, List.set_cons_succ]
  refine wpList_growV (n := 0) (base := w.heap.size) elem22 rfl (.tmp 12) (.tmp 13) rfl rfl hOeh (.slice oa la ca) la ba (yv ba) rfl (hA.out.ext (Ext.trans hE00 hEeh)) (fun _ _ => rfl) (fun j hj => by rw [Nat.zero_add]) (by omega) (Below.size hEeh) ?_
  intro vha Yha hOha hgha
  rw [Nat.zero_add] at hOha
  have hEha := grownE hEeh hOeh (Nat.le_refl _) hgha
  obtain ⟨oha, cha, rfl⟩ := hOha.bv.form
  simp only [Act.put, List.setIfInBounds_toArray, List.set_cons_zero, List.set_cons_succ]
  clear hEeh hOeh hgha
  go_upto_region 2 with (fail)
  refine wp_region_lit ?_
  refine wpList_run rfl (.int .i64 (n : Int)) (by simp [go_sem]) ?_
  simp only [Act.put, List.setIfInBounds_toArray, List.set_cons_zero, List.set_cons_succ]
  refine wpList_run rfl (.slice oha la cha) (by simp [go_sem]) ?_
  simp only [Act.put, List.setIfInBounds_toArray, List.set_cons_zero, List.set_cons_succ]
  refine wpList_run rfl (.slice ob lb cb) (by simp [go_sem]) ?_
  simp only [Act.put, List.setIfInBounds_toArray, List.set_cons_zero, List.set_cons_succ]
  have hEp : Ext Yha (Yha.alloc (.cells #[.slice oha la cha, .slice ob lb cb] 22)) := (Below.refl _ _).alloc (Nat.le_refl _) _
  have hEq := Ext.trans hEha hEp
  refine wpList_to rfl (.slice (some ⟨Yha.heap.size, 0, none⟩) 2 2) (Yha.alloc (.cells #[.slice oha la cha, .slice ob lb cb] 22)) (by simp [go_sem]) ?_
  simp only [Act.put, List.setIfInBounds_toArray, List.set_cons_zero, List.set_cons_succ]
  have hs1 := long_any n 2 (la + lb) hn1 hn2 _ _ _ _ (catF ba la bb) (Yha.alloc (.cells #[.slice oha la cha, .slice ob lb cb] 22)) (partsTwo Yha (.slice oha la cha) (.slice ob lb cb) la lb ba bb (hOha.bv.ext hEp) (hBb.out.ext hEq)) (hC.out.ext hEq) (by omega) (by simp [sumL, two]) (fun j hj => two_all la lb ba bb j)
  refine wpList_call rfl (by simp [go_sem]) (hs1.mono ?_)
  rintro e X1 ⟨v1, rfl, hO1, hE1⟩
  refine ⟨_, rfl, ?_⟩
  obtain ⟨o1, c1, rfl⟩ := hO1.bv.form
  have HB1 := hideit hO1.bv
  have hF1 := Ext.trans hEp hE1
  clear hE1 hO1
  simp only [Act.put, List.setIfInBounds_toArray, List.set_cons_zero, List.set_cons_succ]
  refine wpList_run rfl (.tuple #[.slice o1 n c1, .int .i64 0]) (by simp [go_sem]) ?_
  simp only [Act.put, List.setIfInBounds_toArray, List.set_cons_zero, List.set_cons_succ]
  refine wpList_run rfl (.slice o1 n c1) (by simp [go_sem]) ?_
  simp only [Act.put, List.setIfInBounds_toArray, List.set_cons_zero, List.set_cons_succ]
  refine wpList_run rfl (.int .i64 0) (by simp [go_sem]) ?_
  simp only [Act.put, List.setIfInBounds_toArray, List.set_cons_zero, List.set_cons_succ]
  refine wpList_run rfl (.slice o1 n c1) (by simp [go_sem]) ?_
  simp only [Act.put, List.setIfInBounds_toArray, List.set_cons_zero, List.set_cons_succ]
  refine wpList_run rfl (.int .i64 0) (by simp [go_sem]) ?_
  simp only [Act.put, List.setIfInBounds_toArray, List.set_cons_zero, List.set_cons_succ]
  have HH1 := hideit (hOha.bv.ext hF1)
  have HX1 := hideit (Ext.trans hEha hF1)
  clear hOha hEp hEq hEha hF1 hE00
  go_upto_region 3 with (fail)
  refine wp_region_lit ?_
  refine wpList_run rfl (.int .i64 (n : Int)) (by simp [go_sem]) ?_
  simp only [Act.put, List.setIfInBounds_toArray, List.set_cons_zero, List.set_cons_succ]
  have hEer : Ext X1 (X1.alloc (.cells #[] 5)) := (Below.refl _ _).alloc (Nat.le_refl _) _
  have hOer := own_empty X1 X1.heap.size 5 (yv (catF ba la bb)) (Nat.le_refl _)
  refine wpList_to rfl (.slice (some ⟨X1.heap.size, 0, none⟩) 0 0) (X1.alloc (.cells #[] 5)) (by simp [go_sem]) ?_
  simp only [Act.put, List.setIfInBounds_toArray, List.set_cons_zero, List.set_cons_succ]
  refine wpList_run rfl (.slice oa la ca) (by simp [go_sem]) ?_
  simp only [Act.put, List.setIfInBounds_toArray, List.set_cons_zero, List.set_cons_succ]
  refine wpList_growV (n := 0) (base := X1.heap.size) elem22 rfl (.tmp 25) (.tmp 26) rfl rfl hOer (.slice oa la ca) la ba (yv (catF ba la bb)) rfl (hA.out.ext (Ext.trans HX1.out hEer)) (fun _ _ => rfl) (fun j hj => by simp only [yv]; rw [Nat.zero_add]; unfold catF; rw [if_pos hj]) (by omega) (Below.size hEer) ?_
  intro vra Yra hOra hgra
  rw [Nat.zero_add] at hOra
  have hEra := grownE hEer hOer (Nat.le_refl _) hgra
  obtain ⟨ora, cra, rfl⟩ := hOra.bv.form
  simp only [Act.put, List.setIfInBounds_toArray, List.set_cons_zero, List.set_cons_succ]
  clear hEer hOer hgra
  refine wpList_run rfl (.slice ob lb cb) (by simp [go_sem]) ?_
  simp only [Act.put, List.setIfInBounds_toArray, List.set_cons_zero, List.set_cons_succ]
  refine wpList_growV (n := la) (base := X1.heap.size) elem22 rfl (.tmp 27) (.tmp 28) rfl rfl hOra (.slice ob lb cb) lb bb (yv (catF ba la bb)) rfl (hBb.out.ext (Ext.trans HX1.out hEra)) (fun _ _ => rfl) (fun j hj => by simp only [yv]; unfold catF; rw [if_neg (by omega), Nat.add_sub_cancel_left]) (by omega) (Below.size hEra) ?_
  intro vrb Yrb hOrb hgrb
  have hErb := grownE hEra hOra (Nat.le_refl _) hgrb
  obtain ⟨orb, crb, rfl⟩ := hOrb.bv.form
  simp only [Act.put, List.setIfInBounds_toArray, List.set_cons_zero, List.set_cons_succ]
  clear hEra hOra hgrb
  have hs2 := rlong_any n (la + lb) hn1 hn2 (.slice orb (la + lb) crb) (catF ba la bb) Yrb hOrb.bv (by omega)
  refine wpList_call rfl (by simp [go_sem]) (hs2.mono ?_)
  rintro e X2 ⟨v2, rfl, hO2, hE2⟩
  refine ⟨_, rfl, ?_⟩
  obtain ⟨o2, c2, rfl⟩ := hO2.bv.form
  have HB2 := hideit hO2.bv
  have hF2 := Ext.trans hErb hE2
  clear hE2 hO2
  simp only [Act.put, List.setIfInBounds_toArray, List.set_cons_zero, List.set_cons_succ]
  refine wpList_run rfl (.tuple #[.slice o2 n c2, .int .i64 0]) (by simp [go_sem]) ?_
  simp only [Act.put, List.setIfInBounds_toArray, List.set_cons_zero, List.set_cons_succ]
  refine wpList_run rfl (.slice o2 n c2) (by simp [go_sem]) ?_
  simp only [Act.put, List.setIfInBounds_toArray, List.set_cons_zero, List.set_cons_succ]
  refine wpList_run rfl (.int .i64 0) (by simp [go_sem]) ?_
  simp only [Act.put, List.setIfInBounds_toArray, List.set_cons_zero, List.set_cons_succ]
  refine wpList_run rfl (.slice o2 n c2) (by simp [go_sem]) ?_
  simp only [Act.put, List.setIfInBounds_toArray, List.set_cons_zero, List.set_cons_succ]
  refine wpList_run rfl (.int .i64 0) (by simp [go_sem]) ?_
  simp only [Act.put, List.setIfInBounds_toArray, List.set_cons_zero, List.set_cons_succ]
  have HH2 := hideit (HH1.out.ext hF2)
  have HX2 := hideit (Ext.trans HX1.out hF2)
  have HB1_2 := hideit (HB1.out.ext hF2)
  clear HB1
  clear HH1 HX1 hF2 hErb hOrb
  go_upto_region 4 with (fail)
  refine wp_region_lit ?_
  refine wpList_call rfl (by simp [go_sem]) ((lives_any X2 (hC.out.ext HX2.out)).mono ?_)
  rintro e X3 ⟨rfl, hE3⟩
  refine ⟨_, rfl, ?_⟩
  have HX3 := hideit (Ext.trans HX2.out hE3)
  have hc3 := convV _ _ _ _ (HH2.out.ext hE3)
  have hc4 := convV _ _ _ _ (hA.out.ext HX3.out)
  obtain ⟨sa, hsa⟩ : ∃ sa, sa = bstr la (fun j => ((ba j).toNat : Int)) := ⟨_, rfl⟩
  rw [← hsa] at hc3 hc4
  clear hsa
  have hc1 := convV _ _ _ _ (HB1_2.out.ext hE3)
  have hc2 := convV _ _ _ _ (HB2.out.ext hE3)
  obtain ⟨sx, hsx⟩ : ∃ sx, sx = bstr n (fun j => ((longF n (catF ba la bb) (la + lb) j).toNat : Int)) := ⟨_, rfl⟩
  rw [← hsx] at hc1 hc2
  clear hsx
  simp only [Act.put, List.setIfInBounds_toArray, List.set_cons_zero, List.set_cons_succ]
  refine wpList_run rfl (.bool true) (by simp [go_sem]) ?_
  simp only [Act.put, List.setIfInBounds_toArray, List.set_cons_zero, List.set_cons_succ]
  refine wpList_runW rfl (.slice o1 n c1) (by simp [go_sem]) ?_
  simp only [Act.put, List.setIfInBounds_toArray, List.set_cons_zero, List.set_cons_succ]
  refine wpList_runW rfl (.string sx) (by simp [go_sem, hc1]) ?_
  simp only [Act.put, List.setIfInBounds_toArray, List.set_cons_zero, List.set_cons_succ]
  refine wpList_runW rfl (.slice o2 n c2) (by simp [go_sem]) ?_
  simp only [Act.put, List.setIfInBounds_toArray, List.set_cons_zero, List.set_cons_succ]
  refine wpList_runW rfl (.string sx) (by simp [go_sem, hc2]) ?_
  simp only [Act.put, List.setIfInBounds_toArray, List.set_cons_zero, List.set_cons_succ]
  refine wpList_runW rfl (.bool true) (by simp [go_sem]) ?_
  simp only [Act.put, List.setIfInBounds_toArray, List.set_cons_zero, List.set_cons_succ]
  refine wpList_run rfl (.bool true) (by simp [go_sem]) ?_
  simp only [Act.put, List.setIfInBounds_toArray, List.set_cons_zero, List.set_cons_succ]
  refine wpList_run rfl (.bool true) (by simp [go_sem]) ?_
  simp only [Act.put, List.setIfInBounds_toArray, List.set_cons_zero, List.set_cons_succ]
  refine wpList_runW rfl (.int .i64 0) (by simp [go_sem]) ?_
  simp only [Act.put, List.setIfInBounds_toArray, List.set_cons_zero, List.set_cons_succ]
  refine wpList_runW rfl (.int .i64 0) (by simp [go_sem]) ?_
  simp only [Act.put, List.setIfInBounds_toArray, List.set_cons_zero, List.set_cons_succ]
  refine wpList_runW rfl (.bool true) (by simp [go_sem]) ?_
  simp only [Act.put, List.setIfInBounds_toArray, List.set_cons_zero, List.set_cons_succ]
  refine wpList_run rfl (.bool true) (by simp [go_sem]) ?_
  simp only [Act.put, List.setIfInBounds_toArray, List.set_cons_zero, List.set_cons_succ]
  refine wpList_run rfl (.bool true) (by simp [go_sem]) ?_
  simp only [Act.put, List.setIfInBounds_toArray, List.set_cons_zero, List.set_cons_succ]
  refine wpList_runW rfl (.slice oha la cha) (by simp [go_sem]) ?_
  simp only [Act.put, List.setIfInBounds_toArray, List.set_cons_zero, List.set_cons_succ]
  refine wpList_runW rfl (.string sa) (by simp [go_sem, hc3]) ?_
  simp only [Act.put, List.setIfInBounds_toArray, List.set_cons_zero, List.set_cons_succ]
  refine wpList_runW rfl (.slice oa la ca) (by simp [go_sem]) ?_
  simp only [Act.put, List.setIfInBounds_toArray, List.set_cons_zero, List.set_cons_succ]
  refine wpList_runW rfl (.string sa) (by simp [go_sem, hc4]) ?_
  simp only [Act.put, List.setIfInBounds_toArray, List.set_cons_zero, List.set_cons_succ]
  refine wpList_runW rfl (.bool true) (by simp [go_sem]) ?_
  simp only [Act.put, List.setIfInBounds_toArray, List.set_cons_zero, List.set_cons_succ]
  refine wpList_run rfl (.bool true) (by simp [go_sem]) ?_
  simp only [Act.put, List.setIfInBounds_toArray, List.set_cons_zero, List.set_cons_succ]
  clear hc1 hc2 hc3 hc4
  go_wp2
  go_ret
  exact ⟨rfl, HX3.out⟩
set_option maxRecDepth 20000 in
set_option maxHeartbeats 4000000 in
theorem bad (z : Int) (hz : z < 1 ∨ 65536 < z) (la lb : Nat) (oa ob : Option Addr) (ca cb : Nat) (ba bb : Nat → BitVec 8) (w : World) (hla : la ≤ 1048576) (hlb : lb ≤ 1048576) (hA : Hid (BV (.slice oa la ca) la ba w)) (hBb : Hid (BV (.slice ob lb cb) lb bb w)) (hC : Hid (TabC w)) :
    Calls Tryd.prog 3 #[.int .i64 z, .slice oa la ca, .slice ob lb cb] w fun e w' => e = .returned (.bool true) ∧ Below w.heap.size w w' := by
  go_enter Tryd.func3, Tryd.ntmps3
  go_upto_region 1 with (fail)
  refine wp_region_lit ?_
  have hE00 := Ext.refl w
  have hEeh : Ext w (w.alloc (.cells #[] 5)) := (Below.refl _ _).alloc (Nat.le_refl _) _
  have hOeh := own_empty w w.heap.size 5 (yv ba) (Nat.le_refl _)
  refine wpList_to rfl (.slice (some ⟨w.heap.size, 0, none⟩) 0 0) (w.alloc (.cells #[] 5)) (by simp [go_sem]) ?_
  simp only [Act.put, List.setIfInBounds_toArray, List.set_cons_zero, List.set_cons_succ]
  refine wpList_run rfl (.slice oa la ca) (by simp [go_sem]) ?_
  simp only [Act.put, List.setIfInBounds_toArray, List.set_cons_zero, List.set_cons_succ]
  refine wpList_growV (n := 0) (base := w.heap.size) elem22 rfl (.tmp 12) (.tmp 13) rfl rfl hOeh (.slice oa la ca) la ba (yv ba) rfl (hA.out.ext (Ext.trans hE00 hEeh)) (fun _ _ => rfl) (fun j hj => by rw [Nat.zero_add]) (by omega) (Below.size hEeh) ?_
  intro vha Yha hOha hgha
  rw [Nat.zero_add] at hOha
  have hEha := grownE hEeh hOeh (Nat.le_refl _) hgha
  obtain ⟨oha, cha, rfl⟩ := hOha.bv.form
  simp only [Act.put, List.setIfInBounds_toArray, List.set_cons_zero, List.set_cons_succ]
  clear hEeh hOeh hgha
  go_upto_region 2 with (fail)
  refine wp_region_lit ?_
  refine wpList_run rfl (.int .i64 z) (by simp [go_sem]) ?_
  simp only [Act.put, List.setIfInBounds_toArray, List.set_cons_zero, List.set_cons_succ]
  refine wpList_run rfl (.slice oha la cha) (by simp [go_sem]) ?_
  simp only [Act.put, List.setIfInBounds_toArray, List.set_cons_zero, List.set_cons_succ]
  refine wpList_run rfl (.slice ob lb cb) (by simp [go_sem]) ?_
  simp only [Act.put, List.setIfInBounds_toArray, List.set_cons_zero, List.set_cons_succ]
  have hEp : Ext Yha (Yha.alloc (.cells #[.slice oha la cha, .slice ob lb cb] 22)) := (Below.refl _ _).alloc (Nat.le_refl _) _
  have hEq := Ext.trans hEha hEp
  refine wpList_to rfl (.slice (some ⟨Yha.heap.size, 0, none⟩) 2 2) (Yha.alloc (.cells #[.slice oha la cha, .slice ob lb cb] 22)) (by simp [go_sem]) ?_
  simp only [Act.put, List.setIfInBounds_toArray, List.set_cons_zero, List.set_cons_succ]
  refine wpList_call rfl (by simp [go_sem]) ((long_bad z (.slice (some ⟨Yha.heap.size, 0, none⟩) 2 2) hz (Yha.alloc (.cells #[.slice oha la cha, .slice ob lb cb] 22))).mono ?_)
  rintro e X1 ⟨rfl, hX1⟩
  have hF1 := hEp
  rw [← hX1] at hF1
  clear hX1
  refine ⟨_, rfl, ?_⟩
  simp only [Act.put, List.setIfInBounds_toArray, List.set_cons_zero, List.set_cons_succ]
  refine wpList_run rfl (.tuple #[.slice none 0 0, .int .i64 1]) (by simp [go_sem]) ?_
  simp only [Act.put, List.setIfInBounds_toArray, List.set_cons_zero, List.set_cons_succ]
  refine wpList_run rfl (.slice none 0 0) (by simp [go_sem]) ?_
  simp only [Act.put, List.setIfInBounds_toArray, List.set_cons_zero, List.set_cons_succ]
  refine wpList_run rfl (.int .i64 1) (by simp [go_sem]) ?_
  simp only [Act.put, List.setIfInBounds_toArray, List.set_cons_zero, List.set_cons_succ]
  refine wpList_run rfl (.slice none 0 0) (by simp [go_sem]) ?_
  simp only [Act.put, List.setIfInBounds_toArray, List.set_cons_zero, List.set_cons_succ]
  refine wpList_run rfl (.int .i64 1) (by simp [go_sem]) ?_
  simp only [Act.put, List.setIfInBounds_toArray, List.set_cons_zero, List.set_cons_succ]
  have HH1 := hideit (hOha.bv.ext hF1)
  have HX1 := hideit (Ext.trans hEha hF1)
  clear hOha hEp hEq hEha hF1 hE00
  go_upto_region 3 with (fail)
  refine wp_region_lit ?_
  refine wpList_run rfl (.int .i64 z) (by simp [go_sem]) ?_
  simp only [Act.put, List.setIfInBounds_toArray, List.set_cons_zero, List.set_cons_succ]
  have hEer : Ext X1 (X1.alloc (.cells #[] 5)) := (Below.refl _ _).alloc (Nat.le_refl _) _
  have hOer := own_empty X1 X1.heap.size 5 (yv (catF ba la bb)) (Nat.le_refl _)
  refine wpList_to rfl (.slice (some ⟨X1.heap.size, 0, none⟩) 0 0) (X1.alloc (.cells #[] 5)) (by simp [go_sem]) ?_
  simp only [Act.put, List.setIfInBounds_toArray, List.set_cons_zero, List.set_cons_succ]
  refine wpList_run rfl (.slice oa la ca) (by simp [go_sem]) ?_
  simp only [Act.put, List.setIfInBounds_toArray, List.set_cons_zero, List.set_cons_succ]
  refine wpList_growV (n := 0) (base := X1.heap.size) elem22 rfl (.tmp 25) (.tmp 26) rfl rfl hOer (.slice oa la ca) la ba (yv (catF ba la bb)) rfl (hA.out.ext (Ext.trans HX1.out hEer)) (fun _ _ => rfl) (fun j hj => by simp only [yv]; rw [Nat.zero_add]; unfold catF; rw [if_pos hj]) (by omega) (Below.size hEer) ?_
  intro vra Yra hOra hgra
  rw [Nat.zero_add] at hOra
  have hEra := grownE hEer hOer (Nat.le_refl _) hgra
  obtain ⟨ora, cra, rfl⟩ := hOra.bv.form
  simp only [Act.put, List.setIfInBounds_toArray, List.set_cons_zero, List.set_cons_succ]
  clear hEer hOer hgra
  refine wpList_run rfl (.slice ob lb cb) (by simp [go_sem]) ?_
  simp only [Act.put, List.setIfInBounds_toArray, List.set_cons_zero, List.set_cons_succ]
  refine wpList_growV (n := la) (base := X1.heap.size) elem22 rfl (.tmp 27) (.tmp 28) rfl rfl hOra (.slice ob lb cb) lb bb (yv (catF ba la bb)) rfl (hBb.out.ext (Ext.trans HX1.out hEra)) (fun _ _ => rfl) (fun j hj => by simp only [yv]; unfold catF; rw [if_neg (by omega), Nat.add_sub_cancel_left]) (by omega) (Below.size hEra) ?_
  intro vrb Yrb hOrb hgrb
  have hErb := grownE hEra hOra (Nat.le_refl _) hgrb
  obtain ⟨orb, crb, rfl⟩ := hOrb.bv.form
  simp only [Act.put, List.setIfInBounds_toArray, List.set_cons_zero, List.set_cons_succ]
  clear hEra hOra hgrb
  refine wpList_call rfl (by simp [go_sem]) ((rlong_bad z (.slice orb (la + lb) crb) hz Yrb).mono ?_)
  rintro e X2 ⟨rfl, hX2⟩
  have hF2 := hErb
  rw [← hX2] at hF2
  clear hX2
  refine ⟨_, rfl, ?_⟩
  simp only [Act.put, List.setIfInBounds_toArray, List.set_cons_zero, List.set_cons_succ]
  refine wpList_run rfl (.tuple #[.slice none 0 0, .int .i64 1]) (by simp [go_sem]) ?_
  simp only [Act.put, List.setIfInBounds_toArray, List.set_cons_zero, List.set_cons_succ]
  refine wpList_run rfl (.slice none 0 0) (by simp [go_sem]) ?_
  simp only [Act.put, List.setIfInBounds_toArray, List.set_cons_zero, List.set_cons_succ]
  refine wpList_run rfl (.int .i64 1) (by simp [go_sem]) ?_
  simp only [Act.put, List.setIfInBounds_toArray, List.set_cons_zero, List.set_cons_succ]
  refine wpList_run rfl (.slice none 0 0) (by simp [go_sem]) ?_
  simp only [Act.put, List.setIfInBounds_toArray, List.set_cons_zero, List.set_cons_succ]
  refine wpList_run rfl (.int .i64 1) (by simp [go_sem]) ?_
  simp only [Act.put, List.setIfInBounds_toArray, List.set_cons_zero, List.set_cons_succ]
  have HH2 := hideit (HH1.out.ext hF2)
  have HX2 := hideit (Ext.trans HX1.out hF2)
  clear HH1 HX1 hF2 hErb hOrb
  go_upto_region 4 with (fail)
  refine wp_region_lit ?_
  refine wpList_call rfl (by simp [go_sem]) ((lives_any X2 (hC.out.ext HX2.out)).mono ?_)
  rintro e X3 ⟨rfl, hE3⟩
  refine ⟨_, rfl, ?_⟩
  have HX3 := hideit (Ext.trans HX2.out hE3)
  have hc3 := convV _ _ _ _ (HH2.out.ext hE3)
  have hc4 := convV _ _ _ _ (hA.out.ext HX3.out)
  obtain ⟨sa, hsa⟩ : ∃ sa, sa = bstr la (fun j => ((ba j).toNat : Int)) := ⟨_, rfl⟩
  rw [← hsa] at hc3 hc4
  clear hsa
  have hc1 := convV (.slice none 0 0) 0 (fun _ => 0#8) X3 (nil_bv X3)
  obtain ⟨sx, hsx⟩ : ∃ sx, sx = bstr 0 (fun j => (((fun _ => 0#8 : Nat → BitVec 8) j).toNat : Int)) := ⟨_, rfl⟩
  rw [← hsx] at hc1
  clear hsx
  have hc2 := hc1
  simp only [Act.put, List.setIfInBounds_toArray, List.set_cons_zero, List.set_cons_succ]
  refine wpList_run rfl (.bool true) (by simp [go_sem]) ?_
  simp only [Act.put, List.setIfInBounds_toArray, List.set_cons_zero, List.set_cons_succ]
  refine wpList_runW rfl (.slice none 0 0) (by simp [go_sem]) ?_
  simp only [Act.put, List.setIfInBounds_toArray, List.set_cons_zero, List.set_cons_succ]
  refine wpList_runW rfl (.string sx) (by simp [go_sem, hc1]) ?_
  simp only [Act.put, List.setIfInBounds_toArray, List.set_cons_zero, List.set_cons_succ]
  refine wpList_runW rfl (.slice none 0 0) (by simp [go_sem]) ?_
  simp only [Act.put, List.setIfInBounds_toArray, List.set_cons_zero, List.set_cons_succ]
  refine wpList_runW rfl (.string sx) (by simp [go_sem, hc2]) ?_
  simp only [Act.put, List.setIfInBounds_toArray, List.set_cons_zero, List.set_cons_succ]
  refine wpList_runW rfl (.bool true) (by simp [go_sem]) ?_
  simp only [Act.put, List.setIfInBounds_toArray, List.set_cons_zero, List.set_cons_succ]
  refine wpList_run rfl (.bool true) (by simp [go_sem]) ?_
  simp only [Act.put, List.setIfInBounds_toArray, List.set_cons_zero, List.set_cons_succ]
  refine wpList_run rfl (.bool true) (by simp [go_sem]) ?_
  simp only [Act.put, List.setIfInBounds_toArray, List.set_cons_zero, List.set_cons_succ]
  refine wpList_runW rfl (.int .i64 1) (by simp [go_sem]) ?_
  simp only [Act.put, List.setIfInBounds_toArray, List.set_cons_zero, List.set_cons_succ]
  refine wpList_runW rfl (.int .i64 1) (by simp [go_sem]) ?_
  simp only [Act.put, List.setIfInBounds_toArray, List.set_cons_zero, List.set_cons_succ]
  refine wpList_runW rfl (.bool true) (by simp [go_sem]) ?_
  simp only [Act.put, List.setIfInBounds_toArray, List.set_cons_zero, List.set_cons_succ]
  refine wpList_run rfl (.bool true) (by simp [go_sem]) ?_
  simp only [Act.put, List.setIfInBounds_toArray, List.set_cons_zero, List.set_cons_succ]
  refine wpList_run rfl (.bool true) (by simp [go_sem]) ?_
  simp only [Act.put, List.setIfInBounds_toArray, List.set_cons_zero, List.set_cons_succ]
  refine wpList_runW rfl (.slice oha la cha) (by simp [go_sem]) ?_
  simp only [Act.put, List.setIfInBounds_toArray, List.set_cons_zero, List.set_cons_succ]
  refine wpList_runW rfl (.string sa) (by simp [go_sem, hc3]) ?_
  simp only [Act.put, List.setIfInBounds_toArray, List.set_cons_zero, List.set_cons_succ]
  refine wpList_runW rfl (.slice oa la ca) (by simp [go_sem]) ?_
  simp only [Act.put, List.setIfInBounds_toArray, List.set_cons_zero, List.set_cons_succ]
  refine wpList_runW rfl (.string sa) (by simp [go_sem, hc4]) ?_
  simp only [Act.put, List.setIfInBounds_toArray, List.set_cons_zero, List.set_cons_succ]
  refine wpList_runW rfl (.bool true) (by simp [go_sem]) ?_
  simp only [Act.put, List.setIfInBounds_toArray, List.set_cons_zero, List.set_cons_succ]
  refine wpList_run rfl (.bool true) (by simp [go_sem]) ?_
  simp only [Act.put, List.setIfInBounds_toArray, List.set_cons_zero, List.set_cons_succ]
  clear hc1 hc2 hc3 hc4
  go_wp2
  go_ret
  exact ⟨rfl, HX3.out⟩
theorem walk (z : Int) (_ : (Lit.int .i64 z).wf = true) (va vb : Value) (w : World) (h1 : BArgU va w) (h2 : BArgU vb w) (hC : TabC w) : Calls Tryd.prog 3 #[.int .i64 z, va, vb] w fun e w' => e = .returned (.bool true) ∧ Below w.heap.size w w' := by
  obtain ⟨la, ba, hA, hla⟩ := h1
  obtain ⟨lb, bb, hB, hlb⟩ := h2
  obtain ⟨oa, ca, rfl⟩ := hA.form
  obtain ⟨ob, cb, rfl⟩ := hB.form
  by_cases hz : 1 ≤ z ∧ z ≤ 65536
  · obtain ⟨n, rfl⟩ : ∃ n : Nat, z = (n : Int) := ⟨z.toNat, by omega⟩
    exact good n la lb (by omega) (by omega) oa ob ca cb ba bb w hla hlb hA hB hC
  · exact bad z (by omega) la lb oa ob ca cb ba bb w hla hlb hA hB hC

theorem contract (H : Type) (enc : TypeId × Value → H) (W : World) (base : Nat) (args : Array Value) (ds gs : List (DataW H)) (before : List MemPlace)
    (hval0 : ∀ (j : Nat) t v, Tryd.f3.params[j]? = some t → args[j]? = some v → Value.okWide Tryd.prog W .any base t v)
    (hW : DataW.Whole enc Tryd.prog Tryd.f3.params.toList Rows.mixLongSpec.vars false W args.toList ds gs before) (hL : laidMetH Tryd.prog Rows.mixLongUptoRow.laid W) (hB : Rows.uptoSmall H (ds ++ gs) = true) :
    Calls Tryd.prog 3 args W fun e W' => ∃ v, e = .returned v ∧ Rows.mixLongSpec.post enc Tryd.prog Tryd.f3 false true false false W args v W' := by
  have hval := hval0
  have hW' := hW
  obtain ⟨p, q, hA0, hV, rfl, hfz, hnd⟩ := hW
  have hA : DataW.TrodAll enc Tryd.prog W 0 (fun _ => true) true Tryd.f3.params.toList args.toList ds p := hA0
  rw [Tryd.params3] at hA hval
  obtain ⟨v0, vs0, d0, ds0, p0, q0, hargs, rfl, rfl, h0, r0⟩ := trodAll_cons hA
  obtain ⟨v1, vs1, d1, ds1, p1, q1, rfl, rfl, rfl, h1, r1⟩ := trodAll_cons r0
  obtain ⟨v2, vs2, d2, ds2, p2, q2, rfl, rfl, rfl, h2, r2⟩ := trodAll_cons r1
  obtain ⟨rfl, rfl, rfl⟩ := trodAll_nil r2
  obtain rfl : args = #[v0, v1, v2] := by cases args; simp_all
  obtain ⟨rfl, rfl⟩ := trodVars_none hV
  have h0s : 1 < W.heap.size := by
    have hc := tab_places hL 0 (by decide)
    rcases Nat.lt_or_ge 1 W.heap.size with h | h
    · exact h
    · exfalso
      have : W.heap[1]? = none := Array.getElem?_eq_none h
      simp [World.cell?, this] at hc
  have hC : TabC W := tabC hL h0s
  have k0 := h0
  have lt0 : ∀ x ∈ p0, x.block < W.heap.size := by obtain ⟨m, hm⟩ := k0; exact DataW.trod_lt m _ _ _ hm
  have k1 := h1
  have lt1 : ∀ x ∈ p1, x.block < W.heap.size := by obtain ⟨m, hm⟩ := k1; exact DataW.trod_lt m _ _ _ hm
  have k2 := h2
  have lt2 : ∀ x ∈ p2, x.block < W.heap.size := by obtain ⟨m, hm⟩ := k2; exact DataW.trod_lt m _ _ _ hm
  obtain ⟨a0, rfl, rfl, rfl, w0⟩ := open_int Tryd.underlying3 (hval 0 3 v0 rfl rfl) h0
  have B1 := bargU (hval 1 22 v1 rfl rfl) h1 (Nat.le_trans (bulk_mem (by simp)) (of_decide_eq_true hB))
  have B2 := bargU (hval 2 22 v2 rfl rfl) h2 (Nat.le_trans (bulk_mem (by simp)) (of_decide_eq_true hB))
  clear hA0 hval0
  refine (walk a0 w0 v1 v2 W B1 B2 hC).mono fun e W' ⟨he, bel⟩ => ?_
  subst he
  exact ⟨_, rfl, _, _, _, [], _, [], hW', trodAll_mk1 (shut_bool Tryd.underlying4 _), (trodAll_cons_mk (Below.trod laidOut (by kernel_rfl) (of_decide_eq_true (by kernel_rfl)) k0 bel lt0) (trodAll_cons_mk (Below.trod laidOut (by kernel_rfl) (of_decide_eq_true (by kernel_rfl)) k1 bel lt1) (trodAll_cons_mk (Below.trod laidOut (by kernel_rfl) (of_decide_eq_true (by kernel_rfl)) k2 bel lt2) trodAll_mk0))), rfl, bel.frame _, fun h => by cases h⟩

def wit : Array Value := #[.int .i64 0, .slice none 0 0, .slice none 0 0]
def dat {H : Type} : List (DataW H) := [.lit (.int .i64 0), .nil, .nil]
def setTab : Obj → Obj
  | .cells _ t frozen => .cells (row 32 (iv plF)).toArray t frozen
  | o => o
theorem laid_met (os : Os) : laidMet Tryd.prog Rows.mixLongUptoRow.laid (({ World.holding Tryd.prog os ⟨#[], #[], []⟩ with heap := (World.holding Tryd.prog os ⟨#[], #[], []⟩).heap.modify 1 setTab } : World).forCall (fun _ _ => 0) ⟨#[], wit, []⟩).memory :=
  laidMet_of_run' 8 (by kernel_rfl) (by kernel_rfl)
theorem reads (os : Os) {H : Type} (enc : TypeId × Value → H) : ∃ places, DataW.whole enc Tryd.prog (({ World.holding Tryd.prog os ⟨#[], #[], []⟩ with heap := (World.holding Tryd.prog os ⟨#[], #[], []⟩).heap.modify 1 setTab } : World).forCall (fun _ _ => 0) ⟨#[], wit, []⟩).memory Tryd.f3.params.toList Rows.mixLongSpec.vars false wit.toList 8 = some (dat, [], places) :=
  ⟨[], by kernel_rfl⟩

set_option maxRecDepth 100000 in
theorem lifted (os : Os) (started : os.Started) (H : Type) (enc : TypeId × Value → H) (F : Stop.Interp) :
    ReturnsInHanded {} Tryd.checked os 3 .any ((Rows.OpenSpec.upto Rows.mixLongSpec).preRow enc Tryd.prog Tryd.f3 Rows.mixLongUptoRow.domain false Rows.mixLongUptoRow.laid) (((Rows.OpenSpec.upto Rows.mixLongSpec).at F).post enc Tryd.prog Tryd.f3 false true false false) := by
  obtain ⟨places, hx⟩ := reads os enc
  refine returnsInHanded_of_row (C := Tryd.checked) (s := (Rows.OpenSpec.upto Rows.mixLongSpec)) own started (by kernel_rfl) Tryd.func3
    (witness_row_at (enc := enc) (C := Tryd.checked) false ({ World.holding Tryd.prog os ⟨#[], #[], []⟩ with heap := (World.holding Tryd.prog os ⟨#[], #[], []⟩).heap.modify 1 setTab } : World) wit rfl (by kernel_rfl) (by kernel_rfl) (by kernel_rfl)
      (OpenSpec.preRow_of_cond 8 hx (by kernel_rfl) (fun k hk => by cases hk; kernel_rfl) (by kernel_rfl) (laid_met os))) ?_
  intro W base args ds gs before hval hW _ hcond hsz hL _ _
  exact contract H enc W base args ds gs before hval hW hL (hcond _ rfl)

theorem said : Rows.MixLongUptoSaid :=
  OpenClaim.holds_of_cond 3 Tryd.f3 rfl rfl rfl rfl rfl rfl rfl ⟨rfl, rfl, rfl, rfl, rfl⟩ rfl rfl rfl rfl rfl (by kernel_rfl) Tryd.func3 (by kernel_rfl)
    (of_decide_eq_true (by kernel_rfl)) (by unfold Func.isWrapper; first | (rw [if_pos (by decide +kernel)]; kernel_rfl) | (rw [if_neg (by decide +kernel)]; exact ⟨rfl, rfl⟩))
    (fun os started H enc _ F => by rw [OpenClaim.pre_eq_preRow]; exact lifted os started H enc F)

theorem plain (f : FuncId) (fn : Func) (hf : Tryd.pinned.checked.prog.funcNamed "casket/casketlaw07.MixLong" = some f) (hfn : Tryd.pinned.checked.prog.funcs[f]? = some fn) :
    false = Tryd.pinned.checked.prog.looks [] ∧ ∀ (j : Nat) t, fn.params[j]? = some t → Tryd.pinned.checked.prog.wantsStandIn t = false := by
  obtain rfl : f = 3 := Option.some.inj ((show Tryd.prog.funcNamed "casket/casketlaw07.MixLong" = some 3 by kernel_rfl).symm.trans hf) |>.symm
  obtain rfl : fn = Tryd.f3 := (Option.some.inj (Tryd.func3.symm.trans hfn)).symm
  refine ⟨by kernel_rfl, fun j t ht => ?_⟩
  rw [Tryd.params3] at ht
  have hm : t ∈ [3, 22, 22] := by simpa using Array.mem_of_getElem? ht
  have hall : ([3, 22, 22].all fun u => !Tryd.prog.wantsStandIn u) = true := by kernel_rfl
  exact (show Tryd.prog.wantsStandIn t = false by simpa using List.all_eq_true.1 hall t hm)

theorem card : Rows.MixLongUptoCardSaid :=
  Claim7.holds_tied_plain_at .later [] _ _ _ _ said (fun _ h => by cases h) (by kernel_rfl) (fun _ h => by cases h) mixLongUpto_row_tie rfl ⟨rfl, rfl⟩ (by kernel_rfl) rfl plain (by kernel_rfl)
end Go.Proofs.YtfbmeclpcgdmhaaDoor.mixLong
namespace Go.Proofs.YtfbmeclpcgdmhaaDoor
theorem mixLong_holds : Rows.MixLongUptoCardSaid := mixLong.card
end Go.Proofs.YtfbmeclpcgdmhaaDoor
