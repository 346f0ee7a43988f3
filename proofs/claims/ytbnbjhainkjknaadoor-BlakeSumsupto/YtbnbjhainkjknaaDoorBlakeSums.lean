/-
  For every length, key and two slices of bytes of at most 1048576 values in all (the second form) the law BlakeSums returns true, and its arguments read behind the call as they read before; the package-level table of places is as the program lays it.
-/
import Derived.Test.YtbnbjhainkjknaaDoorCards
import Derived.Test.YtbnbjhainkjknaaDoorTie
import Derived.WalkKit
import Derived.ProofKit
import Derived.OpenShut
import Derived.ShutString
import Derived.ChangeOld
import Derived.Below
import Derived.Deep.DeepHandedRow
import Derived.Lib.LaidTab
import Derived.Test.YtbnbjhainkjknaaDoorOpenU
import Derived.Test.YtbnbjhainkjknaaDoorLives
import Derived.Test.YtbnbjhainkjknaaDoorRSum
import Derived.Test.YtbnbjhainkjknaaDoorTabP
namespace Go.Proofs.YtbnbjhainkjknaaDoor.blakeSums
open Go.ChangeShapes Go.WideShapes Go.ChangeAt Go.RowKit
set_option linter.unusedVariables false

theorem own : ownKnob Tryd.prog.godebug = none := by kernel_rfl
theorem laidOut : laidOutB Tryd.prog = true := by kernel_rfl
theorem gTab : Tryd.prog.globalNamed "casket/blake.places" = some 0 := by kernel_rfl
theorem gTabType : (Tryd.prog.globals[0]?).map (·.type) = some 58 := by kernel_rfl
theorem cellsG : Tryd.prog.cellsOf 58 = 32 := by kernel_rfl
theorem tabC {W : World} (h : laidMetH Tryd.prog Rows.blakeSumsUptoRow.laid W) (h0 : 0 < W.heap.size) : TabC W := ⟨fun j hj => tab_places h j hj, h0⟩

open Go.BigFrame
theorem bsum_one (nn kl l : Nat) (hn1 : 1 ≤ nn) (hn2 : nn ≤ 64) (hkl : kl ≤ 64) (kv mv : Value) (key b : Nat → BitVec 8) (X : World) (hK : BV kv kl key X) (hM : BV mv l b X) (hC : TabC X) :
    Calls Tryd.prog 9 #[.int .i64 (nn : Int), kv, .slice (some ⟨X.heap.size, 0, none⟩) 1 1] (X.alloc (.cells #[mv] 22)) fun e w' => ∃ v', e = .returned (.tuple #[v', .int .i64 0]) ∧ OwnB X.heap.size 5 v' nn (yv (blakeF (h0F nn kl) (catF (keyF kl key) (keyN kl) b) (keyN kl + l))) w' ∧ Ext X w' := by
  have hE0 : Ext X (X.alloc (.cells #[mv] 22)) := (Below.refl _ _).alloc (Nat.le_refl _) _
  have h := bsum_any nn kl 1 hn1 hn2 hkl kv _ key _ _ _ (X.alloc (.cells #[mv] 22)) (hK.ext hE0) (partsOne X mv l b (hM.ext hE0)) (hC.ext hE0) (by omega)
  have e1 : keyN kl + sumL (fun _ => l) 1 = keyN kl + l := by simp [sumL]
  rw [e1] at h
  exact h.mono fun e w' ⟨v', h1, h2, h3⟩ => ⟨v', h1, h2.down (Below.size hE0), Ext.trans hE0 h3⟩
theorem grownE {w X Y : World} {base n : Nat} {v : Value} {g : Nat → Value} (h : Ext w X) (ho : OwnB base 5 v n g X) (hb : w.heap.size ≤ base) (hg : X.grownBy Y v.ownBlock) : Ext w Y := Below.trans h (below_grown (Below.size h) hg fun k hk => Nat.le_trans hb (ho.lt k hk).1)
def two {A : Type} (x y : A) (i : Nat) : A := if i = 0 then x else y
theorem partsTwo (X : World) (v1 v2 : Value) (l1 l2 : Nat) (b1 b2 : Nat → BitVec 8) (h1 : BV v1 l1 b1 (X.alloc (.cells #[v1, v2] 22))) (h2 : BV v2 l2 b2 (X.alloc (.cells #[v1, v2] 22))) : Parts (.slice (some ⟨X.heap.size, 0, none⟩) 2 2) 2 (two v1 v2) (two l1 l2) (two b1 b2) (X.alloc (.cells #[v1, v2] 22)) := by
  refine ⟨.inr ⟨_, 2, rfl, Nat.le_refl _, lieNew X 2 _ 22 (0, 0) _ (fun j hj => ?_)⟩, fun i hi => ?_⟩
  · rcases (by omega : j = 0 ∨ j = 1) with rfl | rfl <;> rfl
  · rcases (by omega : i = 0 ∨ i = 1) with rfl | rfl
    · exact h1
    · exact h2
theorem two_dig (nn kl la lb : Nat) (key ba bb : Nat → BitVec 8) : blakeF (h0F nn kl) (joinF (keyF kl key) (keyN kl) (two la lb) (two ba bb) 2) (keyN kl + sumL (two la lb) 2) = blakeF (h0F nn kl) (catF (keyF kl key) (keyN kl) (catF ba la bb)) (keyN kl + (la + lb)) := by
  have e1 : sumL (two la lb) 2 = la + lb := by simp [sumL, two]
  have e2 : joinF (keyF kl key) (keyN kl) (two la lb) (two ba bb) 2 = catF (keyF kl key) (keyN kl) (catF ba la bb) := by
    funext j
    show catF (catF (keyF kl key) (keyN kl + 0) ba) (keyN kl + (0 + la)) bb j = _
    rw [Nat.zero_add, Nat.add_zero]
    unfold catF
    by_cases h : j < keyN kl
    · rw [if_pos (by omega), if_pos h, if_pos h]
    · rw [if_neg h, if_neg h]
      by_cases h2 : j < keyN kl + la
      · rw [if_pos h2, if_pos (by omega)]
      · rw [if_neg h2, if_neg (by omega)]
        congr 1
        omega
  rw [e1, e2]
set_option maxRecDepth 20000 in
set_option maxHeartbeats 4000000 in
theorem walk_bad (z : Int) (ok oa ob : Option Addr) (kl ck la ca lb cb : Nat) (hz : z < 1 ∨ 64 < z ∨ 64 < kl) (ba bb : Nat → BitVec 8) (w : World) (hA : Hid (BV (.slice oa la ca) la ba w)) (hBb : Hid (BV (.slice ob lb cb) lb bb w)) (hla : la ≤ 1048576) (hlb : lb ≤ 1048576) (hC : Hid (TabC w)) : Calls Tryd.prog 3 #[.int .i64 z, .slice ok kl ck, .slice oa la ca, .slice ob lb cb] w fun e w' => e = .returned (.bool true) ∧ Below w.heap.size w w' := by
  go_enter Tryd.func3, Tryd.ntmps3
  go_upto_region 1 with (fail)
  refine wp_region_lit ?_
  have hE00 := Ext.refl w
  have hEeh : Ext w (w.alloc (.cells #[] 5)) := (Below.refl _ _).alloc (Nat.le_refl _) _
  have hOeh := own_empty w w.heap.size 5 (yv ba) (Nat.le_refl _)
  refine wpList_to rfl (.slice (some ⟨w.heap.size, 0, none⟩) 0 0) (w.alloc (.cells #[] 5)) (by simp [go_sem]) ?_
  simp only [Act.put, List.setIfInBounds_toArray, List.set_cons_zero, List.set_cons_succ]
  refine wpList_run rfl (.slice oa la ca) (by simp [go_sem]) ?_
  simp only [Act.put, List.setIfInBounds_toArray, List.set_cons_zero, List.set_cons_succ]
  refine wpList_growV (n := 0) (base := w.heap.size) elem22 rfl (.tmp 16) (.tmp 17) rfl rfl hOeh (.slice oa la ca) la ba (yv ba) rfl (hA.out.ext (Ext.trans hE00 hEeh)) (fun _ _ => rfl) (fun j hj => by rw [Nat.zero_add]) (by omega) (Below.size hEeh) ?_
  intro vha Yha hOha hgha
  rw [Nat.zero_add] at hOha
  have hEha := grownE hEeh hOeh (Nat.le_refl _) hgha
  obtain ⟨oha, cha, rfl⟩ := hOha.bv.form
  simp only [Act.put, List.setIfInBounds_toArray, List.set_cons_zero, List.set_cons_succ]
  clear hEeh hOeh hgha
  go_upto_region 2 with (fail)
  refine wp_region_lit ?_
  refine wpList_run rfl (.int .i64 z) (by simp [go_sem]) ?_
  simp only [Act.put, List.setIfInBounds_toArray, List.set_cons_zero, List.set_cons_succ]
  refine wpList_run rfl (.slice ok kl ck) (by simp [go_sem]) ?_
  simp only [Act.put, List.setIfInBounds_toArray, List.set_cons_zero, List.set_cons_succ]
  refine wpList_run rfl (.slice oha la cha) (by simp [go_sem]) ?_
  simp only [Act.put, List.setIfInBounds_toArray, List.set_cons_zero, List.set_cons_succ]
  refine wpList_run rfl (.slice ob lb cb) (by simp [go_sem]) ?_
  simp only [Act.put, List.setIfInBounds_toArray, List.set_cons_zero, List.set_cons_succ]
  have hEp : Ext Yha (Yha.alloc (.cells #[.slice oha la cha, .slice ob lb cb] 22)) := (Below.refl _ _).alloc (Nat.le_refl _) _
  have hEq := Ext.trans hEha hEp
  refine wpList_to rfl (.slice (some ⟨Yha.heap.size, 0, none⟩) 2 2) (Yha.alloc (.cells #[.slice oha la cha, .slice ob lb cb] 22)) (by simp [go_sem]) ?_
  simp only [Act.put, List.setIfInBounds_toArray, List.set_cons_zero, List.set_cons_succ]
  refine wpList_call rfl (by simp [go_sem]) ((bsum_bad z ok kl ck (.slice (some ⟨Yha.heap.size, 0, none⟩) 2 2) hz (Yha.alloc (.cells #[.slice oha la cha, .slice ob lb cb] 22))).mono ?_)
  rintro e X1 ⟨rfl, hX1⟩
  have hF1 := hEp
  rw [← hX1] at hF1
  clear hX1
  refine ⟨_, rfl, ?_⟩
  simp only [Act.put, List.setIfInBounds_toArray, List.set_cons_zero, List.set_cons_succ]
  refine wpList_run rfl (.tuple #[.slice none 0 0, .int .i64 1]) (by simp [go_sem]) ?_
  simp only [Act.put, List.setIfInBounds_toArray, List.set_cons_zero, List.set_cons_succ]
  refine wpList_run rfl (.slice none 0 0) (by simp [go_sem]) ?_
  simp only [Act.put, List.setIfInBounds_toArray, List.set_cons_zero, List.set_cons_succ]
  refine wpList_run rfl (.int .i64 1) (by simp [go_sem]) ?_
  simp only [Act.put, List.setIfInBounds_toArray, List.set_cons_zero, List.set_cons_succ]
  refine wpList_run rfl (.slice none 0 0) (by simp [go_sem]) ?_
  simp only [Act.put, List.setIfInBounds_toArray, List.set_cons_zero, List.set_cons_succ]
  refine wpList_run rfl (.int .i64 1) (by simp [go_sem]) ?_
  simp only [Act.put, List.setIfInBounds_toArray, List.set_cons_zero, List.set_cons_succ]
  have HH_1 := hideit (hOha.bv.ext hF1)
  have HX1 := hideit (Ext.trans hEha hF1)
  clear hOha hEp hEq hEha hF1 hE00
  go_upto_region 3 with (fail)
  refine wp_region_lit ?_
  refine wpList_run rfl (.int .i64 z) (by simp [go_sem]) ?_
  simp only [Act.put, List.setIfInBounds_toArray, List.set_cons_zero, List.set_cons_succ]
  refine wpList_run rfl (.slice ok kl ck) (by simp [go_sem]) ?_
  simp only [Act.put, List.setIfInBounds_toArray, List.set_cons_zero, List.set_cons_succ]
  have hEer : Ext X1 (X1.alloc (.cells #[] 5)) := (Below.refl _ _).alloc (Nat.le_refl _) _
  have hOer := own_empty X1 X1.heap.size 5 (yv (catF ba la bb)) (Nat.le_refl _)
  refine wpList_to rfl (.slice (some ⟨X1.heap.size, 0, none⟩) 0 0) (X1.alloc (.cells #[] 5)) (by simp [go_sem]) ?_
  simp only [Act.put, List.setIfInBounds_toArray, List.set_cons_zero, List.set_cons_succ]
  refine wpList_run rfl (.slice oa la ca) (by simp [go_sem]) ?_
  simp only [Act.put, List.setIfInBounds_toArray, List.set_cons_zero, List.set_cons_succ]
  refine wpList_growV (n := 0) (base := X1.heap.size) elem22 rfl (.tmp 31) (.tmp 32) rfl rfl hOer (.slice oa la ca) la ba (yv (catF ba la bb)) rfl (hA.out.ext (Ext.trans HX1.out hEer)) (fun _ _ => rfl) (fun j hj => by simp only [yv]; rw [Nat.zero_add]; unfold catF; rw [if_pos hj]) (by omega) (Below.size hEer) ?_
  intro vra Yra hOra hgra
  rw [Nat.zero_add] at hOra
  have hEra := grownE hEer hOer (Nat.le_refl _) hgra
  obtain ⟨ora, cra, rfl⟩ := hOra.bv.form
  simp only [Act.put, List.setIfInBounds_toArray, List.set_cons_zero, List.set_cons_succ]
  clear hEer hOer hgra
  refine wpList_run rfl (.slice ob lb cb) (by simp [go_sem]) ?_
  simp only [Act.put, List.setIfInBounds_toArray, List.set_cons_zero, List.set_cons_succ]
  refine wpList_growV (n := la) (base := X1.heap.size) elem22 rfl (.tmp 33) (.tmp 34) rfl rfl hOra (.slice ob lb cb) lb bb (yv (catF ba la bb)) rfl (hBb.out.ext (Ext.trans HX1.out hEra)) (fun _ _ => rfl) (fun j hj => by simp only [yv]; unfold catF; rw [if_neg (by omega), Nat.add_sub_cancel_left]) (by omega) (Below.size hEra) ?_
  intro vrb Yrb hOrb hgrb
  have hErb := grownE hEra hOra (Nat.le_refl _) hgrb
  obtain ⟨orb, crb, rfl⟩ := hOrb.bv.form
  simp only [Act.put, List.setIfInBounds_toArray, List.set_cons_zero, List.set_cons_succ]
  clear hEra hOra hgrb
  refine wpList_call rfl (by simp [go_sem]) ((rsum_bad z ok kl ck (.slice orb (la + lb) crb) hz Yrb).mono ?_)
  rintro e X2 ⟨rfl, hX2⟩
  have hF2 := hErb
  rw [← hX2] at hF2
  clear hX2
  refine ⟨_, rfl, ?_⟩
  simp only [Act.put, List.setIfInBounds_toArray, List.set_cons_zero, List.set_cons_succ]
  refine wpList_run rfl (.tuple #[.slice none 0 0, .int .i64 1]) (by simp [go_sem]) ?_
  simp only [Act.put, List.setIfInBounds_toArray, List.set_cons_zero, List.set_cons_succ]
  refine wpList_run rfl (.slice none 0 0) (by simp [go_sem]) ?_
  simp only [Act.put, List.setIfInBounds_toArray, List.set_cons_zero, List.set_cons_succ]
  refine wpList_run rfl (.int .i64 1) (by simp [go_sem]) ?_
  simp only [Act.put, List.setIfInBounds_toArray, List.set_cons_zero, List.set_cons_succ]
  refine wpList_run rfl (.slice none 0 0) (by simp [go_sem]) ?_
  simp only [Act.put, List.setIfInBounds_toArray, List.set_cons_zero, List.set_cons_succ]
  refine wpList_run rfl (.int .i64 1) (by simp [go_sem]) ?_
  simp only [Act.put, List.setIfInBounds_toArray, List.set_cons_zero, List.set_cons_succ]
  have HH_2 := hideit (HH_1.out.ext hF2)
  have HX2 := hideit (Ext.trans HX1.out hF2)
  clear HH_1 HX1 hF2 hErb hOrb
  go_upto_region 4 with (fail)
  refine wp_region_lit ?_
  refine wpList_run rfl (.int .i64 z) (by simp [go_sem]) ?_
  simp only [Act.put, List.setIfInBounds_toArray, List.set_cons_zero, List.set_cons_succ]
  refine wpList_run rfl (.slice ok kl ck) (by simp [go_sem]) ?_
  simp only [Act.put, List.setIfInBounds_toArray, List.set_cons_zero, List.set_cons_succ]
  have hEes : Ext X2 (X2.alloc (.cells #[] 5)) := (Below.refl _ _).alloc (Nat.le_refl _) _
  have hOes := own_empty X2 X2.heap.size 5 (yv (catF ba la bb)) (Nat.le_refl _)
  refine wpList_to rfl (.slice (some ⟨X2.heap.size, 0, none⟩) 0 0) (X2.alloc (.cells #[] 5)) (by simp [go_sem]) ?_
  simp only [Act.put, List.setIfInBounds_toArray, List.set_cons_zero, List.set_cons_succ]
  refine wpList_run rfl (.slice oa la ca) (by simp [go_sem]) ?_
  simp only [Act.put, List.setIfInBounds_toArray, List.set_cons_zero, List.set_cons_succ]
  refine wpList_growV (n := 0) (base := X2.heap.size) elem22 rfl (.tmp 42) (.tmp 43) rfl rfl hOes (.slice oa la ca) la ba (yv (catF ba la bb)) rfl (hA.out.ext (Ext.trans HX2.out hEes)) (fun _ _ => rfl) (fun j hj => by simp only [yv]; rw [Nat.zero_add]; unfold catF; rw [if_pos hj]) (by omega) (Below.size hEes) ?_
  intro vsa Ysa hOsa hgsa
  rw [Nat.zero_add] at hOsa
  have hEsa := grownE hEes hOes (Nat.le_refl _) hgsa
  obtain ⟨osa, csa, rfl⟩ := hOsa.bv.form
  simp only [Act.put, List.setIfInBounds_toArray, List.set_cons_zero, List.set_cons_succ]
  clear hEes hOes hgsa
  refine wpList_run rfl (.slice ob lb cb) (by simp [go_sem]) ?_
  simp only [Act.put, List.setIfInBounds_toArray, List.set_cons_zero, List.set_cons_succ]
  refine wpList_growV (n := la) (base := X2.heap.size) elem22 rfl (.tmp 44) (.tmp 45) rfl rfl hOsa (.slice ob lb cb) lb bb (yv (catF ba la bb)) rfl (hBb.out.ext (Ext.trans HX2.out hEsa)) (fun _ _ => rfl) (fun j hj => by simp only [yv]; unfold catF; rw [if_neg (by omega), Nat.add_sub_cancel_left]) (by omega) (Below.size hEsa) ?_
  intro vsb Ysb hOsb hgsb
  have hEsb := grownE hEsa hOsa (Nat.le_refl _) hgsb
  obtain ⟨osb, csb, rfl⟩ := hOsb.bv.form
  simp only [Act.put, List.setIfInBounds_toArray, List.set_cons_zero, List.set_cons_succ]
  clear hEsa hOsa hgsb
  have hEt : Ext X2 (Ysb.alloc (.cells #[.slice osb (la + lb) csb] 22)) := Below.alloc hEsb (Below.size hEsb) _
  refine wpList_to rfl (.slice (some ⟨Ysb.heap.size, 0, none⟩) 1 1) (Ysb.alloc (.cells #[.slice osb (la + lb) csb] 22)) (by simp [go_sem]) ?_
  simp only [Act.put, List.setIfInBounds_toArray, List.set_cons_zero, List.set_cons_succ]
  refine wpList_call rfl (by simp [go_sem]) ((bsum_bad z ok kl ck (.slice (some ⟨Ysb.heap.size, 0, none⟩) 1 1) hz (Ysb.alloc (.cells #[.slice osb (la + lb) csb] 22))).mono ?_)
  rintro e X3 ⟨rfl, hX3⟩
  have hF3 := hEt
  rw [← hX3] at hF3
  clear hX3
  refine ⟨_, rfl, ?_⟩
  simp only [Act.put, List.setIfInBounds_toArray, List.set_cons_zero, List.set_cons_succ]
  refine wpList_run rfl (.tuple #[.slice none 0 0, .int .i64 1]) (by simp [go_sem]) ?_
  simp only [Act.put, List.setIfInBounds_toArray, List.set_cons_zero, List.set_cons_succ]
  refine wpList_run rfl (.slice none 0 0) (by simp [go_sem]) ?_
  simp only [Act.put, List.setIfInBounds_toArray, List.set_cons_zero, List.set_cons_succ]
  refine wpList_run rfl (.int .i64 1) (by simp [go_sem]) ?_
  simp only [Act.put, List.setIfInBounds_toArray, List.set_cons_zero, List.set_cons_succ]
  refine wpList_run rfl (.slice none 0 0) (by simp [go_sem]) ?_
  simp only [Act.put, List.setIfInBounds_toArray, List.set_cons_zero, List.set_cons_succ]
  refine wpList_run rfl (.int .i64 1) (by simp [go_sem]) ?_
  simp only [Act.put, List.setIfInBounds_toArray, List.set_cons_zero, List.set_cons_succ]
  have HH_3 := hideit (HH_2.out.ext hF3)
  have HX3 := hideit (Ext.trans HX2.out hF3)
  clear HH_2 HX2 hF3 hEsb hOsb hEt
  go_upto_region 5 with (fail)
  refine wp_region_lit ?_
  refine wpList_call rfl (by simp [go_sem]) ((lives_any X3 (hC.out.ext HX3.out)).mono ?_)
  rintro e X5 ⟨rfl, hE5⟩
  refine ⟨_, rfl, ?_⟩
  simp only [Act.put, List.setIfInBounds_toArray, List.set_cons_zero, List.set_cons_succ]
  have HX5 := hideit (Ext.trans HX3.out hE5)
  have cv1 := convV (.slice none 0 0) 0 ba X5 (.inl ⟨rfl, rfl⟩)
  have cvh := convV _ _ _ X5 (HH_3.out.ext hE5)
  have cva := convV _ _ _ X5 (hA.out.ext HX5.out)
  clear hE5 HX3 HH_3
  generalize bstr 0 (fun j => ((ba j).toNat : Int)) = S1 at *
  generalize bstr la (fun j => ((ba j).toNat : Int)) = S2 at *
  go_wp2
  go_ret
  exact ⟨rfl, HX5.out⟩
set_option maxRecDepth 20000 in
set_option maxHeartbeats 4000000 in
theorem walk_good (nn : Nat) (hn1 : 1 ≤ nn) (hn2 : nn ≤ 64) (ok oa ob : Option Addr) (kl ck la ca lb cb : Nat) (hkl : kl ≤ 64) (key ba bb : Nat → BitVec 8) (w : World) (hKy : Hid (BV (.slice ok kl ck) kl key w)) (hA : Hid (BV (.slice oa la ca) la ba w)) (hBb : Hid (BV (.slice ob lb cb) lb bb w)) (hla : la ≤ 1048576) (hlb : lb ≤ 1048576) (hC : Hid (TabC w)) : Calls Tryd.prog 3 #[.int .i64 (nn : Int), .slice ok kl ck, .slice oa la ca, .slice ob lb cb] w fun e w' => e = .returned (.bool true) ∧ Below w.heap.size w w' := by
  obtain ⟨R, hR⟩ : ∃ R, blakeF (h0F nn kl) (catF (keyF kl key) (keyN kl) (catF ba la bb)) (keyN kl + (la + lb)) = R := ⟨_, rfl⟩
  replace hR := hideit hR
  go_enter Tryd.func3, Tryd.ntmps3
  go_upto_region 1 with (fail)
  refine wp_region_lit ?_
  have hE00 := Ext.refl w
  have hEeh : Ext w (w.alloc (.cells #[] 5)) := (Below.refl _ _).alloc (Nat.le_refl _) _
  have hOeh := own_empty w w.heap.size 5 (yv ba) (Nat.le_refl _)
  refine wpList_to rfl (.slice (some ⟨w.heap.size, 0, none⟩) 0 0) (w.alloc (.cells #[] 5)) (by simp [go_sem]) ?_
  simp only [Act.put, List.setIfInBounds_toArray, List.set_cons_zero, List.set_cons_succ]
  refine wpList_run rfl (.slice oa la ca) (by simp [go_sem]) ?_
  simp only [Act.put, List.setIfInBounds_toArray, List.set_cons_zero, List.set_cons_succ]
  refine wpList_growV (n := 0) (base := w.heap.size) elem22 rfl (.tmp 16) (.tmp 17) rfl rfl hOeh (.slice oa la ca) la ba (yv ba) rfl (hA.out.ext (Ext.trans hE00 hEeh)) (fun _ _ => rfl) (fun j hj => by rw [Nat.zero_add]) (by omega) (Below.size hEeh) ?_
  intro vha Yha hOha hgha
  rw [Nat.zero_add] at hOha
  have hEha := grownE hEeh hOeh (Nat.le_refl _) hgha
  obtain ⟨oha, cha, rfl⟩ := hOha.bv.form
  simp only [Act.put, List.setIfInBounds_toArray, List.set_cons_zero, List.set_cons_succ]
  clear hEeh hOeh hgha
  go_upto_region 2 with (fail)
  refine wp_region_lit ?_
  refine wpList_run rfl (.int .i64 (nn : Int)) (by simp [go_sem]) ?_
  simp only [Act.put, List.setIfInBounds_toArray, List.set_cons_zero, List.set_cons_succ]
  refine wpList_run rfl (.slice ok kl ck) (by simp [go_sem]) ?_
  simp only [Act.put, List.setIfInBounds_toArray, List.set_cons_zero, List.set_cons_succ]
  refine wpList_run rfl (.slice oha la cha) (by simp [go_sem]) ?_
  simp only [Act.put, List.setIfInBounds_toArray, List.set_cons_zero, List.set_cons_succ]
  refine wpList_run rfl (.slice ob lb cb) (by simp [go_sem]) ?_
  simp only [Act.put, List.setIfInBounds_toArray, List.set_cons_zero, List.set_cons_succ]
  have hEp : Ext Yha (Yha.alloc (.cells #[.slice oha la cha, .slice ob lb cb] 22)) := (Below.refl _ _).alloc (Nat.le_refl _) _
  have hEq := Ext.trans hEha hEp
  refine wpList_to rfl (.slice (some ⟨Yha.heap.size, 0, none⟩) 2 2) (Yha.alloc (.cells #[.slice oha la cha, .slice ob lb cb] 22)) (by simp [go_sem]) ?_
  simp only [Act.put, List.setIfInBounds_toArray, List.set_cons_zero, List.set_cons_succ]
  have hs1 := bsum_any nn kl 2 hn1 hn2 hkl (.slice ok kl ck) _ key _ _ _ (Yha.alloc (.cells #[.slice oha la cha, .slice ob lb cb] 22)) (hKy.out.ext hEq) (partsTwo Yha (.slice oha la cha) (.slice ob lb cb) la lb ba bb (hOha.bv.ext hEp) (hBb.out.ext hEq)) (hC.out.ext hEq) (by omega)
  rw [two_dig, hR.out] at hs1
  refine wpList_call rfl (by simp [go_sem]) (hs1.mono ?_)
  rintro e X1 ⟨v1, rfl, hO1, hE1⟩
  refine ⟨_, rfl, ?_⟩
  obtain ⟨o1, c1, rfl⟩ := hO1.bv.form
  have HB1_1 := hideit hO1.bv
  have hF1 := Ext.trans hEp hE1
  clear hE1 hO1 hs1
  simp only [Act.put, List.setIfInBounds_toArray, List.set_cons_zero, List.set_cons_succ]
  refine wpList_run rfl (.tuple #[.slice o1 nn c1, .int .i64 0]) (by simp [go_sem]) ?_
  simp only [Act.put, List.setIfInBounds_toArray, List.set_cons_zero, List.set_cons_succ]
  refine wpList_run rfl (.slice o1 nn c1) (by simp [go_sem]) ?_
  simp only [Act.put, List.setIfInBounds_toArray, List.set_cons_zero, List.set_cons_succ]
  refine wpList_run rfl (.int .i64 0) (by simp [go_sem]) ?_
  simp only [Act.put, List.setIfInBounds_toArray, List.set_cons_zero, List.set_cons_succ]
  refine wpList_run rfl (.slice o1 nn c1) (by simp [go_sem]) ?_
  simp only [Act.put, List.setIfInBounds_toArray, List.set_cons_zero, List.set_cons_succ]
  refine wpList_run rfl (.int .i64 0) (by simp [go_sem]) ?_
  simp only [Act.put, List.setIfInBounds_toArray, List.set_cons_zero, List.set_cons_succ]
  have HH_1 := hideit (hOha.bv.ext hF1)
  have HX1 := hideit (Ext.trans hEha hF1)
  clear hOha hEp hEq hEha hF1 hE00
  go_upto_region 3 with (fail)
  refine wp_region_lit ?_
  refine wpList_run rfl (.int .i64 (nn : Int)) (by simp [go_sem]) ?_
  simp only [Act.put, List.setIfInBounds_toArray, List.set_cons_zero, List.set_cons_succ]
  refine wpList_run rfl (.slice ok kl ck) (by simp [go_sem]) ?_
  simp only [Act.put, List.setIfInBounds_toArray, List.set_cons_zero, List.set_cons_succ]
  have hEer : Ext X1 (X1.alloc (.cells #[] 5)) := (Below.refl _ _).alloc (Nat.le_refl _) _
  have hOer := own_empty X1 X1.heap.size 5 (yv (catF ba la bb)) (Nat.le_refl _)
  refine wpList_to rfl (.slice (some ⟨X1.heap.size, 0, none⟩) 0 0) (X1.alloc (.cells #[] 5)) (by simp [go_sem]) ?_
  simp only [Act.put, List.setIfInBounds_toArray, List.set_cons_zero, List.set_cons_succ]
  refine wpList_run rfl (.slice oa la ca) (by simp [go_sem]) ?_
  simp only [Act.put, List.setIfInBounds_toArray, List.set_cons_zero, List.set_cons_succ]
  refine wpList_growV (n := 0) (base := X1.heap.size) elem22 rfl (.tmp 31) (.tmp 32) rfl rfl hOer (.slice oa la ca) la ba (yv (catF ba la bb)) rfl (hA.out.ext (Ext.trans HX1.out hEer)) (fun _ _ => rfl) (fun j hj => by simp only [yv]; rw [Nat.zero_add]; unfold catF; rw [if_pos hj]) (by omega) (Below.size hEer) ?_
  intro vra Yra hOra hgra
  rw [Nat.zero_add] at hOra
  have hEra := grownE hEer hOer (Nat.le_refl _) hgra
  obtain ⟨ora, cra, rfl⟩ := hOra.bv.form
  simp only [Act.put, List.setIfInBounds_toArray, List.set_cons_zero, List.set_cons_succ]
  clear hEer hOer hgra
  refine wpList_run rfl (.slice ob lb cb) (by simp [go_sem]) ?_
  simp only [Act.put, List.setIfInBounds_toArray, List.set_cons_zero, List.set_cons_succ]
  refine wpList_growV (n := la) (base := X1.heap.size) elem22 rfl (.tmp 33) (.tmp 34) rfl rfl hOra (.slice ob lb cb) lb bb (yv (catF ba la bb)) rfl (hBb.out.ext (Ext.trans HX1.out hEra)) (fun _ _ => rfl) (fun j hj => by simp only [yv]; unfold catF; rw [if_neg (by omega), Nat.add_sub_cancel_left]) (by omega) (Below.size hEra) ?_
  intro vrb Yrb hOrb hgrb
  have hErb := grownE hEra hOra (Nat.le_refl _) hgrb
  obtain ⟨orb, crb, rfl⟩ := hOrb.bv.form
  simp only [Act.put, List.setIfInBounds_toArray, List.set_cons_zero, List.set_cons_succ]
  clear hEra hOra hgrb
  have hs2 := rsum_any nn kl (la + lb) hn1 hn2 hkl (.slice ok kl ck) (.slice orb (la + lb) crb) key (catF ba la bb) Yrb (hKy.out.ext (Ext.trans HX1.out hErb)) hOrb.bv (by omega)
  rw [hR.out] at hs2
  refine wpList_call rfl (by simp [go_sem]) (hs2.mono ?_)
  rintro e X2 ⟨v2, rfl, hO2, hE2⟩
  refine ⟨_, rfl, ?_⟩
  obtain ⟨o2, c2, rfl⟩ := hO2.bv.form
  have HB2_2 := hideit hO2.bv
  have hF2 := Ext.trans hErb hE2
  clear hE2 hO2 hs2
  simp only [Act.put, List.setIfInBounds_toArray, List.set_cons_zero, List.set_cons_succ]
  refine wpList_run rfl (.tuple #[.slice o2 nn c2, .int .i64 0]) (by simp [go_sem]) ?_
  simp only [Act.put, List.setIfInBounds_toArray, List.set_cons_zero, List.set_cons_succ]
  refine wpList_run rfl (.slice o2 nn c2) (by simp [go_sem]) ?_
  simp only [Act.put, List.setIfInBounds_toArray, List.set_cons_zero, List.set_cons_succ]
  refine wpList_run rfl (.int .i64 0) (by simp [go_sem]) ?_
  simp only [Act.put, List.setIfInBounds_toArray, List.set_cons_zero, List.set_cons_succ]
  refine wpList_run rfl (.slice o2 nn c2) (by simp [go_sem]) ?_
  simp only [Act.put, List.setIfInBounds_toArray, List.set_cons_zero, List.set_cons_succ]
  refine wpList_run rfl (.int .i64 0) (by simp [go_sem]) ?_
  simp only [Act.put, List.setIfInBounds_toArray, List.set_cons_zero, List.set_cons_succ]
  have HH_2 := hideit (HH_1.out.ext hF2)
  have HX2 := hideit (Ext.trans HX1.out hF2)
  have HB1_2 := hideit (HB1_1.out.ext hF2)
  clear HB1_1
  clear HH_1 HX1 hF2 hErb hOrb
  go_upto_region 4 with (fail)
  refine wp_region_lit ?_
  refine wpList_run rfl (.int .i64 (nn : Int)) (by simp [go_sem]) ?_
  simp only [Act.put, List.setIfInBounds_toArray, List.set_cons_zero, List.set_cons_succ]
  refine wpList_run rfl (.slice ok kl ck) (by simp [go_sem]) ?_
  simp only [Act.put, List.setIfInBounds_toArray, List.set_cons_zero, List.set_cons_succ]
  have hEes : Ext X2 (X2.alloc (.cells #[] 5)) := (Below.refl _ _).alloc (Nat.le_refl _) _
  have hOes := own_empty X2 X2.heap.size 5 (yv (catF ba la bb)) (Nat.le_refl _)
  refine wpList_to rfl (.slice (some ⟨X2.heap.size, 0, none⟩) 0 0) (X2.alloc (.cells #[] 5)) (by simp [go_sem]) ?_
  simp only [Act.put, List.setIfInBounds_toArray, List.set_cons_zero, List.set_cons_succ]
  refine wpList_run rfl (.slice oa la ca) (by simp [go_sem]) ?_
  simp only [Act.put, List.setIfInBounds_toArray, List.set_cons_zero, List.set_cons_succ]
  refine wpList_growV (n := 0) (base := X2.heap.size) elem22 rfl (.tmp 42) (.tmp 43) rfl rfl hOes (.slice oa la ca) la ba (yv (catF ba la bb)) rfl (hA.out.ext (Ext.trans HX2.out hEes)) (fun _ _ => rfl) (fun j hj => by simp only [yv]; rw [Nat.zero_add]; unfold catF; rw [if_pos hj]) (by omega) (Below.size hEes) ?_
  intro vsa Ysa hOsa hgsa
  rw [Nat.zero_add] at hOsa
  have hEsa := grownE hEes hOes (Nat.le_refl _) hgsa
  obtain ⟨osa, csa, rfl⟩ := hOsa.bv.form
  simp only [Act.put, List.setIfInBounds_toArray, List.set_cons_zero, List.set_cons_succ]
  clear hEes hOes hgsa
  refine wpList_run rfl (.slice ob lb cb) (by simp [go_sem]) ?_
  simp only [Act.put, List.setIfInBounds_toArray, List.set_cons_zero, List.set_cons_succ]
  refine wpList_growV (n := la) (base := X2.heap.size) elem22 rfl (.tmp 44) (.tmp 45) rfl rfl hOsa (.slice ob lb cb) lb bb (yv (catF ba la bb)) rfl (hBb.out.ext (Ext.trans HX2.out hEsa)) (fun _ _ => rfl) (fun j hj => by simp only [yv]; unfold catF; rw [if_neg (by omega), Nat.add_sub_cancel_left]) (by omega) (Below.size hEsa) ?_
  intro vsb Ysb hOsb hgsb
  have hEsb := grownE hEsa hOsa (Nat.le_refl _) hgsb
  obtain ⟨osb, csb, rfl⟩ := hOsb.bv.form
  simp only [Act.put, List.setIfInBounds_toArray, List.set_cons_zero, List.set_cons_succ]
  clear hEsa hOsa hgsb
  have hEt : Ext X2 (Ysb.alloc (.cells #[.slice osb (la + lb) csb] 22)) := Below.alloc hEsb (Below.size hEsb) _
  refine wpList_to rfl (.slice (some ⟨Ysb.heap.size, 0, none⟩) 1 1) (Ysb.alloc (.cells #[.slice osb (la + lb) csb] 22)) (by simp [go_sem]) ?_
  simp only [Act.put, List.setIfInBounds_toArray, List.set_cons_zero, List.set_cons_succ]
  have hs3 := bsum_one nn kl (la + lb) hn1 hn2 hkl (.slice ok kl ck) (.slice osb (la + lb) csb) key (catF ba la bb) Ysb (hKy.out.ext (Ext.trans HX2.out hEsb)) hOsb.bv (hC.out.ext (Ext.trans HX2.out hEsb))
  rw [hR.out] at hs3
  refine wpList_call rfl (by simp [go_sem]) (hs3.mono ?_)
  rintro e X3 ⟨v3, rfl, hO3, hE3⟩
  refine ⟨_, rfl, ?_⟩
  obtain ⟨o3, c3, rfl⟩ := hO3.bv.form
  have HB3_3 := hideit hO3.bv
  have hF3 := Ext.trans hEsb hE3
  clear hE3 hO3 hs3
  simp only [Act.put, List.setIfInBounds_toArray, List.set_cons_zero, List.set_cons_succ]
  refine wpList_run rfl (.tuple #[.slice o3 nn c3, .int .i64 0]) (by simp [go_sem]) ?_
  simp only [Act.put, List.setIfInBounds_toArray, List.set_cons_zero, List.set_cons_succ]
  refine wpList_run rfl (.slice o3 nn c3) (by simp [go_sem]) ?_
  simp only [Act.put, List.setIfInBounds_toArray, List.set_cons_zero, List.set_cons_succ]
  refine wpList_run rfl (.int .i64 0) (by simp [go_sem]) ?_
  simp only [Act.put, List.setIfInBounds_toArray, List.set_cons_zero, List.set_cons_succ]
  refine wpList_run rfl (.slice o3 nn c3) (by simp [go_sem]) ?_
  simp only [Act.put, List.setIfInBounds_toArray, List.set_cons_zero, List.set_cons_succ]
  refine wpList_run rfl (.int .i64 0) (by simp [go_sem]) ?_
  simp only [Act.put, List.setIfInBounds_toArray, List.set_cons_zero, List.set_cons_succ]
  have HH_3 := hideit (HH_2.out.ext hF3)
  have HX3 := hideit (Ext.trans HX2.out hF3)
  have HB1_3 := hideit (HB1_2.out.ext hF3)
  have HB2_3 := hideit (HB2_2.out.ext hF3)
  clear HB1_2 HB2_2
  clear HH_2 HX2 hF3 hEsb hOsb hEt
  go_upto_region 5 with (fail)
  refine wp_region_lit ?_
  refine wpList_call rfl (by simp [go_sem]) ((lives_any X3 (hC.out.ext HX3.out)).mono ?_)
  rintro e X5 ⟨rfl, hE5⟩
  refine ⟨_, rfl, ?_⟩
  simp only [Act.put, List.setIfInBounds_toArray, List.set_cons_zero, List.set_cons_succ]
  have HX5 := hideit (Ext.trans HX3.out hE5)
  have cv1 := convV _ _ _ X5 (HB1_3.out.ext hE5)
  have cv2 := convV _ _ _ X5 (HB2_3.out.ext hE5)
  have cv3 := convV _ _ _ X5 (HB3_3.out.ext hE5)
  have cvh := convV _ _ _ X5 (HH_3.out.ext hE5)
  have cva := convV _ _ _ X5 (hA.out.ext HX5.out)
  clear hE5 HX3 HH_3
  clear HB1_3 HB2_3 HB3_3
  generalize bstr nn (fun j => ((R j).toNat : Int)) = S1 at *
  generalize bstr la (fun j => ((ba j).toNat : Int)) = S2 at *
  go_wp2
  go_ret
  exact ⟨rfl, HX5.out⟩
theorem walk (z : Int) (hz : (Lit.int .i64 z).wf = true) (v1 v2 v3 : Value) (w : World) (A1 : BArgU v1 w) (A2 : BArgU v2 w) (A3 : BArgU v3 w) (hC : TabC w) : Calls Tryd.prog 3 #[.int .i64 z, v1, v2, v3] w fun e w' => e = .returned (.bool true) ∧ Below w.heap.size w w' := by
  obtain ⟨kl, key, hK, hkl⟩ := A1
  obtain ⟨la, ba, hA, hla⟩ := A2
  obtain ⟨lb, bb, hB, hlb⟩ := A3
  obtain ⟨ok, ck, rfl⟩ := hK.form
  obtain ⟨oa, ca, rfl⟩ := hA.form
  obtain ⟨ob, cb, rfl⟩ := hB.form
  by_cases h1 : z < 1 ∨ 64 < z ∨ 64 < kl
  · exact walk_bad z ok oa ob kl ck la ca lb cb h1 ba bb w hA hB hla hlb hC
  · obtain ⟨nn, rfl⟩ : ∃ nn : Nat, z = (nn : Int) := ⟨z.toNat, by omega⟩
    exact walk_good nn (by omega) (by omega) ok oa ob kl ck la ca lb cb (by omega) key ba bb w hK hA hB hla hlb hC

theorem contract (H : Type) (enc : TypeId × Value → H) (W : World) (base : Nat) (args : Array Value) (ds gs : List (DataW H)) (before : List MemPlace)
    (hval0 : ∀ (j : Nat) t v, Tryd.f3.params[j]? = some t → args[j]? = some v → Value.okWide Tryd.prog W .any base t v)
    (hW : DataW.Whole enc Tryd.prog Tryd.f3.params.toList Rows.blakeSumsSpec.vars false W args.toList ds gs before) (hL : laidMetH Tryd.prog Rows.blakeSumsUptoRow.laid W) (hB : Rows.uptoSmall H (ds ++ gs) = true) :
    Calls Tryd.prog 3 args W fun e W' => ∃ v, e = .returned v ∧ Rows.blakeSumsSpec.post enc Tryd.prog Tryd.f3 false true false false W args v W' := by
  have hval := hval0
  have hW' := hW
  obtain ⟨p, q, hA0, hV, rfl, hfz, hnd⟩ := hW
  have hA : DataW.TrodAll enc Tryd.prog W 0 (fun _ => true) true Tryd.f3.params.toList args.toList ds p := hA0
  rw [Tryd.params3] at hA hval
  obtain ⟨v0, vs0, d0, ds0, p0, q0, hargs, rfl, rfl, h0, r0⟩ := trodAll_cons hA
  obtain ⟨v1, vs1, d1, ds1, p1, q1, rfl, rfl, rfl, h1, r1⟩ := trodAll_cons r0
  obtain ⟨v2, vs2, d2, ds2, p2, q2, rfl, rfl, rfl, h2, r2⟩ := trodAll_cons r1
  obtain ⟨v3, vs3, d3, ds3, p3, q3, rfl, rfl, rfl, h3, r3⟩ := trodAll_cons r2
  obtain ⟨rfl, rfl, rfl⟩ := trodAll_nil r3
  obtain rfl : args = #[v0, v1, v2, v3] := by cases args; simp_all
  obtain ⟨rfl, rfl⟩ := trodVars_none hV
  have h0s : 0 < W.heap.size := by
    have hc := tab_places hL 0 (by decide)
    rcases Nat.lt_or_ge 0 W.heap.size with h | h
    · exact h
    · exfalso
      have : W.heap[0]? = none := Array.getElem?_eq_none h
      simp [World.cell?, this] at hc
  have hC : TabC W := tabC hL h0s
  have k0 := h0
  have lt0 : ∀ x ∈ p0, x.block < W.heap.size := by obtain ⟨m, hm⟩ := k0; exact DataW.trod_lt m _ _ _ hm
  have k1 := h1
  have lt1 : ∀ x ∈ p1, x.block < W.heap.size := by obtain ⟨m, hm⟩ := k1; exact DataW.trod_lt m _ _ _ hm
  have k2 := h2
  have lt2 : ∀ x ∈ p2, x.block < W.heap.size := by obtain ⟨m, hm⟩ := k2; exact DataW.trod_lt m _ _ _ hm
  have k3 := h3
  have lt3 : ∀ x ∈ p3, x.block < W.heap.size := by obtain ⟨m, hm⟩ := k3; exact DataW.trod_lt m _ _ _ hm
  obtain ⟨a0, rfl, rfl, rfl, w0⟩ := open_int Tryd.underlying3 (hval 0 3 v0 rfl rfl) h0
  have B1 := bargU (hval 1 22 v1 rfl rfl) h1 (Nat.le_trans (bulk_mem (by simp)) (of_decide_eq_true hB))
  have B2 := bargU (hval 2 22 v2 rfl rfl) h2 (Nat.le_trans (bulk_mem (by simp)) (of_decide_eq_true hB))
  have B3 := bargU (hval 3 22 v3 rfl rfl) h3 (Nat.le_trans (bulk_mem (by simp)) (of_decide_eq_true hB))
  clear hA0 hval0
  refine (walk a0 w0 v1 v2 v3 W B1 B2 B3 hC).mono fun e W' ⟨he, bel⟩ => ?_
  subst he
  exact ⟨_, rfl, _, _, _, [], _, [], hW', trodAll_mk1 (shut_bool Tryd.underlying4 _), (trodAll_cons_mk (Below.trod laidOut (by kernel_rfl) (of_decide_eq_true (by kernel_rfl)) k0 bel lt0) (trodAll_cons_mk (Below.trod laidOut (by kernel_rfl) (of_decide_eq_true (by kernel_rfl)) k1 bel lt1) (trodAll_cons_mk (Below.trod laidOut (by kernel_rfl) (of_decide_eq_true (by kernel_rfl)) k2 bel lt2) (trodAll_cons_mk (Below.trod laidOut (by kernel_rfl) (of_decide_eq_true (by kernel_rfl)) k3 bel lt3) trodAll_mk0)))), rfl, bel.frame _, fun h => by cases h⟩

def wit : Array Value := #[.int .i64 0, .slice none 0 0, .slice none 0 0, .slice none 0 0]
def dat {H : Type} : List (DataW H) := [.lit (.int .i64 0), .nil, .nil, .nil]
def setTab : Obj → Obj
  | .cells _ t frozen => .cells (row 32 (iv plF)).toArray t frozen
  | o => o
theorem laid_met (os : Os) : laidMet Tryd.prog Rows.blakeSumsUptoRow.laid (({ World.holding Tryd.prog os ⟨#[], #[], []⟩ with heap := (World.holding Tryd.prog os ⟨#[], #[], []⟩).heap.modify 0 setTab } : World).forCall (fun _ _ => 0) ⟨#[], wit, []⟩).memory :=
  laidMet_of_run' 8 (by kernel_rfl) (by kernel_rfl)
theorem reads (os : Os) {H : Type} (enc : TypeId × Value → H) : ∃ places, DataW.whole enc Tryd.prog (({ World.holding Tryd.prog os ⟨#[], #[], []⟩ with heap := (World.holding Tryd.prog os ⟨#[], #[], []⟩).heap.modify 0 setTab } : World).forCall (fun _ _ => 0) ⟨#[], wit, []⟩).memory Tryd.f3.params.toList Rows.blakeSumsSpec.vars false wit.toList 8 = some (dat, [], places) :=
  ⟨[], by kernel_rfl⟩

set_option maxRecDepth 100000 in
theorem lifted (os : Os) (started : os.Started) (H : Type) (enc : TypeId × Value → H) (F : Stop.Interp) :
    ReturnsInHanded {} Tryd.checked os 3 .any ((Rows.OpenSpec.upto Rows.blakeSumsSpec).preRow enc Tryd.prog Tryd.f3 Rows.blakeSumsUptoRow.domain false Rows.blakeSumsUptoRow.laid) (((Rows.OpenSpec.upto Rows.blakeSumsSpec).at F).post enc Tryd.prog Tryd.f3 false true false false) := by
  obtain ⟨places, hx⟩ := reads os enc
  refine returnsInHanded_of_row (C := Tryd.checked) (s := (Rows.OpenSpec.upto Rows.blakeSumsSpec)) own started (by kernel_rfl) Tryd.func3
    (witness_row_at (enc := enc) (C := Tryd.checked) false ({ World.holding Tryd.prog os ⟨#[], #[], []⟩ with heap := (World.holding Tryd.prog os ⟨#[], #[], []⟩).heap.modify 0 setTab } : World) wit rfl (by kernel_rfl) (by kernel_rfl) (by kernel_rfl)
      (OpenSpec.preRow_of_cond 8 hx (by kernel_rfl) (fun k hk => by cases hk; kernel_rfl) (by kernel_rfl) (laid_met os))) ?_
  intro W base args ds gs before hval hW _ hcond hsz hL _ _
  exact contract H enc W base args ds gs before hval hW hL (hcond _ rfl)

theorem said : Rows.BlakeSumsUptoSaid :=
  OpenClaim.holds_of_cond 3 Tryd.f3 rfl rfl rfl rfl rfl rfl rfl ⟨rfl, rfl, rfl, rfl, rfl⟩ rfl rfl rfl rfl rfl (by kernel_rfl) Tryd.func3 (by kernel_rfl)
    (of_decide_eq_true (by kernel_rfl)) (by unfold Func.isWrapper; first | (rw [if_pos (by decide +kernel)]; kernel_rfl) | (rw [if_neg (by decide +kernel)]; exact ⟨rfl, rfl⟩))
    (fun os started H enc _ F => by rw [OpenClaim.pre_eq_preRow]; exact lifted os started H enc F)

theorem plain (f : FuncId) (fn : Func) (hf : Tryd.pinned.checked.prog.funcNamed "casket/casketlaw06.BlakeSums" = some f) (hfn : Tryd.pinned.checked.prog.funcs[f]? = some fn) :
    false = Tryd.pinned.checked.prog.looks [] ∧ ∀ (j : Nat) t, fn.params[j]? = some t → Tryd.pinned.checked.prog.wantsStandIn t = false := by
  obtain rfl : f = 3 := Option.some.inj ((show Tryd.prog.funcNamed "casket/casketlaw06.BlakeSums" = some 3 by kernel_rfl).symm.trans hf) |>.symm
  obtain rfl : fn = Tryd.f3 := (Option.some.inj (Tryd.func3.symm.trans hfn)).symm
  refine ⟨by kernel_rfl, fun j t ht => ?_⟩
  rw [Tryd.params3] at ht
  have hm : t ∈ [3, 22, 22, 22] := by simpa using Array.mem_of_getElem? ht
  have hall : ([3, 22, 22, 22].all fun u => !Tryd.prog.wantsStandIn u) = true := by kernel_rfl
  exact (show Tryd.prog.wantsStandIn t = false by simpa using List.all_eq_true.1 hall t hm)

theorem card : Rows.BlakeSumsUptoCardSaid :=
  Claim7.holds_tied_plain_at .later [] _ _ _ _ said (fun _ h => by cases h) (by kernel_rfl) (fun _ h => by cases h) blakeSumsUpto_row_tie rfl ⟨rfl, rfl⟩ (by kernel_rfl) rfl plain (by kernel_rfl)
end Go.Proofs.YtbnbjhainkjknaaDoor.blakeSums
namespace Go.Proofs.YtbnbjhainkjknaaDoor
theorem blakeSums_holds : Rows.BlakeSumsUptoCardSaid := blakeSums.card
end Go.Proofs.YtbnbjhainkjknaaDoor
