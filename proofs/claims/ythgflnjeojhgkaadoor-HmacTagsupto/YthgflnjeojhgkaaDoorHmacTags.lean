/-
  For every key and three slices of bytes of at most 1048576 values in all (the second form) the law HmacTags returns true, and its arguments read behind the call as they read before; the package-level table of constants is as the program lays it.
-/
import Derived.Test.YthgflnjeojhgkaaDoorCards
import Derived.Test.YthgflnjeojhgkaaDoorTie
import Derived.WalkKit
import Derived.ProofKit
import Derived.OpenShut
import Derived.ShutString
import Derived.ChangeOld
import Derived.Below
import Derived.Deep.DeepHandedRow
import Derived.Lib.LaidTab
import Derived.Test.YthgflnjeojhgkaaDoorHLives
import Derived.Test.YthgflnjeojhgkaaDoorHRTag
import Derived.Test.YthgflnjeojhgkaaDoorSeg
import Derived.Test.YthgflnjeojhgkaaDoorOpenU
namespace Go.Proofs.YthgflnjeojhgkaaDoor.hmacTags
open Go.ChangeShapes Go.WideShapes Go.ChangeAt Go.RowKit
set_option linter.unusedVariables false

theorem own : ownKnob Tryd.prog.godebug = none := by kernel_rfl
theorem laidOut : laidOutB Tryd.prog = true := by kernel_rfl
theorem gTab : Tryd.prog.globalNamed "casket/sha.constants" = some 0 := by kernel_rfl
theorem gTabType : (Tryd.prog.globals[0]?).map (·.type) = some 62 := by kernel_rfl
theorem cellsG : Tryd.prog.cellsOf 62 = 64 := by kernel_rfl
theorem cellsE : Tryd.prog.cellsOf 51 = 1 := by kernel_rfl
def tabL : List Int := [1116352408, 1899447441, 3049323471, 3921009573, 961987163, 1508970993, 2453635748, 2870763221, 3624381080, 310598401, 607225278, 1426881987, 1925078388, 2162078206, 2614888103, 3248222580, 3835390401, 4022224774, 264347078, 604807628, 770255983, 1249150122, 1555081692, 1996064986, 2554220882, 2821834349, 2952996808, 3210313671, 3336571891, 3584528711, 113926993, 338241895, 666307205, 773529912, 1294757372, 1396182291, 1695183700, 1986661051, 2177026350, 2456956037, 2730485921, 2820302411, 3259730800, 3345764771, 3516065817, 3600352804, 4094571909, 275423344, 430227734, 506948616, 659060556, 883997877, 958139571, 1322822218, 1537002063, 1747873779, 1955562222, 2024104815, 2227730452, 2361852424, 2428436474, 2756734187, 3204031479, 3329325298]
theorem table {W : World} (h : laidMetH Tryd.prog Rows.hmacTagsUptoRow.laid W) : Lib.TabIs Tryd.prog W "casket/sha.constants" .u32 tabL :=
  Lib.tabIs_of_head (rest := []) gTab gTabType Tryd.underlying62 Tryd.underlying51 cellsE cellsG h
theorem tab_kT : ∀ j, j < 64 → tabL.getD j 0 = ((kT j).toNat : Int) := by decide +kernel
theorem tabC {W : World} (h : laidMetH Tryd.prog Rows.hmacTagsUptoRow.laid W) (h0 : 0 < W.heap.size) : TabC W :=
  ⟨fun j hj => by
    rw [← tab_kT j hj]
    exact (table h).cell gTab j hj, h0⟩

open Go.BigFrame
def spT (N : Nat) (M : Nat → BitVec 8) (v : Value) (i : Nat) : Sp := ⟨fun b => .slice (some ⟨b, 0, none⟩) 1 1, fun b X => Parts (.slice (some ⟨b, 0, none⟩) 1 1) 1 (fun _ => v) (fun _ => N) (fun _ => M) X⟩
theorem partsOne (X : World) (v : Value) (N : Nat) (M : Nat → BitVec 8) (h : BV v N M (X.alloc (.cells #[v] 22))) : Parts (.slice (some ⟨X.heap.size, 0, none⟩) 1 1) 1 (fun _ => v) (fun _ => N) (fun _ => M) (X.alloc (.cells #[v] 22)) :=
  ⟨.inr ⟨_, 1, rfl, Nat.le_refl _, lieNew X 1 _ 22 (0, 0) _ (fun j hj => by
    obtain rfl : j = 0 := by omega
    rfl)⟩, fun i hi => h⟩
def three {A : Type} (x y z : A) (i : Nat) : A := if i = 0 then x else if i = 1 then y else z
def sp3 (l1 l2 l3 : Nat) (b1 b2 b3 : Nat → BitVec 8) (v1 v2 v3 : Value) (i : Nat) : Sp := ⟨fun b => .slice (some ⟨b, 0, none⟩) 3 3, fun b X => Parts (.slice (some ⟨b, 0, none⟩) 3 3) 3 (three v1 v2 v3) (three l1 l2 l3) (three b1 b2 b3) X⟩
theorem partsThree (X : World) (v1 v2 v3 : Value) (l1 l2 l3 : Nat) (b1 b2 b3 : Nat → BitVec 8) (h1 : BV v1 l1 b1 X) (h2 : BV v2 l2 b2 X) (h3 : BV v3 l3 b3 X) : Parts (.slice (some ⟨X.heap.size, 0, none⟩) 3 3) 3 (three v1 v2 v3) (three l1 l2 l3) (three b1 b2 b3) (X.alloc (.cells #[v1, v2, v3] 22)) := by
  have hE : Ext X (X.alloc (.cells #[v1, v2, v3] 22)) := (Below.refl _ _).alloc (Nat.le_refl _) _
  refine ⟨.inr ⟨_, 3, rfl, Nat.le_refl _, lieNew X 3 _ 22 (0, 0) _ (fun j hj => ?_)⟩, fun i hi => ?_⟩
  · rcases (by omega : j = 0 ∨ j = 1 ∨ j = 2) with rfl | rfl | rfl <;> rfl
  · rcases (by omega : i = 0 ∨ i = 1 ∨ i = 2) with rfl | rfl | rfl
    · exact h1.ext hE
    · exact h2.ext hE
    · exact h3.ext hE
set_option maxRecDepth 20000 in
set_option maxHeartbeats 8000000 in
theorem walk (v0 v1 v2 v3 : Value) (w : World) (A0 : BArgU v0 w) (A1 : BArgU v1 w) (A2 : BArgU v2 w) (A3 : BArgU v3 w) (hC : TabC w) : Calls Tryd.prog 3 #[v0, v1, v2, v3] w fun e w' => e = .returned (.bool true) ∧ Below w.heap.size w w' := by
  obtain ⟨l0, b0, hK, hl0⟩ := A0
  obtain ⟨l1, b1, hB1, hl1⟩ := A1
  obtain ⟨l2, b2, hB2, hl2⟩ := A2
  obtain ⟨l3, b3, hB3, hl3⟩ := A3
  obtain ⟨o0, c0, rfl⟩ := hK.form
  obtain ⟨o1, c1, rfl⟩ := hB1.form
  obtain ⟨o2, c2, rfl⟩ := hB2.form
  obtain ⟨o3, c3, rfl⟩ := hB3.form
  replace hl0 : l0 ≤ 140737488351232 := by omega
  have hz2 := zero24
  obtain ⟨M, hM⟩ : ∃ M, M = allF (three l1 l2 l3) (three b1 b2 b3) 3 := ⟨_, rfl⟩
  obtain ⟨N, hN⟩ : ∃ N, N = sumL (three l1 l2 l3) 3 := ⟨_, rfl⟩
  have hN3 : N = l1 + l2 + l3 := by rw [hN]; simp [sumL, three]
  obtain ⟨R, hR⟩ : ∃ R, R = tagF l0 b0 M N := ⟨_, rfl⟩
  obtain ⟨R0, hRz⟩ : ∃ R, R = tagF l0 b0 (fun _ => 0#8) 0 := ⟨_, rfl⟩
  have hNs : Hid (sumL (three l1 l2 l3) 3 ≤ 3145728) := by rw [← hN]; show N ≤ 3145728; omega
  have hR3 : Hid (tagF l0 b0 (allF (three l1 l2 l3) (three b1 b2 b3) 3) (sumL (three l1 l2 l3) 3) = R) := by rw [hR, hM, hN]; rfl
  have hR1 : Hid (tagF l0 b0 (allF (fun _ => N) (fun _ => M) 1) (sumL (fun _ => N) 1) = R) := by
    have h1 : sumL (fun _ => N) 1 = N := by simp [sumL]
    rw [h1, hR]
    exact tagF_congr _ _ _ _ _ fun j hj => by
      show catF (fun _ => 0#8) (0 + 0) M j = M j
      unfold catF
      rw [if_neg (by omega)]
      rfl
  have hR0 : Hid (tagF l0 b0 (allF (fun _ => 0) (fun _ _ => 0#8) 0) (sumL (fun _ => 0) 0) = R0) := by rw [hRz]; rfl
  have hR00 : Hid (tagF l0 b0 (fun _ => 0#8) 0 = R0) := hRz.symm
  have hq := eq24 R
  have hq0 := eq24 R0
  have hjn : Hid (∀ i, i < 3 → ∀ j, joinF (fun _ => 0#8) 0 (three l1 l2 l3) (three b1 b2 b3) (i + 1) j = catF (joinF (fun _ => 0#8) 0 (three l1 l2 l3) (three b1 b2 b3) i) (0 + sumL (three l1 l2 l3) i) (three b1 b2 b3 i) j) := fun i _ j => rfl
  replace hC := hideit hC
  replace hK := hideit hK
  replace hB1 := hideit hB1
  replace hB2 := hideit hB2
  replace hB3 := hideit hB3
  replace hR := hideit hR
  replace hM := hideit hM
  replace hN := hideit hN
  clear hRz
  go_enter Tryd.func3, Tryd.ntmps3
  go_upto_region 1 with (fail)
  refine wp_region_lit ?_
  refine wpList_to rfl (.slice (some ⟨w.heap.size, 0, none⟩) 0 0) (w.alloc (.cells #[] 5)) (by simp [go_sem]) ?_
  simp only [Act.put, List.setIfInBounds_toArray, List.set_cons_zero, List.set_cons_succ]
  refine wpList_run rfl (.slice o1 l1 c1) (by simp [go_sem]) ?_
  simp only [Act.put, List.setIfInBounds_toArray, List.set_cons_zero, List.set_cons_succ]
  have HE1 : Ext w (w.alloc (.cells #[] 5)) := (Below.refl _ _).alloc (Nat.le_refl _) _
  have HO1 := own_empty w w.heap.size 5 (yv (joinF (fun _ => 0#8) 0 (three l1 l2 l3) (three b1 b2 b3) 0)) (Nat.le_refl _)
  refine wpList_growV (n := 0) (base := w.heap.size) (g := yv (joinF (fun _ => 0#8) 0 (three l1 l2 l3) (three b1 b2 b3) 0)) elem22 rfl (.tmp 11) (.tmp 12) rfl rfl HO1 _ l1 b1 (yv (joinF (fun _ => 0#8) 0 (three l1 l2 l3) (three b1 b2 b3) 1)) rfl (hB1.out.ext HE1) (fun j hj => by simp only [yv]; rw [hjn.out 0 (by omega)]; unfold catF; rw [if_pos (by simp only [sumL]; omega)]) (fun j hj => by
    simp only [yv]
    rw [hjn.out 0 (by omega)]
    unfold catF
    have e1 : 0 + sumL (three l1 l2 l3) 0 = 0 := by rfl
    rw [e1, if_neg (by omega), Nat.add_sub_cancel_left]
    rfl) (by omega) (Below.size HE1) ?_
  intro u1 x1 HO2 hg1
  rw [Nat.zero_add] at HO2
  have HE2 : Ext w x1 := grown_ext HE1 hg1 (fun q hq => (HO1.lt q hq).1)
  obtain ⟨oo1, cc1, rfl⟩ := own_form HO2
  simp only [Act.put, List.setIfInBounds_toArray, List.set_cons_zero, List.set_cons_succ]
  refine wpList_run rfl (.slice o2 l2 c2) (by simp [go_sem]) ?_
  simp only [Act.put, List.setIfInBounds_toArray, List.set_cons_zero, List.set_cons_succ]
  refine wpList_growV (n := l1) (base := w.heap.size) (g := yv (joinF (fun _ => 0#8) 0 (three l1 l2 l3) (three b1 b2 b3) 1)) elem22 rfl (.tmp 13) (.tmp 14) rfl rfl HO2 _ l2 b2 (yv (joinF (fun _ => 0#8) 0 (three l1 l2 l3) (three b1 b2 b3) 2)) rfl (hB2.out.ext HE2) (fun j hj => by simp only [yv]; rw [hjn.out 1 (by omega)]; unfold catF; rw [if_pos (by simp [sumL, three]; omega)]) (fun j hj => by
    simp only [yv]
    rw [hjn.out 1 (by omega)]
    unfold catF
    have e1 : 0 + sumL (three l1 l2 l3) 1 = l1 := by simp [sumL, three]
    rw [e1, if_neg (by omega), Nat.add_sub_cancel_left]
    rfl) (by omega) (Below.size HE2) ?_
  intro u2 x2 HO3 hg2
  have HE3 : Ext w x2 := grown_ext HE2 hg2 (fun q hq => (HO2.lt q hq).1)
  obtain ⟨oo2, cc2, rfl⟩ := own_form HO3
  simp only [Act.put, List.setIfInBounds_toArray, List.set_cons_zero, List.set_cons_succ]
  refine wpList_run rfl (.slice o3 l3 c3) (by simp [go_sem]) ?_
  simp only [Act.put, List.setIfInBounds_toArray, List.set_cons_zero, List.set_cons_succ]
  refine wpList_growV (n := l1 + l2) (base := w.heap.size) (g := yv (joinF (fun _ => 0#8) 0 (three l1 l2 l3) (three b1 b2 b3) 2)) elem22 rfl (.tmp 15) (.tmp 16) rfl rfl HO3 _ l3 b3 (yv (joinF (fun _ => 0#8) 0 (three l1 l2 l3) (three b1 b2 b3) 3)) rfl (hB3.out.ext HE3) (fun j hj => by simp only [yv]; rw [hjn.out 2 (by omega)]; unfold catF; rw [if_pos (by simp [sumL, three]; omega)]) (fun j hj => by
    simp only [yv]
    rw [hjn.out 2 (by omega)]
    unfold catF
    have e1 : 0 + sumL (three l1 l2 l3) 2 = l1 + l2 := by simp [sumL, three]
    rw [e1, if_neg (by omega), Nat.add_sub_cancel_left]
    rfl) (by omega) (Below.size HE3) ?_
  intro u3 x3 HO4 hg3
  have HE4 : Ext w x3 := grown_ext HE3 hg3 (fun q hq => (HO3.lt q hq).1)
  obtain ⟨oo3, cc3, rfl⟩ := own_form HO4
  simp only [Act.put, List.setIfInBounds_toArray, List.set_cons_zero, List.set_cons_succ]
  have HA4 : BV (.slice oo3 (l1 + l2 + l3) cc3) N M x3 := by
    rw [hN3, hM.out]
    exact OwnB.bv HO4
  have hform : ∃ oA cA, Value.slice oo3 (l1 + l2 + l3) cc3 = .slice oA N cA := ⟨oo3, cc3, by rw [hN3]⟩
  obtain ⟨oA, cA, hvA⟩ := hform
  rw [hvA] at HA4 ⊢
  refine wpList_run rfl (.slice oA N cA) (by simp [go_sem]) ?_
  simp only [Act.put, List.setIfInBounds_toArray, List.set_cons_zero, List.set_cons_succ]
  have HA4h := hideit HA4
  have HE4h := hideit HE4
  clear HA4 hvA HO4 HO3 HO2 HO1 hg1 hg2 hg3 HE1 HE2 HE3 HE4
  have hNb : N ≤ 3145728 := by omega
  have ht := rTag_any _ _ l0 N b0 M x3 (hK.out.ext HE4h.out) HA4h.out hl0 (by omega)
  rw [← hR.out] at ht
  replace ht := hideit ht
  go_upto_region 2 with (fail)
  refine wp_region_lit ?_
  refine wpList_run rfl (.slice o0 l0 c0) (by simp [go_sem]) ?_
  simp only [Act.put, List.setIfInBounds_toArray, List.set_cons_zero, List.set_cons_succ]
  refine wpList_run rfl (.slice oA N cA) (by simp [go_sem]) ?_
  simp only [Act.put, List.setIfInBounds_toArray, List.set_cons_zero, List.set_cons_succ]
  refine wpList_call rfl (by simp [go_sem]) (ht.out.mono ?_)
  rintro e x4 ⟨rfl, hw4⟩
  refine ⟨_, rfl, ?_⟩
  simp only [Act.put, List.setIfInBounds_toArray, List.set_cons_zero, List.set_cons_succ]
  have HE5 := hideit (Ext.trans HE4h.out hw4)
  have HA5 := hideit (HA4h.out.ext hw4)
  clear ht hw4 HA4h HE4h
  have HN := hideit (RowAt.new x4 32 (yv fun _ => 0#8) 23)
  have hE6 : Ext x4 (x4.alloc (.cells (row 32 (yv fun _ => 0#8)).toArray 23)) := (Below.refl _ _).alloc (Nat.le_refl _) _
  refine wpList_to rfl (.pointer (some ⟨x4.heap.size, 0, none⟩)) (x4.alloc (.cells (row 32 (yv fun _ => 0#8)).toArray 23)) (by simp [go_sem, hz2]) ?_
  simp only [Act.put, List.setIfInBounds_toArray, List.set_cons_zero, List.set_cons_succ]
  refine wpList_store_mid rfl 23 (.tmp 10) (.tmp 20) rfl _ 0 (row 32 (yv R)).toArray rfl rfl (by rw [row_size]; exact HN.out.there) (by rw [row_size]; exact info24) (row_one fun _ _ => rfl) ?_
  have hE7 : Ext x4 ((x4.alloc (.cells (row 32 (yv fun _ => 0#8)).toArray 23)).setCells x4.heap.size 0 (row 32 (yv R))) := below_setCells x4.heap.size (Nat.le_refl _) _ _ _ hE6
  have HW := hideit (HN.out.cells (g' := yv R))
  have HE := hideit (Ext.trans HE5.out hE7)
  have HA := hideit (HA5.out.ext hE7)
  generalize (x4.alloc (.cells (row 32 (yv fun _ => 0#8)).toArray 23)).setCells x4.heap.size 0 (row 32 (yv R)) = x5 at *
  generalize x4.heap.size = bW at *
  clear HN hE6 hE7 HE5 HA5
  simp only [Act.put]
  go_upto_region 3 with (fail)
  refine wp_region_any (by kernel_rfl) ?_
  refine wpAny_row _ 27 25 [0, 1] [_, _] (by decide +kernel) (by decide +kernel) (by decide +kernel) (by decide +kernel) (by decide +kernel) (by decide) rfl (by decide +kernel) (by decide +kernel) (by decide +kernel) (by decide +kernel) ?_
  intro x1 hx1
  simp only [List.getElem_toArray, List.getElem_cons_zero, List.getElem_cons_succ]
  have HL1 := hideit (Ext.trans (Below.refl _ _).drew hx1)
  refine wpList_call rfl (by simp [go_sem]) ((lives_any x1 (hC.out.ext (Ext.trans HE.out HL1.out))).mono ?_)
  rintro e w2 ⟨rfl, hw2⟩
  refine ⟨_, rfl, ?_⟩
  simp only [Act.put, List.setIfInBounds_toArray, List.set_cons_zero, List.set_cons_succ]
  have HX := hideit (Ext.trans HL1.out hw2)
  clear hx1 hw2 HL1
  refine wpList_run rfl (.bool true) (by simp [go_sem]) ?_
  simp only [Act.put, List.setIfInBounds_toArray, List.set_cons_zero, List.set_cons_succ]
  refine wpList_go ?_
  have hne := kept_ne w2
  refine wpAny_pures (by kernel_rfl) (fun _ _ _ _ _ h => h) [2, 3] [_, _] _ _ 23 rfl (by decide +kernel) ?_
  simp only [List.getElem_toArray, List.getElem_cons_zero, List.getElem_cons_succ]
  refine wpPure_one (.slice o0 l0 c0) rfl (fun X => by simp [go_sem]) ?_
  simp only [Act.put, List.setIfInBounds_toArray, List.set_cons_zero, List.set_cons_succ]
  refine wpPure_one (.slice oA N cA) rfl (fun X => by simp [go_sem]) ?_
  simp only [Act.put, List.setIfInBounds_toArray, List.set_cons_zero, List.set_cons_succ]
  refine wpPure_nil ?_
  refine wpAny_seg _ 23 17 (spT N M (.slice oA N cA)) (fun _ => .agg (row 32 (yv R)).toArray) (fun _ _ _ _ hh hk => Parts.ext hh hk) [6] [4] [5] [7, 8, 9] [_] [_, _, _] (by decide +kernel) (by decide +kernel) (by decide +kernel) (by decide +kernel) (by decide +kernel) (by decide) rfl rfl (by decide +kernel) (by decide +kernel) (by decide +kernel) (by decide +kernel) (by decide +kernel) (by decide +kernel) (by decide +kernel) (by decide +kernel) (by decide +kernel) (by decide +kernel) (by decide +kernel) ?_
  simp only [List.getElem_toArray, List.getElem_cons_zero, List.getElem_cons_succ]
  refine wpStrong_run 1 rfl ?_
  simp only [List.take_succ_cons, List.take_zero, List.drop_succ_cons, List.drop_zero]
  go_big_quiet_want
  refine loadQ 23 (.tmp 10) bW 0 32 (yv R) rfl rfl (fun w' hw' => (HW.out.carry (Ext.trans HX.out hw')).range) Tryd.underlying23 rfl info24 ?_
  simp only [Act.put, List.setIfInBounds_toArray, List.set_cons_zero, List.set_cons_succ]
  go_big_quiet_on
  refine wpQuiet_nil ?_
  refine wpStrong_nil ?_
  refine wpN_one _ rfl (GenY.make rfl (fun X hX => ⟨.cells #[.slice oA N cA] 22, by simp [go_sem, spT], partsOne X _ N M ((HA.out.ext (Ext.trans HX.out hX)).ext ((Below.refl _ _).alloc (Nat.le_refl _) _))⟩)) ?_
  intro b hb1 _
  simp only [List.getElem_toArray, List.getElem_cons_zero, List.getElem_cons_succ, Act.put, List.setIfInBounds_toArray, List.set_cons_zero, List.set_cons_succ]
  refine wpN_nil ?_
  refine wpT_one _ rfl (StrongT.call (f := 10) (args := #[.slice o0 l0 c0, .slice (some ⟨b, 0, none⟩) 1 1]) rfl (fun X => by simp [go_sem, spT]) (fun X hX hH => ?_)) ?_
  · have ht := Tag_any _ _ l0 1 b0 _ _ _ X (hK.out.ext (Ext.trans HE.out (Ext.trans HX.out hX))) (hH (b, 4) (by simp)).1 (hC.out.ext (Ext.trans HE.out (Ext.trans HX.out hX))) hl0 (by omega) (by show 0 + N < _; omega)
    rw [hR1.out] at ht
    exact ht
  simp only [List.getElem_toArray, List.getElem_cons_zero, List.getElem_cons_succ, Act.put, List.setIfInBounds_toArray, List.set_cons_zero, List.set_cons_succ]
  refine wpT_nil ?_
  intro w3 hw3 _
  have HX3 := hideit (Ext.trans HX.out hw3)
  clear hw3 HX hne
  refine wpList_runW rfl (.bool true) (by simp [go_sem, hq]) ?_
  simp only [Act.put, List.setIfInBounds_toArray, List.set_cons_zero, List.set_cons_succ]
  refine wpList_run rfl (.bool true) (by simp [go_sem]) ?_
  simp only [Act.put, List.setIfInBounds_toArray, List.set_cons_zero, List.set_cons_succ]
  refine wpList_run rfl (.bool true) (by simp [go_sem]) ?_
  simp only [Act.put, List.setIfInBounds_toArray, List.set_cons_zero, List.set_cons_succ]
  refine wpList_go ?_
  have HX := HX3
  clear HX3
  have hne := kept_ne w3
  refine wpAny_pures (by kernel_rfl) (fun _ _ _ _ _ h => h) [10, 11, 12, 13] [_, _, _, _] _ _ 13 rfl (by decide +kernel) ?_
  simp only [List.getElem_toArray, List.getElem_cons_zero, List.getElem_cons_succ]
  refine wpPure_one (.slice o0 l0 c0) rfl (fun X => by simp [go_sem]) ?_
  simp only [Act.put, List.setIfInBounds_toArray, List.set_cons_zero, List.set_cons_succ]
  refine wpPure_one (.slice o1 l1 c1) rfl (fun X => by simp [go_sem]) ?_
  simp only [Act.put, List.setIfInBounds_toArray, List.set_cons_zero, List.set_cons_succ]
  refine wpPure_one (.slice o2 l2 c2) rfl (fun X => by simp [go_sem]) ?_
  simp only [Act.put, List.setIfInBounds_toArray, List.set_cons_zero, List.set_cons_succ]
  refine wpPure_one (.slice o3 l3 c3) rfl (fun X => by simp [go_sem]) ?_
  simp only [Act.put, List.setIfInBounds_toArray, List.set_cons_zero, List.set_cons_succ]
  refine wpPure_nil ?_
  refine wpAny_seg _ 13 7 (sp3 l1 l2 l3 b1 b2 b3 (.slice o1 l1 c1) (.slice o2 l2 c2) (.slice o3 l3 c3)) (fun _ => .agg (row 32 (yv R)).toArray) (fun _ _ _ _ hh hk => Parts.ext hh hk) [16] [14] [15] [17, 18, 19] [_] [_, _, _] (by decide +kernel) (by decide +kernel) (by decide +kernel) (by decide +kernel) (by decide +kernel) (by decide) rfl rfl (by decide +kernel) (by decide +kernel) (by decide +kernel) (by decide +kernel) (by decide +kernel) (by decide +kernel) (by decide +kernel) (by decide +kernel) (by decide +kernel) (by decide +kernel) (by decide +kernel) ?_
  simp only [List.getElem_toArray, List.getElem_cons_zero, List.getElem_cons_succ]
  refine wpStrong_run 1 rfl ?_
  simp only [List.take_succ_cons, List.take_zero, List.drop_succ_cons, List.drop_zero]
  go_big_quiet_want
  refine loadQ 23 (.tmp 10) bW 0 32 (yv R) rfl rfl (fun w' hw' => (HW.out.carry (Ext.trans HX.out hw')).range) Tryd.underlying23 rfl info24 ?_
  simp only [Act.put, List.setIfInBounds_toArray, List.set_cons_zero, List.set_cons_succ]
  go_big_quiet_on
  refine wpQuiet_nil ?_
  refine wpStrong_nil ?_
  refine wpN_one _ rfl (GenY.make rfl (fun X hX => ⟨.cells #[.slice o1 l1 c1, .slice o2 l2 c2, .slice o3 l3 c3] 22, by simp [go_sem, sp3], partsThree X _ _ _ l1 l2 l3 b1 b2 b3 (hB1.out.ext (Ext.trans HE.out (Ext.trans HX.out hX))) (hB2.out.ext (Ext.trans HE.out (Ext.trans HX.out hX))) (hB3.out.ext (Ext.trans HE.out (Ext.trans HX.out hX)))⟩)) ?_
  intro b hb1 _
  simp only [List.getElem_toArray, List.getElem_cons_zero, List.getElem_cons_succ, Act.put, List.setIfInBounds_toArray, List.set_cons_zero, List.set_cons_succ]
  refine wpN_nil ?_
  refine wpT_one _ rfl (StrongT.call (f := 10) (args := #[.slice o0 l0 c0, .slice (some ⟨b, 0, none⟩) 3 3]) rfl (fun X => by simp [go_sem, sp3]) (fun X hX hH => ?_)) ?_
  · have ht := Tag_any _ _ l0 3 b0 _ _ _ X (hK.out.ext (Ext.trans HE.out (Ext.trans HX.out hX))) (hH (b, 14) (by simp)).1 (hC.out.ext (Ext.trans HE.out (Ext.trans HX.out hX))) hl0 (by omega) (by have := hNs.out; omega)
    rw [hR3.out] at ht
    exact ht
  simp only [List.getElem_toArray, List.getElem_cons_zero, List.getElem_cons_succ, Act.put, List.setIfInBounds_toArray, List.set_cons_zero, List.set_cons_succ]
  refine wpT_nil ?_
  intro w4 hw4 _
  have HX4 := hideit (Ext.trans HX.out hw4)
  clear hw4 HX hne
  refine wpList_runW rfl (.bool true) (by simp [go_sem, hq]) ?_
  simp only [Act.put, List.setIfInBounds_toArray, List.set_cons_zero, List.set_cons_succ]
  refine wpList_run rfl (.bool true) (by simp [go_sem]) ?_
  simp only [Act.put, List.setIfInBounds_toArray, List.set_cons_zero, List.set_cons_succ]
  refine wpList_run rfl (.bool true) (by simp [go_sem]) ?_
  simp only [Act.put, List.setIfInBounds_toArray, List.set_cons_zero, List.set_cons_succ]
  refine wpList_go ?_
  have HX := HX4
  clear HX4
  refine wpAny_pures (by kernel_rfl) (fun _ _ _ _ _ h => h) [20, 22] [_, _] _ _ 5 rfl (by decide +kernel) ?_
  simp only [List.getElem_toArray, List.getElem_cons_zero, List.getElem_cons_succ]
  refine wpPure_one (.slice o0 l0 c0) rfl (fun X => by simp [go_sem]) ?_
  simp only [Act.put, List.setIfInBounds_toArray, List.set_cons_zero, List.set_cons_succ]
  refine wpPure_one (.slice o0 l0 c0) rfl (fun X => by simp [go_sem]) ?_
  simp only [Act.put, List.setIfInBounds_toArray, List.set_cons_zero, List.set_cons_succ]
  refine wpPure_nil ?_
  refine wpAny_seg _ 5 0 (fun _ => ⟨fun _ => undef, fun _ _ => True⟩) (fun _ => .agg (row 32 (yv R0)).toArray) (fun _ _ _ _ _ _ => trivial) [] [] [21, 23] [24, 25, 26] [] [_, _, _] (by decide +kernel) (by decide +kernel) (by decide +kernel) (by decide +kernel) (by decide +kernel) (by decide) rfl rfl (by decide +kernel) (by decide +kernel) (by decide +kernel) (by decide +kernel) (by decide +kernel) (by decide +kernel) (by decide +kernel) (by decide +kernel) (by decide +kernel) (by decide +kernel) (by decide +kernel) ?_
  simp only [List.getElem_toArray, List.getElem_cons_zero, List.getElem_cons_succ]
  refine wpStrong_nil ?_
  refine wpN_nil ?_
  refine wpT_one _ rfl (StrongT.call (f := 10) (args := #[.slice o0 l0 c0, .slice none 0 0]) rfl (fun X => by simp [go_sem]) (fun X hX _ => ?_)) ?_
  · have ht := Tag_any _ (.slice none 0 0) l0 0 b0 (fun _ => undef) (fun _ => 0) (fun _ _ => 0#8) X (hK.out.ext (Ext.trans HE.out (Ext.trans HX.out hX))) ⟨.inl ⟨rfl, rfl⟩, fun i hi => absurd hi (by omega)⟩ (hC.out.ext (Ext.trans HE.out (Ext.trans HX.out hX))) hl0 (by omega) (by show 0 < _; omega)
    rw [hR0.out] at ht
    exact ht
  simp only [List.getElem_toArray, List.getElem_cons_zero, List.getElem_cons_succ, Act.put, List.setIfInBounds_toArray, List.set_cons_zero, List.set_cons_succ]
  refine wpT_one _ rfl (StrongT.call (f := 8) (args := #[.slice o0 l0 c0, .slice none 0 0]) rfl (fun X => by simp [go_sem]) (fun X hX _ => ?_)) ?_
  · have ht := rTag_any _ (.slice none 0 0) l0 0 b0 (fun _ => 0#8) X (hK.out.ext (Ext.trans HE.out (Ext.trans HX.out hX))) (.inl ⟨rfl, rfl⟩) hl0 (by omega)
    rw [hR00.out] at ht
    exact ht
  simp only [List.getElem_toArray, List.getElem_cons_zero, List.getElem_cons_succ, Act.put, List.setIfInBounds_toArray, List.set_cons_zero, List.set_cons_succ]
  refine wpT_nil ?_
  intro w5 hw5 _
  have HX5 := hideit (Ext.trans HE.out (Ext.trans HX.out hw5))
  clear hw5 HX
  refine wpList_runW rfl (.bool true) (by simp [go_sem, hq0]) ?_
  simp only [Act.put, List.setIfInBounds_toArray, List.set_cons_zero, List.set_cons_succ]
  refine wpList_run rfl (.bool true) (by simp [go_sem]) ?_
  simp only [Act.put, List.setIfInBounds_toArray, List.set_cons_zero, List.set_cons_succ]
  refine wpList_run rfl (.bool true) (by simp [go_sem]) ?_
  simp only [Act.put, List.setIfInBounds_toArray, List.set_cons_zero, List.set_cons_succ]
  refine wpList_go ?_
  refine wpAny_done (by decide +kernel) ?_
  go_wp2
  go_ret
  exact ⟨rfl, HX5.out⟩

theorem contract (H : Type) (enc : TypeId × Value → H) (W : World) (base : Nat) (args : Array Value) (ds gs : List (DataW H)) (before : List MemPlace)
    (hval0 : ∀ (j : Nat) t v, Tryd.f3.params[j]? = some t → args[j]? = some v → Value.okWide Tryd.prog W .any base t v)
    (hW : DataW.Whole enc Tryd.prog Tryd.f3.params.toList Rows.hmacTagsSpec.vars false W args.toList ds gs before) (hL : laidMetH Tryd.prog Rows.hmacTagsUptoRow.laid W) (hB : Rows.uptoSmall H (ds ++ gs) = true) :
    Calls Tryd.prog 3 args W fun e W' => ∃ v, e = .returned v ∧ Rows.hmacTagsSpec.post enc Tryd.prog Tryd.f3 false true false false W args v W' := by
  have hval := hval0
  have hW' := hW
  obtain ⟨p, q, hA0, hV, rfl, hfz, hnd⟩ := hW
  have hA : DataW.TrodAll enc Tryd.prog W 0 (fun _ => true) true Tryd.f3.params.toList args.toList ds p := hA0
  rw [Tryd.params3] at hA hval
  obtain ⟨v0, vs0, d0, ds0, p0, q0, hargs, rfl, rfl, h0, r0⟩ := trodAll_cons hA
  obtain ⟨v1, vs1, d1, ds1, p1, q1, rfl, rfl, rfl, h1, r1⟩ := trodAll_cons r0
  obtain ⟨v2, vs2, d2, ds2, p2, q2, rfl, rfl, rfl, h2, r2⟩ := trodAll_cons r1
  obtain ⟨v3, vs3, d3, ds3, p3, q3, rfl, rfl, rfl, h3, r3⟩ := trodAll_cons r2
  obtain ⟨rfl, rfl, rfl⟩ := trodAll_nil r3
  obtain rfl : args = #[v0, v1, v2, v3] := by cases args; simp_all
  obtain ⟨rfl, rfl⟩ := trodVars_none hV
  have h0s : 0 < W.heap.size := by
    have hc := (table hL).cell gTab 0 (by decide)
    rcases Nat.lt_or_ge 0 W.heap.size with h | h
    · exact h
    · exfalso
      have : W.heap[0]? = none := Array.getElem?_eq_none h
      simp [World.cell?, this] at hc
  have hC : TabC W := tabC hL h0s
  have k0 := h0
  have lt0 : ∀ x ∈ p0, x.block < W.heap.size := by obtain ⟨m, hm⟩ := k0; exact DataW.trod_lt m _ _ _ hm
  have k1 := h1
  have lt1 : ∀ x ∈ p1, x.block < W.heap.size := by obtain ⟨m, hm⟩ := k1; exact DataW.trod_lt m _ _ _ hm
  have k2 := h2
  have lt2 : ∀ x ∈ p2, x.block < W.heap.size := by obtain ⟨m, hm⟩ := k2; exact DataW.trod_lt m _ _ _ hm
  have k3 := h3
  have lt3 : ∀ x ∈ p3, x.block < W.heap.size := by obtain ⟨m, hm⟩ := k3; exact DataW.trod_lt m _ _ _ hm
  have B0 := bargU (hval 0 22 v0 rfl rfl) h0 (Nat.le_trans (bulk_mem (by simp)) (of_decide_eq_true hB))
  have B1 := bargU (hval 1 22 v1 rfl rfl) h1 (Nat.le_trans (bulk_mem (by simp)) (of_decide_eq_true hB))
  have B2 := bargU (hval 2 22 v2 rfl rfl) h2 (Nat.le_trans (bulk_mem (by simp)) (of_decide_eq_true hB))
  have B3 := bargU (hval 3 22 v3 rfl rfl) h3 (Nat.le_trans (bulk_mem (by simp)) (of_decide_eq_true hB))
  clear hA0 hval0
  refine (walk v0 v1 v2 v3 W B0 B1 B2 B3 hC).mono fun e W' ⟨he, bel⟩ => ?_
  subst he
  exact ⟨_, rfl, _, _, _, [], _, [], hW', trodAll_mk1 (shut_bool Tryd.underlying4 _), (trodAll_cons_mk (Below.trod laidOut (by kernel_rfl) (of_decide_eq_true (by kernel_rfl)) k0 bel lt0) (trodAll_cons_mk (Below.trod laidOut (by kernel_rfl) (of_decide_eq_true (by kernel_rfl)) k1 bel lt1) (trodAll_cons_mk (Below.trod laidOut (by kernel_rfl) (of_decide_eq_true (by kernel_rfl)) k2 bel lt2) (trodAll_cons_mk (Below.trod laidOut (by kernel_rfl) (of_decide_eq_true (by kernel_rfl)) k3 bel lt3) trodAll_mk0)))), rfl, bel.frame _, fun h => by cases h⟩

def wit : Array Value := #[.slice none 0 0, .slice none 0 0, .slice none 0 0, .slice none 0 0]
def dat {H : Type} : List (DataW H) := [.nil, .nil, .nil, .nil]
def setTab : Obj → Obj
  | .cells _ t frozen => .cells (tabL.map fun z => Value.int .u32 z).toArray t frozen
  | o => o
theorem laid_met (os : Os) : laidMet Tryd.prog Rows.hmacTagsUptoRow.laid (({ World.holding Tryd.prog os ⟨#[], #[], []⟩ with heap := (World.holding Tryd.prog os ⟨#[], #[], []⟩).heap.modify 0 setTab } : World).forCall (fun _ _ => 0) ⟨#[], wit, []⟩).memory :=
  laidMet_of_run' 8 (by kernel_rfl) (by kernel_rfl)
theorem reads (os : Os) {H : Type} (enc : TypeId × Value → H) : ∃ places, DataW.whole enc Tryd.prog (({ World.holding Tryd.prog os ⟨#[], #[], []⟩ with heap := (World.holding Tryd.prog os ⟨#[], #[], []⟩).heap.modify 0 setTab } : World).forCall (fun _ _ => 0) ⟨#[], wit, []⟩).memory Tryd.f3.params.toList Rows.hmacTagsSpec.vars false wit.toList 8 = some (dat, [], places) :=
  ⟨[], by kernel_rfl⟩

set_option maxRecDepth 100000 in
theorem lifted (os : Os) (started : os.Started) (H : Type) (enc : TypeId × Value → H) (F : Stop.Interp) :
    ReturnsInHanded {} Tryd.checked os 3 .any ((Rows.OpenSpec.upto Rows.hmacTagsSpec).preRow enc Tryd.prog Tryd.f3 Rows.hmacTagsUptoRow.domain false Rows.hmacTagsUptoRow.laid) (((Rows.OpenSpec.upto Rows.hmacTagsSpec).at F).post enc Tryd.prog Tryd.f3 false true false false) := by
  obtain ⟨places, hx⟩ := reads os enc
  refine returnsInHanded_of_row (C := Tryd.checked) (s := (Rows.OpenSpec.upto Rows.hmacTagsSpec)) own started (by kernel_rfl) Tryd.func3
    (witness_row_at (enc := enc) (C := Tryd.checked) false ({ World.holding Tryd.prog os ⟨#[], #[], []⟩ with heap := (World.holding Tryd.prog os ⟨#[], #[], []⟩).heap.modify 0 setTab } : World) wit rfl (by kernel_rfl) (by kernel_rfl) (by kernel_rfl)
      (OpenSpec.preRow_of_cond 8 hx (by kernel_rfl) (fun k hk => by cases hk; kernel_rfl) (by kernel_rfl) (laid_met os))) ?_
  intro W base args ds gs before hval hW _ hcond hsz hL _ _
  exact contract H enc W base args ds gs before hval hW hL (hcond _ rfl)

theorem said : Rows.HmacTagsUptoSaid :=
  OpenClaim.holds_of_cond 3 Tryd.f3 rfl rfl rfl rfl rfl rfl rfl ⟨rfl, rfl, rfl, rfl, rfl⟩ rfl rfl rfl rfl rfl (by kernel_rfl) Tryd.func3 (by kernel_rfl)
    (of_decide_eq_true (by kernel_rfl)) (by unfold Func.isWrapper; first | (rw [if_pos (by decide +kernel)]; kernel_rfl) | (rw [if_neg (by decide +kernel)]; exact ⟨rfl, rfl⟩))
    (fun os started H enc _ F => by rw [OpenClaim.pre_eq_preRow]; exact lifted os started H enc F)

theorem plain (f : FuncId) (fn : Func) (hf : Tryd.pinned.checked.prog.funcNamed "casket/casketlaw05.HmacTags" = some f) (hfn : Tryd.pinned.checked.prog.funcs[f]? = some fn) :
    false = Tryd.pinned.checked.prog.looks [] ∧ ∀ (j : Nat) t, fn.params[j]? = some t → Tryd.pinned.checked.prog.wantsStandIn t = false := by
  obtain rfl : f = 3 := Option.some.inj ((show Tryd.prog.funcNamed "casket/casketlaw05.HmacTags" = some 3 by kernel_rfl).symm.trans hf) |>.symm
  obtain rfl : fn = Tryd.f3 := (Option.some.inj (Tryd.func3.symm.trans hfn)).symm
  refine ⟨by kernel_rfl, fun j t ht => ?_⟩
  rw [Tryd.params3] at ht
  have hm : t ∈ [22, 22, 22, 22] := by simpa using Array.mem_of_getElem? ht
  have hall : ([22, 22, 22, 22].all fun u => !Tryd.prog.wantsStandIn u) = true := by kernel_rfl
  exact (show Tryd.prog.wantsStandIn t = false by simpa using List.all_eq_true.1 hall t hm)

theorem card : Rows.HmacTagsUptoCardSaid :=
  Claim7.holds_tied_plain_at .later [] _ _ _ _ said (fun _ h => by cases h) (by kernel_rfl) (fun _ h => by cases h) hmacTagsUpto_row_tie rfl ⟨rfl, rfl⟩ (by kernel_rfl) rfl plain (by kernel_rfl)
end Go.Proofs.YthgflnjeojhgkaaDoor.hmacTags
namespace Go.Proofs.YthgflnjeojhgkaaDoor
theorem hmacTags_holds : Rows.HmacTagsUptoCardSaid := hmacTags.card
end Go.Proofs.YthgflnjeojhgkaaDoor
