/-
  For every number and every byte the law BlakeLengths returns true; the package-level table of places is as the program lays it. No other condition.
-/
import Derived.Test.YtbnbjhainkjknaaDoorCards
import Derived.Test.YtbnbjhainkjknaaDoorTie
import Derived.WalkKit
import Derived.ProofKit
import Derived.OpenShut
import Derived.ShutString
import Derived.ChangeOld
import Derived.Below
import Derived.Deep.DeepHandedRow
import Derived.Lib.LaidTab
import Derived.Test.YtbnbjhainkjknaaDoorOpenB
import Derived.Test.YtbnbjhainkjknaaDoorLives
import Derived.Test.YtbnbjhainkjknaaDoorRSum
import Derived.Test.YtbnbjhainkjknaaDoorTabP
namespace Go.Proofs.YtbnbjhainkjknaaDoor.blakeLengths
open Go.ChangeShapes Go.WideShapes Go.ChangeAt Go.RowKit
set_option linter.unusedVariables false

theorem own : ownKnob Tryd.prog.godebug = none := by kernel_rfl
theorem laidOut : laidOutB Tryd.prog = true := by kernel_rfl
theorem gTab : Tryd.prog.globalNamed "casket/blake.places" = some 0 := by kernel_rfl
theorem gTabType : (Tryd.prog.globals[0]?).map (·.type) = some 58 := by kernel_rfl
theorem cellsG : Tryd.prog.cellsOf 58 = 32 := by kernel_rfl
theorem tabC {W : World} (h : laidMetH Tryd.prog Rows.blakeLengthsRow.laid W) (h0 : 0 < W.heap.size) : TabC W := ⟨fun j hj => tab_places h j hj, h0⟩

open Go.BigFrame
theorem tmod_lt (n : Int) : -400 < n.tmod 400 ∧ n.tmod 400 < 400 := by
  have h := Int.natAbs_tmod n 400
  have h2 := Nat.mod_lt n.natAbs (show 0 < (400 : Int).natAbs by decide)
  rw [← h] at h2
  have h3 : (400 : Int).natAbs = 400 := rfl
  omega
def kf2 (x : BitVec 8) (j : Nat) : BitVec 8 := if j = 0 then x else 1#8
theorem key2 (w : World) (x : BitVec 8) : BV (.slice (some ⟨w.heap.size, 0, none⟩) 2 2) 2 (kf2 x) (w.alloc (.cells #[.int .u8 (x.toNat : Int), .int .u8 1] 5)) :=
  .inr ⟨_, 2, rfl, Nat.le_refl _, lieNew w 2 _ 5 (0, 0) _ (fun j hj => by rcases (by omega : j = 0 ∨ j = 1) with rfl | rfl <;> rfl)⟩
theorem bsum_one (nn kl l : Nat) (hn1 : 1 ≤ nn) (hn2 : nn ≤ 64) (hkl : kl ≤ 64) (kv mv : Value) (key b : Nat → BitVec 8) (X : World) (hK : BV kv kl key X) (hM : BV mv l b X) (hC : TabC X) :
    Calls Tryd.prog 9 #[.int .i64 (nn : Int), kv, .slice (some ⟨X.heap.size, 0, none⟩) 1 1] (X.alloc (.cells #[mv] 22)) fun e w' => ∃ v', e = .returned (.tuple #[v', .int .i64 0]) ∧ OwnB X.heap.size 5 v' nn (yv (blakeF (h0F nn kl) (catF (keyF kl key) (keyN kl) b) (keyN kl + l))) w' ∧ Ext X w' := by
  have hE0 : Ext X (X.alloc (.cells #[mv] 22)) := (Below.refl _ _).alloc (Nat.le_refl _) _
  have h := bsum_any nn kl 1 hn1 hn2 hkl kv _ key _ _ _ (X.alloc (.cells #[mv] 22)) (hK.ext hE0) (partsOne X mv l b (hM.ext hE0)) (hC.ext hE0) (by omega)
  have e1 : keyN kl + sumL (fun _ => l) 1 = keyN kl + l := by simp [sumL]
  rw [e1] at h
  exact h.mono fun e w' ⟨v', h1, h2, h3⟩ => ⟨v', h1, h2.down (Below.size hE0), Ext.trans hE0 h3⟩
set_option maxRecDepth 20000 in
set_option maxHeartbeats 4000000 in
theorem walk (z : Int) (hz : (Lit.int .i64 z).wf = true) (x : BitVec 8) (w : World) (hC : TabC w) : Calls Tryd.prog 6 #[.int .i64 z, .int .u8 (x.toNat : Int)] w fun e w' => e = .returned (.bool true) ∧ Below w.heap.size w w' := by
  replace hC := hideit hC
  obtain ⟨t1, t2⟩ := tmod_lt z
  clear hz
  obtain ⟨kz, hkz⟩ : ∃ kz : Nat → BitVec 8, kz = fun _ => 0#8 := ⟨_, rfl⟩
  clear hkz
  by_cases hneg : z.tmod 400 < 0
  · go_enter Tryd.func6, Tryd.ntmps6
    go_upto_region 4 with (fail)
    obtain ⟨K, hK⟩ : ∃ K : Nat, -z.tmod 400 = (K : Int) := ⟨(-z.tmod 400).toNat, by omega⟩
    rw [hK]
    have hK3 : (K : Int) < 400 := by omega
    have hK4 : (0 : Int) ≤ (K : Int) := by omega
    clear hK t1 t2 hneg
    obtain ⟨R1, hR1⟩ : ∃ R1, blakeF (h0F 32 0) (catF (keyF 0 kz) (keyN 0) fun _ => x) (keyN 0 + K) = R1 := ⟨_, rfl⟩
    obtain ⟨R2, hR2⟩ : ∃ R2, blakeF (h0F 64 2) (catF (keyF 2 (kf2 x)) (keyN 2) fun _ => x) (keyN 2 + K) = R2 := ⟨_, rfl⟩
    replace hR1 := hideit hR1
    replace hR2 := hideit hR2
    refine wp_region_lit ?_
    refine wpList_run rfl (.int .i64 (K : Int)) (by simp [go_sem]) ?_
    simp only [Act.put, List.setIfInBounds_toArray, List.set_cons_zero, List.set_cons_succ]
    refine wpList_made w Tryd.underlying22 (by kernel_rfl) rfl (.tmp 22) (.tmp 22) rfl K rfl rfl (by omega) ?_
    intro w1 hO1 hE1
    obtain ⟨g, hgg⟩ : ∃ g, g = w.heap.size := ⟨_, rfl⟩
    rw [← hgg] at hO1 ⊢
    have hgw : w.heap.size ≤ g := by omega
    have HO := hideit (hO1.congr (g' := yv fun j => if j < 0 then x else 0#8) fun j _ => by simp only [yv]; rw [if_neg (by omega)])
    have HE := hideit hE1
    clear hO1 hE1 hgg
    simp only [Act.put, List.setIfInBounds_toArray, List.set_cons_zero, List.set_cons_succ]
    go_wp2
    go_loopw [7] (fun i wr => ∃ q : Nat, q ≤ K ∧ i = .int .i64 (q : Int) ∧ OwnB g 5 (.slice (some ⟨g, 0, none⟩) K K) K (yv fun j => if j < q then x else 0#8) wr ∧ Ext w wr) (fun i _ => K - (intOf i).toNat)
    case atStart => exact ⟨0, by omega, rfl, HO.out, HE.out⟩
    case round =>
      clear HO HE
      obtain ⟨q, hq, rfl, hO, hE⟩ := hrel
      have HO := hideit hO
      have HE := hideit hE
      clear hO hE
      by_cases hlt : q < K
      · obtain ⟨g', cp9, hv, _, _, _, hRow⟩ := HO.out.lies (by omega)
        injection hv with q1 q2 q3
        injection q1 with q1
        injection q1 with q1
        subst q1
        have e1 := hRow.1 q hlt
        have g1 := hRow.2.1 q hlt
        clear hRow q2 q3
        have q0 : (0 : Int) ≤ (q : Int) := by omega
        have q1 : (q : Int) < (K : Int) := by omega
        go_wp2
        refine ⟨⟨q + 1, by omega, by go_num, (HO.out.set (b := g) rfl q hlt (yv (fun _ => x) q)).congr fun j _ => ?_, HE.out.setCell (by show w.heap.size ≤ g; omega) _⟩, by simp [intOf]; omega⟩
        simp only [yv]
        by_cases e : j = q
        · subst e; rw [if_pos rfl, if_pos (by omega)]
        · rw [if_neg e]
          by_cases h : j < q
          · rw [if_pos h, if_pos (by omega)]
          · rw [if_neg h, if_neg (by omega)]
      · have q1 : ¬ (q : Int) < (K : Int) := by omega
        have HM := hideit ((HO.out.congr (g' := yv fun _ => x) fun j hj => by simp only [yv]; rw [if_pos (by omega)]).bv)
        clear HO
        have HM_0 := HM
        have HX0 := HE
        clear HM HE
        go_upto_region 9 with (fail)
        refine wp_region_lit ?_
        refine wpList_run rfl (.slice (some ⟨g, 0, none⟩) K K) (by simp [go_sem]) ?_
        simp only [Act.put, List.setIfInBounds_toArray, List.set_cons_zero, List.set_cons_succ]
        have hs1 := hideit (bsum_one 32 0 K (by omega) (by omega) (by omega) (.slice none 0 0) (.slice (some ⟨g, 0, none⟩) K K) kz (fun _ => x) wr (.inl ⟨rfl, rfl⟩) HM_0.out (hC.out.ext HX0.out))
        rw [hR1.out] at hs1
        refine wpList_to rfl (.slice (some ⟨wr.heap.size, 0, none⟩) 1 1) (wr.alloc (.cells #[.slice (some ⟨g, 0, none⟩) K K] 22)) (by simp [go_sem]) ?_
        simp only [Act.put, List.setIfInBounds_toArray, List.set_cons_zero, List.set_cons_succ]
        refine wpList_call rfl (by simp [go_sem]) (hs1.out.mono ?_)
        rintro e X1 ⟨v1, rfl, hO1, hE1⟩
        refine ⟨_, rfl, ?_⟩
        obtain ⟨o1, c1, rfl⟩ := hO1.bv.form
        simp only [Act.put, List.setIfInBounds_toArray, List.set_cons_zero, List.set_cons_succ]
        have HB1_1 := hideit hO1.bv
        have HX1 := hideit (Ext.trans HX0.out hE1)
        have HM_1 := hideit (HM_0.out.ext hE1)
        clear hO1 hE1 hs1 HX0 HM_0
        refine wpList_run rfl (.tuple #[.slice o1 32 c1, .int .i64 0]) (by simp [go_sem]) ?_
        simp only [Act.put, List.setIfInBounds_toArray, List.set_cons_zero, List.set_cons_succ]
        refine wpList_run rfl (.slice o1 32 c1) (by simp [go_sem]) ?_
        simp only [Act.put, List.setIfInBounds_toArray, List.set_cons_zero, List.set_cons_succ]
        refine wpList_run rfl (.int .i64 0) (by simp [go_sem]) ?_
        simp only [Act.put, List.setIfInBounds_toArray, List.set_cons_zero, List.set_cons_succ]
        refine wpList_run rfl (.slice o1 32 c1) (by simp [go_sem]) ?_
        simp only [Act.put, List.setIfInBounds_toArray, List.set_cons_zero, List.set_cons_succ]
        refine wpList_run rfl (.int .i64 0) (by simp [go_sem]) ?_
        simp only [Act.put, List.setIfInBounds_toArray, List.set_cons_zero, List.set_cons_succ]
        go_upto_region 10 with (fail)
        refine wp_region_lit ?_
        refine wpList_run rfl (.slice (some ⟨g, 0, none⟩) K K) (by simp [go_sem]) ?_
        simp only [Act.put, List.setIfInBounds_toArray, List.set_cons_zero, List.set_cons_succ]
        have hs2 := hideit (rsum_any 32 0 K (by omega) (by omega) (by omega) (.slice none 0 0) (.slice (some ⟨g, 0, none⟩) K K) kz (fun _ => x) X1 (.inl ⟨rfl, rfl⟩) HM_1.out (by omega))
        rw [hR1.out] at hs2
        refine wpList_call rfl (by simp [go_sem]) (hs2.out.mono ?_)
        rintro e X2 ⟨v2, rfl, hO2, hE2⟩
        refine ⟨_, rfl, ?_⟩
        obtain ⟨o2, c2, rfl⟩ := hO2.bv.form
        simp only [Act.put, List.setIfInBounds_toArray, List.set_cons_zero, List.set_cons_succ]
        have HB2_2 := hideit hO2.bv
        have HX2 := hideit (Ext.trans HX1.out hE2)
        have HM_2 := hideit (HM_1.out.ext hE2)
        have HB1_2 := hideit (HB1_1.out.ext hE2)
        clear hO2 hE2 hs2 HX1 HM_1 HB1_1
        refine wpList_run rfl (.tuple #[.slice o2 32 c2, .int .i64 0]) (by simp [go_sem]) ?_
        simp only [Act.put, List.setIfInBounds_toArray, List.set_cons_zero, List.set_cons_succ]
        refine wpList_run rfl (.slice o2 32 c2) (by simp [go_sem]) ?_
        simp only [Act.put, List.setIfInBounds_toArray, List.set_cons_zero, List.set_cons_succ]
        refine wpList_run rfl (.int .i64 0) (by simp [go_sem]) ?_
        simp only [Act.put, List.setIfInBounds_toArray, List.set_cons_zero, List.set_cons_succ]
        refine wpList_run rfl (.slice o2 32 c2) (by simp [go_sem]) ?_
        simp only [Act.put, List.setIfInBounds_toArray, List.set_cons_zero, List.set_cons_succ]
        refine wpList_run rfl (.int .i64 0) (by simp [go_sem]) ?_
        simp only [Act.put, List.setIfInBounds_toArray, List.set_cons_zero, List.set_cons_succ]
        go_upto_region 11 with (fail)
        refine wp_region_lit ?_
        refine wpList_run rfl (.int .u8 (x.toNat : Int)) (by simp [go_sem]) ?_
        simp only [Act.put, List.setIfInBounds_toArray, List.set_cons_zero, List.set_cons_succ]
        have hEka : Ext X2 (X2.alloc (.cells #[.int .u8 (x.toNat : Int), .int .u8 1] 5)) := (Below.refl _ _).alloc (Nat.le_refl _) _
        have hka := hideit (key2 X2 x)
        refine wpList_to rfl (.slice (some ⟨X2.heap.size, 0, none⟩) 2 2) (X2.alloc (.cells #[.int .u8 (x.toNat : Int), .int .u8 1] 5)) (by simp [go_sem]) ?_
        simp only [Act.put, List.setIfInBounds_toArray, List.set_cons_zero, List.set_cons_succ]
        refine wpList_run rfl (.slice (some ⟨g, 0, none⟩) K K) (by simp [go_sem]) ?_
        simp only [Act.put, List.setIfInBounds_toArray, List.set_cons_zero, List.set_cons_succ]
        have hs3 := hideit (bsum_one 64 2 K (by omega) (by omega) (by omega) (.slice (some ⟨X2.heap.size, 0, none⟩) 2 2) (.slice (some ⟨g, 0, none⟩) K K) (kf2 x) (fun _ => x) (X2.alloc (.cells #[.int .u8 (x.toNat : Int), .int .u8 1] 5)) hka.out (HM_2.out.ext hEka) (hC.out.ext (Ext.trans HX2.out hEka)))
        rw [hR2.out] at hs3
        refine wpList_to rfl (.slice (some ⟨(X2.alloc (.cells #[.int .u8 (x.toNat : Int), .int .u8 1] 5)).heap.size, 0, none⟩) 1 1) ((X2.alloc (.cells #[.int .u8 (x.toNat : Int), .int .u8 1] 5)).alloc (.cells #[.slice (some ⟨g, 0, none⟩) K K] 22)) (by simp [go_sem]) ?_
        simp only [Act.put, List.setIfInBounds_toArray, List.set_cons_zero, List.set_cons_succ]
        refine wpList_call rfl (by simp [go_sem]) (hs3.out.mono ?_)
        rintro e X3 ⟨v3, rfl, hO3, hE3'⟩
        have hE3 := Ext.trans hEka hE3'
        refine ⟨_, rfl, ?_⟩
        obtain ⟨o3, c3, rfl⟩ := hO3.bv.form
        simp only [Act.put, List.setIfInBounds_toArray, List.set_cons_zero, List.set_cons_succ]
        have HB3_3 := hideit hO3.bv
        have HX3 := hideit (Ext.trans HX2.out hE3)
        have HM_3 := hideit (HM_2.out.ext hE3)
        have HB1_3 := hideit (HB1_2.out.ext hE3)
        have HB2_3 := hideit (HB2_2.out.ext hE3)
        clear hO3 hE3 hE3' hs3 hka hEka HX2 HM_2 HB1_2 HB2_2
        refine wpList_run rfl (.tuple #[.slice o3 64 c3, .int .i64 0]) (by simp [go_sem]) ?_
        simp only [Act.put, List.setIfInBounds_toArray, List.set_cons_zero, List.set_cons_succ]
        refine wpList_run rfl (.slice o3 64 c3) (by simp [go_sem]) ?_
        simp only [Act.put, List.setIfInBounds_toArray, List.set_cons_zero, List.set_cons_succ]
        refine wpList_run rfl (.int .i64 0) (by simp [go_sem]) ?_
        simp only [Act.put, List.setIfInBounds_toArray, List.set_cons_zero, List.set_cons_succ]
        refine wpList_run rfl (.slice o3 64 c3) (by simp [go_sem]) ?_
        simp only [Act.put, List.setIfInBounds_toArray, List.set_cons_zero, List.set_cons_succ]
        refine wpList_run rfl (.int .i64 0) (by simp [go_sem]) ?_
        simp only [Act.put, List.setIfInBounds_toArray, List.set_cons_zero, List.set_cons_succ]
        go_upto_region 12 with (fail)
        refine wp_region_lit ?_
        refine wpList_run rfl (.int .u8 (x.toNat : Int)) (by simp [go_sem]) ?_
        simp only [Act.put, List.setIfInBounds_toArray, List.set_cons_zero, List.set_cons_succ]
        have hEkb : Ext X3 (X3.alloc (.cells #[.int .u8 (x.toNat : Int), .int .u8 1] 5)) := (Below.refl _ _).alloc (Nat.le_refl _) _
        have hkb := hideit (key2 X3 x)
        refine wpList_to rfl (.slice (some ⟨X3.heap.size, 0, none⟩) 2 2) (X3.alloc (.cells #[.int .u8 (x.toNat : Int), .int .u8 1] 5)) (by simp [go_sem]) ?_
        simp only [Act.put, List.setIfInBounds_toArray, List.set_cons_zero, List.set_cons_succ]
        refine wpList_run rfl (.slice (some ⟨g, 0, none⟩) K K) (by simp [go_sem]) ?_
        simp only [Act.put, List.setIfInBounds_toArray, List.set_cons_zero, List.set_cons_succ]
        have hs4 := hideit (rsum_any 64 2 K (by omega) (by omega) (by omega) (.slice (some ⟨X3.heap.size, 0, none⟩) 2 2) (.slice (some ⟨g, 0, none⟩) K K) (kf2 x) (fun _ => x) (X3.alloc (.cells #[.int .u8 (x.toNat : Int), .int .u8 1] 5)) hkb.out (HM_3.out.ext hEkb) (by omega))
        rw [hR2.out] at hs4
        refine wpList_call rfl (by simp [go_sem]) (hs4.out.mono ?_)
        rintro e X4 ⟨v4, rfl, hO4, hE4'⟩
        have hE4 := Ext.trans hEkb hE4'
        refine ⟨_, rfl, ?_⟩
        obtain ⟨o4, c4, rfl⟩ := hO4.bv.form
        simp only [Act.put, List.setIfInBounds_toArray, List.set_cons_zero, List.set_cons_succ]
        have HB4_4 := hideit hO4.bv
        have HX4 := hideit (Ext.trans HX3.out hE4)
        have HM_4 := hideit (HM_3.out.ext hE4)
        have HB1_4 := hideit (HB1_3.out.ext hE4)
        have HB2_4 := hideit (HB2_3.out.ext hE4)
        have HB3_4 := hideit (HB3_3.out.ext hE4)
        clear hO4 hE4 hE4' hs4 hkb hEkb HX3 HM_3 HB1_3 HB2_3 HB3_3
        refine wpList_run rfl (.tuple #[.slice o4 64 c4, .int .i64 0]) (by simp [go_sem]) ?_
        simp only [Act.put, List.setIfInBounds_toArray, List.set_cons_zero, List.set_cons_succ]
        refine wpList_run rfl (.slice o4 64 c4) (by simp [go_sem]) ?_
        simp only [Act.put, List.setIfInBounds_toArray, List.set_cons_zero, List.set_cons_succ]
        refine wpList_run rfl (.int .i64 0) (by simp [go_sem]) ?_
        simp only [Act.put, List.setIfInBounds_toArray, List.set_cons_zero, List.set_cons_succ]
        refine wpList_run rfl (.slice o4 64 c4) (by simp [go_sem]) ?_
        simp only [Act.put, List.setIfInBounds_toArray, List.set_cons_zero, List.set_cons_succ]
        refine wpList_run rfl (.int .i64 0) (by simp [go_sem]) ?_
        simp only [Act.put, List.setIfInBounds_toArray, List.set_cons_zero, List.set_cons_succ]
        go_upto_region 13 with (fail)
        refine wp_region_lit ?_
        refine wpList_call rfl (by simp [go_sem]) ((lives_any X4 (hC.out.ext HX4.out)).mono ?_)
        rintro e X5 ⟨rfl, hE5⟩
        refine ⟨_, rfl, ?_⟩
        simp only [Act.put, List.setIfInBounds_toArray, List.set_cons_zero, List.set_cons_succ]
        have cv1 := convV _ _ _ X5 (HB1_4.out.ext hE5)
        have cv2 := convV _ _ _ X5 (HB2_4.out.ext hE5)
        have cv3 := convV _ _ _ X5 (HB3_4.out.ext hE5)
        have cv4 := convV _ _ _ X5 (HB4_4.out.ext hE5)
        have HX5 := hideit (Ext.trans HX4.out hE5)
        clear hE5 HX4 HM_4 HB1_4 HB2_4 HB3_4 HB4_4
        generalize bstr 32 (fun j => ((R1 j).toNat : Int)) = S1 at *
        generalize bstr 64 (fun j => ((R2 j).toNat : Int)) = S2 at *
        go_wp2
        go_ret
        exact ⟨rfl, HX5.out⟩
  · go_enter Tryd.func6, Tryd.ntmps6
    go_upto_region 4 with (fail)
    obtain ⟨K, hK⟩ : ∃ K : Nat, z.tmod 400 = (K : Int) := ⟨(z.tmod 400).toNat, by omega⟩
    rw [hK]
    have hK3 : (K : Int) < 400 := by omega
    have hK4 : (0 : Int) ≤ (K : Int) := by omega
    clear hK t1 t2 hneg
    obtain ⟨R1, hR1⟩ : ∃ R1, blakeF (h0F 32 0) (catF (keyF 0 kz) (keyN 0) fun _ => x) (keyN 0 + K) = R1 := ⟨_, rfl⟩
    obtain ⟨R2, hR2⟩ : ∃ R2, blakeF (h0F 64 2) (catF (keyF 2 (kf2 x)) (keyN 2) fun _ => x) (keyN 2 + K) = R2 := ⟨_, rfl⟩
    replace hR1 := hideit hR1
    replace hR2 := hideit hR2
    refine wp_region_lit ?_
    refine wpList_run rfl (.int .i64 (K : Int)) (by simp [go_sem]) ?_
    simp only [Act.put, List.setIfInBounds_toArray, List.set_cons_zero, List.set_cons_succ]
    refine wpList_made w Tryd.underlying22 (by kernel_rfl) rfl (.tmp 22) (.tmp 22) rfl K rfl rfl (by omega) ?_
    intro w1 hO1 hE1
    obtain ⟨g, hgg⟩ : ∃ g, g = w.heap.size := ⟨_, rfl⟩
    rw [← hgg] at hO1 ⊢
    have hgw : w.heap.size ≤ g := by omega
    have HO := hideit (hO1.congr (g' := yv fun j => if j < 0 then x else 0#8) fun j _ => by simp only [yv]; rw [if_neg (by omega)])
    have HE := hideit hE1
    clear hO1 hE1 hgg
    simp only [Act.put, List.setIfInBounds_toArray, List.set_cons_zero, List.set_cons_succ]
    go_wp2
    go_loopw [7] (fun i wr => ∃ q : Nat, q ≤ K ∧ i = .int .i64 (q : Int) ∧ OwnB g 5 (.slice (some ⟨g, 0, none⟩) K K) K (yv fun j => if j < q then x else 0#8) wr ∧ Ext w wr) (fun i _ => K - (intOf i).toNat)
    case atStart => exact ⟨0, by omega, rfl, HO.out, HE.out⟩
    case round =>
      clear HO HE
      obtain ⟨q, hq, rfl, hO, hE⟩ := hrel
      have HO := hideit hO
      have HE := hideit hE
      clear hO hE
      by_cases hlt : q < K
      · obtain ⟨g', cp9, hv, _, _, _, hRow⟩ := HO.out.lies (by omega)
        injection hv with q1 q2 q3
        injection q1 with q1
        injection q1 with q1
        subst q1
        have e1 := hRow.1 q hlt
        have g1 := hRow.2.1 q hlt
        clear hRow q2 q3
        have q0 : (0 : Int) ≤ (q : Int) := by omega
        have q1 : (q : Int) < (K : Int) := by omega
        go_wp2
        refine ⟨⟨q + 1, by omega, by go_num, (HO.out.set (b := g) rfl q hlt (yv (fun _ => x) q)).congr fun j _ => ?_, HE.out.setCell (by show w.heap.size ≤ g; omega) _⟩, by simp [intOf]; omega⟩
        simp only [yv]
        by_cases e : j = q
        · subst e; rw [if_pos rfl, if_pos (by omega)]
        · rw [if_neg e]
          by_cases h : j < q
          · rw [if_pos h, if_pos (by omega)]
          · rw [if_neg h, if_neg (by omega)]
      · have q1 : ¬ (q : Int) < (K : Int) := by omega
        have HM := hideit ((HO.out.congr (g' := yv fun _ => x) fun j hj => by simp only [yv]; rw [if_pos (by omega)]).bv)
        clear HO
        have HM_0 := HM
        have HX0 := HE
        clear HM HE
        go_upto_region 9 with (fail)
        refine wp_region_lit ?_
        refine wpList_run rfl (.slice (some ⟨g, 0, none⟩) K K) (by simp [go_sem]) ?_
        simp only [Act.put, List.setIfInBounds_toArray, List.set_cons_zero, List.set_cons_succ]
        have hs1 := hideit (bsum_one 32 0 K (by omega) (by omega) (by omega) (.slice none 0 0) (.slice (some ⟨g, 0, none⟩) K K) kz (fun _ => x) wr (.inl ⟨rfl, rfl⟩) HM_0.out (hC.out.ext HX0.out))
        rw [hR1.out] at hs1
        refine wpList_to rfl (.slice (some ⟨wr.heap.size, 0, none⟩) 1 1) (wr.alloc (.cells #[.slice (some ⟨g, 0, none⟩) K K] 22)) (by simp [go_sem]) ?_
        simp only [Act.put, List.setIfInBounds_toArray, List.set_cons_zero, List.set_cons_succ]
        refine wpList_call rfl (by simp [go_sem]) (hs1.out.mono ?_)
        rintro e X1 ⟨v1, rfl, hO1, hE1⟩
        refine ⟨_, rfl, ?_⟩
        obtain ⟨o1, c1, rfl⟩ := hO1.bv.form
        simp only [Act.put, List.setIfInBounds_toArray, List.set_cons_zero, List.set_cons_succ]
        have HB1_1 := hideit hO1.bv
        have HX1 := hideit (Ext.trans HX0.out hE1)
        have HM_1 := hideit (HM_0.out.ext hE1)
        clear hO1 hE1 hs1 HX0 HM_0
        refine wpList_run rfl (.tuple #[.slice o1 32 c1, .int .i64 0]) (by simp [go_sem]) ?_
        simp only [Act.put, List.setIfInBounds_toArray, List.set_cons_zero, List.set_cons_succ]
        refine wpList_run rfl (.slice o1 32 c1) (by simp [go_sem]) ?_
        simp only [Act.put, List.setIfInBounds_toArray, List.set_cons_zero, List.set_cons_succ]
        refine wpList_run rfl (.int .i64 0) (by simp [go_sem]) ?_
        simp only [Act.put, List.setIfInBounds_toArray, List.set_cons_zero, List.set_cons_succ]
        refine wpList_run rfl (.slice o1 32 c1) (by simp [go_sem]) ?_
        simp only [Act.put, List.setIfInBounds_toArray, List.set_cons_zero, List.set_cons_succ]
        refine wpList_run rfl (.int .i64 0) (by simp [go_sem]) ?_
        simp only [Act.put, List.setIfInBounds_toArray, List.set_cons_zero, List.set_cons_succ]
        go_upto_region 10 with (fail)
        refine wp_region_lit ?_
        refine wpList_run rfl (.slice (some ⟨g, 0, none⟩) K K) (by simp [go_sem]) ?_
        simp only [Act.put, List.setIfInBounds_toArray, List.set_cons_zero, List.set_cons_succ]
        have hs2 := hideit (rsum_any 32 0 K (by omega) (by omega) (by omega) (.slice none 0 0) (.slice (some ⟨g, 0, none⟩) K K) kz (fun _ => x) X1 (.inl ⟨rfl, rfl⟩) HM_1.out (by omega))
        rw [hR1.out] at hs2
        refine wpList_call rfl (by simp [go_sem]) (hs2.out.mono ?_)
        rintro e X2 ⟨v2, rfl, hO2, hE2⟩
        refine ⟨_, rfl, ?_⟩
        obtain ⟨o2, c2, rfl⟩ := hO2.bv.form
        simp only [Act.put, List.setIfInBounds_toArray, List.set_cons_zero, List.set_cons_succ]
        have HB2_2 := hideit hO2.bv
        have HX2 := hideit (Ext.trans HX1.out hE2)
        have HM_2 := hideit (HM_1.out.ext hE2)
        have HB1_2 := hideit (HB1_1.out.ext hE2)
        clear hO2 hE2 hs2 HX1 HM_1 HB1_1
        refine wpList_run rfl (.tuple #[.slice o2 32 c2, .int .i64 0]) (by simp [go_sem]) ?_
        simp only [Act.put, List.setIfInBounds_toArray, List.set_cons_zero, List.set_cons_succ]
        refine wpList_run rfl (.slice o2 32 c2) (by simp [go_sem]) ?_
        simp only [Act.put, List.setIfInBounds_toArray, List.set_cons_zero, List.set_cons_succ]
        refine wpList_run rfl (.int .i64 0) (by simp [go_sem]) ?_
        simp only [Act.put, List.setIfInBounds_toArray, List.set_cons_zero, List.set_cons_succ]
        refine wpList_run rfl (.slice o2 32 c2) (by simp [go_sem]) ?_
        simp only [Act.put, List.setIfInBounds_toArray, List.set_cons_zero, List.set_cons_succ]
        refine wpList_run rfl (.int .i64 0) (by simp [go_sem]) ?_
        simp only [Act.put, List.setIfInBounds_toArray, List.set_cons_zero, List.set_cons_succ]
        go_upto_region 11 with (fail)
        refine wp_region_lit ?_
        refine wpList_run rfl (.int .u8 (x.toNat : Int)) (by simp [go_sem]) ?_
        simp only [Act.put, List.setIfInBounds_toArray, List.set_cons_zero, List.set_cons_succ]
        have hEka : Ext X2 (X2.alloc (.cells #[.int .u8 (x.toNat : Int), .int .u8 1] 5)) := (Below.refl _ _).alloc (Nat.le_refl _) _
        have hka := hideit (key2 X2 x)
        refine wpList_to rfl (.slice (some ⟨X2.heap.size, 0, none⟩) 2 2) (X2.alloc (.cells #[.int .u8 (x.toNat : Int), .int .u8 1] 5)) (by simp [go_sem]) ?_
        simp only [Act.put, List.setIfInBounds_toArray, List.set_cons_zero, List.set_cons_succ]
        refine wpList_run rfl (.slice (some ⟨g, 0, none⟩) K K) (by simp [go_sem]) ?_
        simp only [Act.put, List.setIfInBounds_toArray, List.set_cons_zero, List.set_cons_succ]
        have hs3 := hideit (bsum_one 64 2 K (by omega) (by omega) (by omega) (.slice (some ⟨X2.heap.size, 0, none⟩) 2 2) (.slice (some ⟨g, 0, none⟩) K K) (kf2 x) (fun _ => x) (X2.alloc (.cells #[.int .u8 (x.toNat : Int), .int .u8 1] 5)) hka.out (HM_2.out.ext hEka) (hC.out.ext (Ext.trans HX2.out hEka)))
        rw [hR2.out] at hs3
        refine wpList_to rfl (.slice (some ⟨(X2.alloc (.cells #[.int .u8 (x.toNat : Int), .int .u8 1] 5)).heap.size, 0, none⟩) 1 1) ((X2.alloc (.cells #[.int .u8 (x.toNat : Int), .int .u8 1] 5)).alloc (.cells #[.slice (some ⟨g, 0, none⟩) K K] 22)) (by simp [go_sem]) ?_
        simp only [Act.put, List.setIfInBounds_toArray, List.set_cons_zero, List.set_cons_succ]
        refine wpList_call rfl (by simp [go_sem]) (hs3.out.mono ?_)
        rintro e X3 ⟨v3, rfl, hO3, hE3'⟩
        have hE3 := Ext.trans hEka hE3'
        refine ⟨_, rfl, ?_⟩
        obtain ⟨o3, c3, rfl⟩ := hO3.bv.form
        simp only [Act.put, List.setIfInBounds_toArray, List.set_cons_zero, List.set_cons_succ]
        have HB3_3 := hideit hO3.bv
        have HX3 := hideit (Ext.trans HX2.out hE3)
        have HM_3 := hideit (HM_2.out.ext hE3)
        have HB1_3 := hideit (HB1_2.out.ext hE3)
        have HB2_3 := hideit (HB2_2.out.ext hE3)
        clear hO3 hE3 hE3' hs3 hka hEka HX2 HM_2 HB1_2 HB2_2
        refine wpList_run rfl (.tuple #[.slice o3 64 c3, .int .i64 0]) (by simp [go_sem]) ?_
        simp only [Act.put, List.setIfInBounds_toArray, List.set_cons_zero, List.set_cons_succ]
        refine wpList_run rfl (.slice o3 64 c3) (by simp [go_sem]) ?_
        simp only [Act.put, List.setIfInBounds_toArray, List.set_cons_zero, List.set_cons_succ]
        refine wpList_run rfl (.int .i64 0) (by simp [go_sem]) ?_
        simp only [Act.put, List.setIfInBounds_toArray, List.set_cons_zero, List.set_cons_succ]
        refine wpList_run rfl (.slice o3 64 c3) (by simp [go_sem]) ?_
        simp only [Act.put, List.setIfInBounds_toArray, List.set_cons_zero, List.set_cons_succ]
        refine wpList_run rfl (.int .i64 0) (by simp [go_sem]) ?_
        simp only [Act.put, List.setIfInBounds_toArray, List.set_cons_zero, List.set_cons_succ]
        go_upto_region 12 with (fail)
        refine wp_region_lit ?_
        refine wpList_run rfl (.int .u8 (x.toNat : Int)) (by simp [go_sem]) ?_
        simp only [Act.put, List.setIfInBounds_toArray, List.set_cons_zero, List.set_cons_succ]
        have hEkb : Ext X3 (X3.alloc (.cells #[.int .u8 (x.toNat : Int), .int .u8 1] 5)) := (Below.refl _ _).alloc (Nat.le_refl _) _
        have hkb := hideit (key2 X3 x)
        refine wpList_to rfl (.slice (some ⟨X3.heap.size, 0, none⟩) 2 2) (X3.alloc (.cells #[.int .u8 (x.toNat : Int), .int .u8 1] 5)) (by simp [go_sem]) ?_
        simp only [Act.put, List.setIfInBounds_toArray, List.set_cons_zero, List.set_cons_succ]
        refine wpList_run rfl (.slice (some ⟨g, 0, none⟩) K K) (by simp [go_sem]) ?_
        simp only [Act.put, List.setIfInBounds_toArray, List.set_cons_zero, List.set_cons_succ]
        have hs4 := hideit (rsum_any 64 2 K (by omega) (by omega) (by omega) (.slice (some ⟨X3.heap.size, 0, none⟩) 2 2) (.slice (some ⟨g, 0, none⟩) K K) (kf2 x) (fun _ => x) (X3.alloc (.cells #[.int .u8 (x.toNat : Int), .int .u8 1] 5)) hkb.out (HM_3.out.ext hEkb) (by omega))
        rw [hR2.out] at hs4
        refine wpList_call rfl (by simp [go_sem]) (hs4.out.mono ?_)
        rintro e X4 ⟨v4, rfl, hO4, hE4'⟩
        have hE4 := Ext.trans hEkb hE4'
        refine ⟨_, rfl, ?_⟩
        obtain ⟨o4, c4, rfl⟩ := hO4.bv.form
        simp only [Act.put, List.setIfInBounds_toArray, List.set_cons_zero, List.set_cons_succ]
        have HB4_4 := hideit hO4.bv
        have HX4 := hideit (Ext.trans HX3.out hE4)
        have HM_4 := hideit (HM_3.out.ext hE4)
        have HB1_4 := hideit (HB1_3.out.ext hE4)
        have HB2_4 := hideit (HB2_3.out.ext hE4)
        have HB3_4 := hideit (HB3_3.out.ext hE4)
        clear hO4 hE4 hE4' hs4 hkb hEkb HX3 HM_3 HB1_3 HB2_3 HB3_3
        refine wpList_run rfl (.tuple #[.slice o4 64 c4, .int .i64 0]) (by simp [go_sem]) ?_
        simp only [Act.put, List.setIfInBounds_toArray, List.set_cons_zero, List.set_cons_succ]
        refine wpList_run rfl (.slice o4 64 c4) (by simp [go_sem]) ?_
        simp only [Act.put, List.setIfInBounds_toArray, List.set_cons_zero, List.set_cons_succ]
        refine wpList_run rfl (.int .i64 0) (by simp [go_sem]) ?_
        simp only [Act.put, List.setIfInBounds_toArray, List.set_cons_zero, List.set_cons_succ]
        refine wpList_run rfl (.slice o4 64 c4) (by simp [go_sem]) ?_
        simp only [Act.put, List.setIfInBounds_toArray, List.set_cons_zero, List.set_cons_succ]
        refine wpList_run rfl (.int .i64 0) (by simp [go_sem]) ?_
        simp only [Act.put, List.setIfInBounds_toArray, List.set_cons_zero, List.set_cons_succ]
        go_upto_region 13 with (fail)
        refine wp_region_lit ?_
        refine wpList_call rfl (by simp [go_sem]) ((lives_any X4 (hC.out.ext HX4.out)).mono ?_)
        rintro e X5 ⟨rfl, hE5⟩
        refine ⟨_, rfl, ?_⟩
        simp only [Act.put, List.setIfInBounds_toArray, List.set_cons_zero, List.set_cons_succ]
        have cv1 := convV _ _ _ X5 (HB1_4.out.ext hE5)
        have cv2 := convV _ _ _ X5 (HB2_4.out.ext hE5)
        have cv3 := convV _ _ _ X5 (HB3_4.out.ext hE5)
        have cv4 := convV _ _ _ X5 (HB4_4.out.ext hE5)
        have HX5 := hideit (Ext.trans HX4.out hE5)
        clear hE5 HX4 HM_4 HB1_4 HB2_4 HB3_4 HB4_4
        generalize bstr 32 (fun j => ((R1 j).toNat : Int)) = S1 at *
        generalize bstr 64 (fun j => ((R2 j).toNat : Int)) = S2 at *
        go_wp2
        go_ret
        exact ⟨rfl, HX5.out⟩

theorem contract (H : Type) (enc : TypeId × Value → H) (W : World) (base : Nat) (args : Array Value) (ds gs : List (DataW H)) (before : List MemPlace)
    (hval0 : ∀ (j : Nat) t v, Tryd.f6.params[j]? = some t → args[j]? = some v → Value.okWide Tryd.prog W .any base t v)
    (hW : DataW.Whole enc Tryd.prog Tryd.f6.params.toList Rows.blakeLengthsSpec.vars false W args.toList ds gs before) (hL : laidMetH Tryd.prog Rows.blakeLengthsRow.laid W) :
    Calls Tryd.prog 6 args W fun e W' => ∃ v, e = .returned v ∧ Rows.blakeLengthsSpec.post enc Tryd.prog Tryd.f6 false true false false W args v W' := by
  have hval := hval0
  have hW' := hW
  obtain ⟨p, q, hA0, hV, rfl, hfz, hnd⟩ := hW
  have hA : DataW.TrodAll enc Tryd.prog W 0 (fun _ => true) true Tryd.f6.params.toList args.toList ds p := hA0
  rw [Tryd.params6] at hA hval
  obtain ⟨v0, vs0, d0, ds0, p0, q0, hargs, rfl, rfl, h0, r0⟩ := trodAll_cons hA
  obtain ⟨v1, vs1, d1, ds1, p1, q1, rfl, rfl, rfl, h1, r1⟩ := trodAll_cons r0
  obtain ⟨rfl, rfl, rfl⟩ := trodAll_nil r1
  obtain rfl : args = #[v0, v1] := by cases args; simp_all
  obtain ⟨rfl, rfl⟩ := trodVars_none hV
  have h0s : 0 < W.heap.size := by
    have hc := tab_places hL 0 (by decide)
    rcases Nat.lt_or_ge 0 W.heap.size with h | h
    · exact h
    · exfalso
      have : W.heap[0]? = none := Array.getElem?_eq_none h
      simp [World.cell?, this] at hc
  have hC : TabC W := tabC hL h0s
  have k0 := h0
  have lt0 : ∀ x ∈ p0, x.block < W.heap.size := by obtain ⟨m, hm⟩ := k0; exact DataW.trod_lt m _ _ _ hm
  have k1 := h1
  have lt1 : ∀ x ∈ p1, x.block < W.heap.size := by obtain ⟨m, hm⟩ := k1; exact DataW.trod_lt m _ _ _ hm
  obtain ⟨a0, rfl, rfl, rfl, w0⟩ := open_int Tryd.underlying3 (hval 0 3 v0 rfl rfl) h0
  obtain ⟨n1, rfl, rfl, rfl, w1⟩ := open_int Tryd.underlying5 (hval 1 5 v1 rfl rfl) h1
  obtain ⟨a1, rfl⟩ := of_wf8 w1
  clear hA0 hval0
  refine (walk a0 w0 a1 W  hC).mono fun e W' ⟨he, bel⟩ => ?_
  subst he
  exact ⟨_, rfl, _, _, _, [], _, [], hW', trodAll_mk1 (shut_bool Tryd.underlying4 _), (trodAll_cons_mk (Below.trod laidOut (by kernel_rfl) (of_decide_eq_true (by kernel_rfl)) k0 bel lt0) (trodAll_cons_mk (Below.trod laidOut (by kernel_rfl) (of_decide_eq_true (by kernel_rfl)) k1 bel lt1) trodAll_mk0)), rfl, bel.frame _, fun h => by cases h⟩

def wit : Array Value := #[.int .i64 0, .int .u8 0]
def dat {H : Type} : List (DataW H) := [.lit (.int .i64 0), .lit (.int .u8 0)]
def setTab : Obj → Obj
  | .cells _ t frozen => .cells (row 32 (iv plF)).toArray t frozen
  | o => o
theorem laid_met (os : Os) : laidMet Tryd.prog Rows.blakeLengthsRow.laid (({ World.holding Tryd.prog os ⟨#[], #[], []⟩ with heap := (World.holding Tryd.prog os ⟨#[], #[], []⟩).heap.modify 0 setTab } : World).forCall (fun _ _ => 0) ⟨#[], wit, []⟩).memory :=
  laidMet_of_run' 8 (by kernel_rfl) (by kernel_rfl)
theorem reads (os : Os) {H : Type} (enc : TypeId × Value → H) : ∃ places, DataW.whole enc Tryd.prog (({ World.holding Tryd.prog os ⟨#[], #[], []⟩ with heap := (World.holding Tryd.prog os ⟨#[], #[], []⟩).heap.modify 0 setTab } : World).forCall (fun _ _ => 0) ⟨#[], wit, []⟩).memory Tryd.f6.params.toList Rows.blakeLengthsSpec.vars false wit.toList 8 = some (dat, [], places) :=
  ⟨[], by kernel_rfl⟩

set_option maxRecDepth 100000 in
theorem lifted (os : Os) (started : os.Started) (H : Type) (enc : TypeId × Value → H) (F : Stop.Interp) :
    ReturnsInHanded {} Tryd.checked os 6 .any ((OpenSpec.ofChange Rows.blakeLengthsSpec).preRow enc Tryd.prog Tryd.f6 Rows.blakeLengthsRow.domain false Rows.blakeLengthsRow.laid) (((OpenSpec.ofChange Rows.blakeLengthsSpec).at F).post enc Tryd.prog Tryd.f6 false true false false) := by
  obtain ⟨places, hx⟩ := reads os enc
  refine returnsInHanded_of_row (C := Tryd.checked) (s := (OpenSpec.ofChange Rows.blakeLengthsSpec)) own started (by kernel_rfl) Tryd.func6
    (witness_row_at (enc := enc) (C := Tryd.checked) false ({ World.holding Tryd.prog os ⟨#[], #[], []⟩ with heap := (World.holding Tryd.prog os ⟨#[], #[], []⟩).heap.modify 0 setTab } : World) wit rfl (by kernel_rfl) (by kernel_rfl) (by kernel_rfl)
      (OpenSpec.preRow_of_cond 8 hx (by kernel_rfl) (fun k hk => by cases hk) (by kernel_rfl) (laid_met os))) ?_
  intro W base args ds gs before hval hW _ hcond hsz hL _ _
  exact contract H enc W base args ds gs before hval hW hL

theorem said : Rows.BlakeLengthsSaid :=
  OpenClaim.holds_of_cond 6 Tryd.f6 rfl rfl rfl rfl rfl rfl rfl ⟨rfl, rfl, rfl, rfl, rfl⟩ rfl rfl rfl rfl rfl (by kernel_rfl) Tryd.func6 (by kernel_rfl)
    (of_decide_eq_true (by kernel_rfl)) (by unfold Func.isWrapper; first | (rw [if_pos (by decide +kernel)]; kernel_rfl) | (rw [if_neg (by decide +kernel)]; exact ⟨rfl, rfl⟩))
    (fun os started H enc _ F => by rw [OpenClaim.pre_eq_preRow]; exact lifted os started H enc F)

theorem plain (f : FuncId) (fn : Func) (hf : Tryd.pinned.checked.prog.funcNamed "casket/casketlaw06.BlakeLengths" = some f) (hfn : Tryd.pinned.checked.prog.funcs[f]? = some fn) :
    false = Tryd.pinned.checked.prog.looks [] ∧ ∀ (j : Nat) t, fn.params[j]? = some t → Tryd.pinned.checked.prog.wantsStandIn t = false := by
  obtain rfl : f = 6 := Option.some.inj ((show Tryd.prog.funcNamed "casket/casketlaw06.BlakeLengths" = some 6 by kernel_rfl).symm.trans hf) |>.symm
  obtain rfl : fn = Tryd.f6 := (Option.some.inj (Tryd.func6.symm.trans hfn)).symm
  refine ⟨by kernel_rfl, fun j t ht => ?_⟩
  rw [Tryd.params6] at ht
  have hm : t ∈ [3, 5] := by simpa using Array.mem_of_getElem? ht
  have hall : ([3, 5].all fun u => !Tryd.prog.wantsStandIn u) = true := by kernel_rfl
  exact (show Tryd.prog.wantsStandIn t = false by simpa using List.all_eq_true.1 hall t hm)

theorem card : Rows.BlakeLengthsCardSaid :=
  Claim7.holds_tied_plain_at .later [] _ _ _ _ said (fun _ h => by cases h) (by kernel_rfl) (fun _ h => by cases h) blakeLengths_row_tie rfl ⟨rfl, rfl⟩ (by kernel_rfl) rfl plain (by kernel_rfl)
end Go.Proofs.YtbnbjhainkjknaaDoor.blakeLengths
namespace Go.Proofs.YtbnbjhainkjknaaDoor
theorem blakeLengths_holds : Rows.BlakeLengthsCardSaid := blakeLengths.card
end Go.Proofs.YtbnbjhainkjknaaDoor
