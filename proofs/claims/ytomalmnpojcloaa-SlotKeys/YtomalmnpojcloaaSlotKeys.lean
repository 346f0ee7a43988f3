/-
  For any keys the law SlotKeys returns true, and its argument reads behind the call as it read before.
-/
import Derived.Test.YtomalmnpojcloaaRows
import Derived.ProofKit
import Derived.OpenShut
import Derived.ShutString
import Derived.ChangeOld
import Derived.Below
import Derived.SizedLaws
import Derived.Test.YtomalmnpojcloaaSk
import Derived.Test.YtomalmnpojcloaaLad
namespace Go.Proofs.Ytomalmnpojcloaa.slotKeys
open Go.ChangeShapes Go.WideShapes Go.ChangeAt Go.RowKit
set_option linter.unusedVariables false

theorem own : ownKnob Try.prog.godebug = none := by kernel_rfl
theorem laidOut : laidOutB Try.prog = true := by kernel_rfl

open Go.BigFrame
/-- a block of keys just made -/
def Mk37 (s : Nat) (w : World) : Prop := RowAt s 33 (kyv (.slice none 0 0) zF) w ∧ w.heap[s]? = some (.cells zk37 37 (0, 0))
theorem Mk37.ext {s : Nat} {w X : World} (h : Mk37 s w) (k : Ext w X) : Mk37 s X := ⟨h.1.carry k, (Below.block k s h.1.2.2).trans h.2⟩
theorem heap_mk (w : World) : Mk37 w.heap.size (w.alloc (.cells zk37 37)) := ⟨(made37' w).1, heap37 w⟩
set_option maxRecDepth 20000 in
set_option maxHeartbeats 8000000 in
theorem walk (v : Value) (w : World) (hk : KArgZ v w) : Calls Try.prog 5 #[v] w fun e w' => e = .returned (.bool true) ∧ Below w.heap.size w w' := by
  obtain ⟨u, n, xs, fs, t, rfl, hV, hin, hz⟩ := hk
  obtain ⟨ka, kc, rfl⟩ := hV.form
  obtain ⟨K1, hE1⟩ := kboxed (.slice ka n kc) t w
  have U1 := hideit (hV.ext hE1)
  replace K1 := hideit K1
  replace hE1 := hideit hE1
  replace hin := hideit hin
  clear hV
  go_enter Try.func5, Try.ntmps5
  go_upto_region 1 with (fail)
  generalize w.alloc (.cells (row 33 (kyv (.slice ka n kc) t)).toArray 37) = w1 at *
  obtain ⟨p, hp⟩ : ∃ p, p = w.heap.size := ⟨_, rfl⟩
  rw [← hp] at K1 ⊢
  clear hp
  have hS : Ext w1 w1.drew := (Ext.refl w1).draw
  refine wp_region_held (S := fun X => Ext w1 X) (by kernel_rfl) ?_
  show wpAnyH _ _ _ _ _ 9 _ _ w1.drew
  refine wpAnyH_take (i := 1) (v := .pointer (some ⟨p, 0, none⟩)) rfl (by kernel_rfl) (by kernel_rfl) (by kernel_rfl) (fun _ _ _ h => h) (.inl ⟨rfl, fun X hX => by simp [go_sem]⟩) hS ?_
  simp only [List.getElem_toArray, List.getElem_cons_zero, List.getElem_cons_succ, Act.put, List.setIfInBounds_toArray, List.set_cons_zero, List.set_cons_succ]
  refine wpAnyH_take (i := 2) (v := .slice ka n kc) rfl (by kernel_rfl) (by kernel_rfl) (by kernel_rfl) (fun _ _ _ h => h) (.inl ⟨rfl, fun X hX => by simp [go_sem, show X.cell? ⟨p, 0, none⟩ = some (.slice ka n kc) from (K1.out.carry hX).1 0 (by decide)]⟩) hS ?_
  simp only [List.getElem_toArray, List.getElem_cons_zero, List.getElem_cons_succ, Act.put, List.setIfInBounds_toArray, List.set_cons_zero, List.set_cons_succ]
  refine wpAnyH_take (i := 4) (v := .pointer (some ⟨p, 1, none⟩)) rfl (by kernel_rfl) (by kernel_rfl) (by kernel_rfl) (fun _ _ _ h => h) (.inl ⟨rfl, fun X hX => by simp [go_sem]⟩) hS ?_
  simp only [List.getElem_toArray, List.getElem_cons_zero, List.getElem_cons_succ, Act.put, List.setIfInBounds_toArray, List.set_cons_zero, List.set_cons_succ]
  refine wpAnyH_take (i := 5) (v := .agg (row 32 (yv t)).toArray) rfl (by kernel_rfl) (by kernel_rfl) (by kernel_rfl) (fun _ _ _ h => h) (.inl ⟨rfl, fun X hX => exec_loadR 23 (.tmp 17) rfl p 1 32 (yv t) rfl (ky_range (K1.out.carry hX)) Try.underlying23 rfl info23⟩) hS ?_
  simp only [List.getElem_toArray, List.getElem_cons_zero, List.getElem_cons_succ, Act.put, List.setIfInBounds_toArray, List.set_cons_zero, List.set_cons_succ]
  have hS2 := hS
  have U2 := hideit (U1.out.ext hS)
  have K2 := hideit (K1.out.carry hS)
  have hE2 := hideit (Ext.trans hE1.out hS)
  clear hS
  generalize w1.drew = W2 at *
  refine wpAnyH_all (rs := [0, 7]) (by kernel_rfl) (by decide) ?_
  intro i hi
  rcases (by simpa using hi : i = 0 ∨ i = 7) with rfl | rfl
  · have hX : Ext W2 (W2.alloc (.cells #[] 51)) := (Below.refl _ _).alloc (Nat.le_refl _) _
    refine wpOp_to rfl rfl (.slice (some ⟨W2.heap.size, 0, none⟩) 0 0) (W2.alloc (.cells #[] 51)) (by simp [go_sem]) ⟨Ext.trans hS2 hX, ?_⟩
    simp only [List.getElem_toArray, List.getElem_cons_zero, Act.put, List.setIfInBounds_toArray, List.set_cons_zero, List.set_cons_succ]
    obtain ⟨h0, hh0⟩ : ∃ h0, h0 = W2.heap.size := ⟨_, rfl⟩
    rw [← hh0]
    clear hh0
    have U3 := hideit (U2.out.ext hX)
    have K3 := hideit (K2.out.carry hX)
    have hE3 := hideit (Ext.trans hE2.out hX)
    have hS3 := Ext.trans hS2 hX
    clear hX U2 K2 hE2 hS2
    generalize W2.alloc (.cells #[] 51) = W3 at *
    refine wpAnyH_all (rs := [3, 7]) (by kernel_rfl) (by decide) ?_
    intro i hi
    rcases (by simpa using hi : i = 3 ∨ i = 7) with rfl | rfl
    · obtain ⟨u3, X3, hr3, ⟨la, lc, rfl⟩, hV3, hX⟩ := kapp h0 (.slice ka n kc) n xs fs 35 W3 U3.out hz
      refine wpOp_to rfl rfl (.slice la n lc) X3 (exec_append (.tmp 13) (.tmp 15) 35 35 rfl _ _ _ rfl rfl hr3) ⟨Ext.trans hS3 hX, ?_⟩
      simp only [List.getElem_toArray, List.getElem_cons_zero, List.getElem_cons_succ, Act.put, List.setIfInBounds_toArray, List.set_cons_zero, List.set_cons_succ]
      have V4 := hideit hV3
      clear hV3 hr3
      have U4 := hideit (U3.out.ext hX)
      have K4 := hideit (K3.out.carry hX)
      have hE4 := hideit (Ext.trans hE3.out hX)
      have hS4 := Ext.trans hS3 hX
      clear hX U3 K3 hE3 hS3
      refine wpAnyH_take (i := 6) (v := .agg (row 33 (kyv (.slice la n lc) t)).toArray) rfl (by kernel_rfl) (by kernel_rfl) (by kernel_rfl) (fun _ _ _ h => h) (.inl ⟨rfl, fun X hX => exec_build 37 [(0, .tmp 16), (1, .tmp 18)] rfl _ (bl37 _ _ _ _ _)⟩) hS4 ?_
      simp only [List.getElem_toArray, List.getElem_cons_zero, List.getElem_cons_succ, Act.put, List.setIfInBounds_toArray, List.set_cons_zero, List.set_cons_succ]
      refine wpAnyH_all (rs := [7]) (by kernel_rfl) (by decide) ?_
      intro i hi
      obtain rfl : i = 7 := by simpa using hi
      have hX : Ext X3 (X3.alloc (.cells zk37 37)) := (Below.refl _ _).alloc (Nat.le_refl _) _
      have M5 := hideit (heap_mk X3)
      refine wpOp_to rfl rfl (.pointer (some ⟨X3.heap.size, 0, none⟩)) (X3.alloc (.cells zk37 37)) (alloc37 rfl) ⟨Ext.trans hS4 hX, ?_⟩
      simp only [List.getElem_toArray, List.getElem_cons_zero, List.getElem_cons_succ, Act.put, List.setIfInBounds_toArray, List.set_cons_zero, List.set_cons_succ]
      obtain ⟨s, hs⟩ : ∃ s, s = X3.heap.size := ⟨_, rfl⟩
      have hsw : Hid (w1.heap.size ≤ s) := hideit (by rw [hs]; exact Below.size hS4)
      rw [← hs] at M5 ⊢
      clear hs
      have U5 := hideit (U4.out.ext hX)
      have K5 := hideit (K4.out.carry hX)
      have hE5 := hideit (Ext.trans hE4.out hX)
      have hS5 := Ext.trans hS4 hX
      have V5 := hideit (V4.out.ext hX)
      clear V4
      clear hX U4 K4 hE4 hS4
      generalize X3.alloc (.cells zk37 37) = W5 at *
      refine wpAnyH_all (rs := [8]) (by kernel_rfl) (by decide) ?_
      intro i hi
      obtain rfl : i = 8 := by simpa using hi
      obtain ⟨m1, m2⟩ := M5.out
      refine wpOp_st rfl rfl (W5.setCells s 0 (row 33 (kyv (.slice la n lc) t))) (exec_store 37 (.tmp 3) (.tmp 19) rfl s 33 _ (kyv (.slice la n lc) t) rfl rfl m1 info37 (kyv_one _ _ _ _)) ⟨below_setCells _ hsw.out _ _ _ hS5, ?_⟩
      simp only [List.getElem_toArray, List.getElem_cons_zero, List.getElem_cons_succ, Act.put]
      have SS := hideit (RowAt.cells (g' := kyv (.slice la n lc) t) m1)
      have VV := hideit (EV.set37 V5.out m2 (row 33 (kyv (.slice la n lc) t)))
      have hSS : Hid (Ext w1 (W5.setCells s 0 (row 33 (kyv (.slice la n lc) t)))) := hideit (below_setCells _ hsw.out _ _ _ hS5)
      have S9 := SS
      have V9 := VV
      have K9 := hideit (K1.out.carry hSS.out)
      have U9 := hideit (U1.out.ext hSS.out)
      have hE9 := hideit (Ext.trans hE1.out hSS.out)
      clear m1 m2 M5 V5 K5 U5 hE5 hS5 SS VV hSS
      generalize W5.setCells s 0 (row 33 (kyv (.slice la n lc) t)) = w9 at *
      refine ⟨by kernel_rfl, ?_⟩
      clear K1 U1 hE1
      go_upto_region 2 with (fail)
      refine wp_region_lit ?_
      refine wpList_load_mid rfl 37 (.tmp 3) rfl s 0 rfl (row 33 (kyv (.slice la n lc) t)) _ S9.out.range Try.underlying37 rfl (by rw [row_length]; exact info37) ?_
      simp only [Act.put, List.setIfInBounds_toArray, List.set_cons_zero, List.set_cons_succ]
      by_cases hb : okE n xs
      · refine wpList_call rfl (by simp [go_sem]; exact ⟨rfl, rfl⟩) ?_
        refine (keys_ok _ n xs fs t w9 V9.out hin.out hb).mono ?_
        rintro e wa ⟨x, rfl, hg, hR, hX⟩
        refine ⟨_, rfl, ?_⟩
        simp only [Act.put, List.setIfInBounds_toArray, List.set_cons_zero, List.set_cons_succ]
        have XA : Hid (BV (.slice (some ⟨x, 0, none⟩) 512 512) 512 (keB n xs fs t) wa) := hideit (.inr ⟨_, _, rfl, Nat.le_refl _, hR.lie 512 (Nat.le_refl _)⟩)
        clear hg hR
        have SA := hideit (S9.out.carry hX)
        have KA := hideit (K9.out.carry hX)
        have VA := hideit (V9.out.ext hX)
        have UA := hideit (U9.out.ext hX)
        have hEA := hideit (Ext.trans hE9.out hX)
        clear hX hE9 S9 K9 V9 U9
        go_upto_region 3 with (fail)
        refine wp_region_lit ?_
        refine wpList_load_mid rfl 37 (.tmp 1) rfl p 0 rfl (row 33 (kyv (.slice ka n kc) t)) _ KA.out.range Try.underlying37 rfl (by rw [row_length]; exact info37) ?_
        simp only [Act.put, List.setIfInBounds_toArray, List.set_cons_zero, List.set_cons_succ]
        refine wpList_call rfl (by simp [go_sem]; exact ⟨rfl, rfl⟩) ?_
        refine (rkeys_ok _ n xs fs t wa UA.out hin.out hb).mono ?_
        rintro e wb ⟨y, rfl, hY, hX⟩
        refine ⟨_, rfl, ?_⟩
        simp only [Act.put, List.setIfInBounds_toArray, List.set_cons_zero, List.set_cons_succ]
        obtain ⟨ya, yc, rfl⟩ := hY.form
        have YB := hideit hY
        clear hY
        have SB := hideit (SA.out.carry hX)
        have KB := hideit (KA.out.carry hX)
        have VB := hideit (VA.out.ext hX)
        have UB := hideit (UA.out.ext hX)
        have XB := hideit (XA.out.ext hX)
        have hEB := hideit (Ext.trans hEA.out hX)
        clear hX hEA SA KA VA UA XA
        go_upto_region 4 with (fail)
        refine wp_region_lit ?_
        refine wpList_load_mid rfl 37 (.tmp 3) rfl s 0 rfl (row 33 (kyv (.slice la n lc) t)) _ SB.out.range Try.underlying37 rfl (by rw [row_length]; exact info37) ?_
        simp only [Act.put, List.setIfInBounds_toArray, List.set_cons_zero, List.set_cons_succ]
        refine wpList_call rfl (by simp [go_sem]; exact ⟨rfl, rfl⟩) ?_
        refine (seal_ok _ n xs fs t wb VB.out hin.out hb).mono ?_
        rintro e wc ⟨c9, rfl, hg, hR, hX⟩
        refine ⟨_, rfl, ?_⟩
        simp only [Act.put, List.setIfInBounds_toArray, List.set_cons_zero, List.set_cons_succ]
        have CC : Hid (BV (.slice (some ⟨c9, 0, none⟩) (5 + 68 * n) (5 + 68 * n)) (5 + 68 * n) (seF n xs fs) wc) := hideit (.inr ⟨_, _, rfl, Nat.le_refl _, hR.lie (5 + 68 * n) (Nat.le_refl _)⟩)
        clear hg hR
        have SC := hideit (SB.out.carry hX)
        have KC := hideit (KB.out.carry hX)
        have VC := hideit (VB.out.ext hX)
        have UC := hideit (UB.out.ext hX)
        have XC := hideit (XB.out.ext hX)
        have YC := hideit (YB.out.ext hX)
        have hEC := hideit (Ext.trans hEB.out hX)
        clear hX hEB SB KB VB UB XB YB
        go_upto_region 5 with (fail)
        refine wp_region_lit ?_
        refine wpList_load_mid rfl 37 (.tmp 1) rfl p 0 rfl (row 33 (kyv (.slice ka n kc) t)) _ KC.out.range Try.underlying37 rfl (by rw [row_length]; exact info37) ?_
        simp only [Act.put, List.setIfInBounds_toArray, List.set_cons_zero, List.set_cons_succ]
        refine wpList_call rfl (by simp [go_sem]; exact ⟨rfl, rfl⟩) ?_
        refine (rseal_ok _ n xs fs t wc UC.out hin.out hb).mono ?_
        rintro e wd ⟨d9, rfl, hO, hX⟩
        refine ⟨_, rfl, ?_⟩
        simp only [Act.put, List.setIfInBounds_toArray, List.set_cons_zero, List.set_cons_succ]
        obtain ⟨da, dc, rfl⟩ := hO.bv.form
        have DD := hideit hO.bv
        clear hO
        have CD := hideit (CC.out.ext hX)
        clear CC
        have SD := hideit (SC.out.carry hX)
        have KD := hideit (KC.out.carry hX)
        have VD := hideit (VC.out.ext hX)
        have UD := hideit (UC.out.ext hX)
        have XD := hideit (XC.out.ext hX)
        have YD := hideit (YC.out.ext hX)
        have hED := hideit (Ext.trans hEC.out hX)
        clear hX hEC SC KC VC UC XC YC
        go_upto_region 6 with (fail)
        refine wp_region_lit ?_
        refine wpList_call rfl (by simp [go_sem]; exact ⟨rfl, rfl⟩) ?_
        refine (lives_any wd).mono ?_
        rintro e we ⟨rfl, hX⟩
        refine ⟨_, rfl, ?_⟩
        simp only [Act.put, List.setIfInBounds_toArray, List.set_cons_zero, List.set_cons_succ]
        have CE := hideit (CD.out.ext hX)
        have DE := hideit (DD.out.ext hX)
        clear CD DD
        have SE := hideit (SD.out.carry hX)
        have KE := hideit (KD.out.carry hX)
        have VE := hideit (VD.out.ext hX)
        have UE := hideit (UD.out.ext hX)
        have XE := hideit (XD.out.ext hX)
        have YE := hideit (YD.out.ext hX)
        have hEE := hideit (Ext.trans hED.out hX)
        clear hX hED SD KD VD UD XD YD
        have hc1 := convV _ 512 _ we XE.out
        have hc2 := convV _ 512 _ we YE.out
        have hc3 := convV _ (5 + 68 * n) _ we CE.out
        have hc4 := convV _ (5 + 68 * n) _ we DE.out
        obtain ⟨s1, hs1⟩ : ∃ s1, s1 = bstr 512 (fun j => ((keB n xs fs t j).toNat : Int)) := ⟨_, rfl⟩
        obtain ⟨s2, hs2⟩ : ∃ s2, s2 = bstr (5 + 68 * n) (fun j => ((seF n xs fs j).toNat : Int)) := ⟨_, rfl⟩
        rw [← hs1] at hc1 hc2
        rw [← hs2] at hc3 hc4
        clear hs1 hs2
        refine wpList_run rfl (.bool false) (by simp [go_sem]) ?_
        simp only [Act.put, List.setIfInBounds_toArray, List.set_cons_zero, List.set_cons_succ]
        refine wpList_run rfl (.bool false) (by simp [go_sem]) ?_
        simp only [Act.put, List.setIfInBounds_toArray, List.set_cons_zero, List.set_cons_succ]
        refine wpList_runW rfl (.slice (some ⟨x, 0, none⟩) 512 512) (by simp [go_sem]) ?_
        simp only [Act.put, List.setIfInBounds_toArray, List.set_cons_zero, List.set_cons_succ]
        refine wpList_runW rfl (.string s1) (by simp [go_sem, hc1]) ?_
        simp only [Act.put, List.setIfInBounds_toArray, List.set_cons_zero, List.set_cons_succ]
        refine wpList_runW rfl (.slice ya 512 yc) (by simp [go_sem]) ?_
        simp only [Act.put, List.setIfInBounds_toArray, List.set_cons_zero, List.set_cons_succ]
        refine wpList_runW rfl (.string s1) (by simp [go_sem, hc2]) ?_
        simp only [Act.put, List.setIfInBounds_toArray, List.set_cons_zero, List.set_cons_succ]
        refine wpList_runW rfl (.bool false) (by simp [go_sem]) ?_
        simp only [Act.put, List.setIfInBounds_toArray, List.set_cons_zero, List.set_cons_succ]
        refine wpList_run rfl (.bool false) (by simp [go_sem]) ?_
        simp only [Act.put, List.setIfInBounds_toArray, List.set_cons_zero, List.set_cons_succ]
        refine wpList_run rfl (.bool false) (by simp [go_sem]) ?_
        simp only [Act.put, List.setIfInBounds_toArray, List.set_cons_zero, List.set_cons_succ]
        refine wpList_runW rfl (.int .i64 0) (by simp [go_sem]) ?_
        simp only [Act.put, List.setIfInBounds_toArray, List.set_cons_zero, List.set_cons_succ]
        refine wpList_runW rfl (.int .i64 0) (by simp [go_sem]) ?_
        simp only [Act.put, List.setIfInBounds_toArray, List.set_cons_zero, List.set_cons_succ]
        refine wpList_runW rfl (.bool false) (by simp [go_sem]) ?_
        simp only [Act.put, List.setIfInBounds_toArray, List.set_cons_zero, List.set_cons_succ]
        refine wpList_run rfl (.bool false) (by simp [go_sem]) ?_
        simp only [Act.put, List.setIfInBounds_toArray, List.set_cons_zero, List.set_cons_succ]
        refine wpList_run rfl (.bool false) (by simp [go_sem]) ?_
        simp only [Act.put, List.setIfInBounds_toArray, List.set_cons_zero, List.set_cons_succ]
        refine wpList_runW rfl (.slice (some ⟨c9, 0, none⟩) (5 + 68 * n) (5 + 68 * n)) (by simp [go_sem]) ?_
        simp only [Act.put, List.setIfInBounds_toArray, List.set_cons_zero, List.set_cons_succ]
        refine wpList_runW rfl (.string s2) (by simp [go_sem, hc3]) ?_
        simp only [Act.put, List.setIfInBounds_toArray, List.set_cons_zero, List.set_cons_succ]
        refine wpList_runW rfl (.slice da (5 + 68 * n) dc) (by simp [go_sem]) ?_
        simp only [Act.put, List.setIfInBounds_toArray, List.set_cons_zero, List.set_cons_succ]
        refine wpList_runW rfl (.string s2) (by simp [go_sem, hc4]) ?_
        simp only [Act.put, List.setIfInBounds_toArray, List.set_cons_zero, List.set_cons_succ]
        refine wpList_runW rfl (.bool false) (by simp [go_sem]) ?_
        simp only [Act.put, List.setIfInBounds_toArray, List.set_cons_zero, List.set_cons_succ]
        refine wpList_run rfl (.bool false) (by simp [go_sem]) ?_
        simp only [Act.put, List.setIfInBounds_toArray, List.set_cons_zero, List.set_cons_succ]
        refine wpList_run rfl (.bool false) (by simp [go_sem]) ?_
        simp only [Act.put, List.setIfInBounds_toArray, List.set_cons_zero, List.set_cons_succ]
        refine wpList_runW rfl (.int .i64 0) (by simp [go_sem]) ?_
        simp only [Act.put, List.setIfInBounds_toArray, List.set_cons_zero, List.set_cons_succ]
        refine wpList_runW rfl (.int .i64 0) (by simp [go_sem]) ?_
        simp only [Act.put, List.setIfInBounds_toArray, List.set_cons_zero, List.set_cons_succ]
        refine wpList_runW rfl (.bool false) (by simp [go_sem]) ?_
        simp only [Act.put, List.setIfInBounds_toArray, List.set_cons_zero, List.set_cons_succ]
        refine wpList_run rfl (.bool false) (by simp [go_sem]) ?_
        simp only [Act.put, List.setIfInBounds_toArray, List.set_cons_zero, List.set_cons_succ]
        refine wpList_run rfl (.bool false) (by simp [go_sem]) ?_
        simp only [Act.put, List.setIfInBounds_toArray, List.set_cons_zero, List.set_cons_succ]
        refine wpList_ungrd rfl ?_
        refine wpList_load_mid rfl 37 (.tmp 3) rfl s 0 rfl (row 33 (kyv (.slice la n lc) t)) _ SE.out.range Try.underlying37 rfl (by rw [row_length]; exact info37) ?_
        simp only [Act.put, List.setIfInBounds_toArray, List.set_cons_zero, List.set_cons_succ]
        refine wpList_ungrd rfl ?_
        refine wpList_load_mid rfl 37 (.tmp 1) rfl p 0 rfl (row 33 (kyv (.slice ka n kc) t)) _ KE.out.range Try.underlying37 rfl (by rw [row_length]; exact info37) ?_
        simp only [Act.put, List.setIfInBounds_toArray, List.set_cons_zero, List.set_cons_succ]
        refine wpList_callW rfl (by simp [go_sem]; exact ⟨rfl, rfl⟩) ?_
        refine (same_ok _ _ n xs fs fs t t we VE.out UE.out (fun _ _ => rfl) (fun _ _ _ _ => rfl) (by omega)).mono ?_
        rintro e wf ⟨rfl, hX⟩
        refine ⟨_, rfl, ?_⟩
        simp only [Act.put, List.setIfInBounds_toArray, List.set_cons_zero, List.set_cons_succ]
        clear hc1 hc2 hc3 hc4 CE DE
        have SF := hideit (SE.out.carry hX)
        have KF := hideit (KE.out.carry hX)
        have VF := hideit (VE.out.ext hX)
        have UF := hideit (UE.out.ext hX)
        have XF := hideit (XE.out.ext hX)
        have YF := hideit (YE.out.ext hX)
        have hEF := hideit (Ext.trans hEE.out hX)
        clear hX hEE SE KE VE UE XE YE
        refine wpList_runW rfl (.bool false) (by simp [go_sem]) ?_
        simp only [Act.put, List.setIfInBounds_toArray, List.set_cons_zero, List.set_cons_succ]
        refine wpList_run rfl (.bool false) (by simp [go_sem]) ?_
        simp only [Act.put, List.setIfInBounds_toArray, List.set_cons_zero, List.set_cons_succ]
        go_upto_region 10 with (fail)
        refine wp_region_lit ?_
        refine wpList_run rfl (.slice (some ⟨x, 0, none⟩) 512 512) (by simp [go_sem]) ?_
        simp only [Act.put, List.setIfInBounds_toArray, List.set_cons_zero, List.set_cons_succ]
        refine wpList_call rfl (by simp [go_sem]; exact ⟨rfl, rfl⟩) ?_
        refine (kdec_back _ n xs fs t wf XF.out hb).mono ?_
        rintro e wg ⟨u5, t5, rfl, hU5, ht5, hX⟩
        refine ⟨_, rfl, ?_⟩
        simp only [Act.put, List.setIfInBounds_toArray, List.set_cons_zero, List.set_cons_succ]
        obtain ⟨oa5, oc5, rfl⟩ := hU5.form
        have OG := hideit hU5
        have ht5' := hideit ht5
        clear hU5 ht5
        have SG := hideit (SF.out.carry hX)
        have KG := hideit (KF.out.carry hX)
        have VG := hideit (VF.out.ext hX)
        have UG := hideit (UF.out.ext hX)
        have XG := hideit (XF.out.ext hX)
        have YG := hideit (YF.out.ext hX)
        have hEG := hideit (Ext.trans hEF.out hX)
        clear hX hEF SF KF VF UF XF YF
        refine wpList_run rfl (.tuple #[.agg (row 33 (kyv (.slice oa5 n oc5) t5)).toArray, .int .i64 0]) (by simp [go_sem]) ?_
        simp only [Act.put, List.setIfInBounds_toArray, List.set_cons_zero, List.set_cons_succ]
        refine wpList_run rfl (.agg (row 33 (kyv (.slice oa5 n oc5) t5)).toArray) (by simp [go_sem]) ?_
        simp only [Act.put, List.setIfInBounds_toArray, List.set_cons_zero, List.set_cons_succ]
        refine wpList_run rfl (.int .i64 0) (by simp [go_sem]) ?_
        simp only [Act.put, List.setIfInBounds_toArray, List.set_cons_zero, List.set_cons_succ]
        obtain ⟨H1, hA1, H2, hA2⟩ := made37 wg (.slice oa5 n oc5) t5
        obtain ⟨r, hs⟩ : ∃ r, r = wg.heap.size := ⟨_, rfl⟩
        rw [← hs] at H1 H2 hA2
        refine wpList_to rfl (.pointer (some ⟨r, 0, none⟩)) (wg.alloc (.cells zk37 37)) (by rw [hs]; exact alloc37 rfl) ?_
        simp only [Act.put, List.setIfInBounds_toArray, List.set_cons_zero, List.set_cons_succ]
        refine wpList_store_mid rfl 37 (.tmp 12) (.tmp 77) rfl r 0 (row 33 (kyv (.slice oa5 n oc5) t5)).toArray rfl rfl (by rw [row_size]; exact H1.there) (by rw [row_size]; exact info37) (row_one (kyv_one _ _ _ _)) ?_
        rw [show (row 33 (kyv (.slice oa5 n oc5) t5)).toArray.toList = row 33 (kyv (.slice oa5 n oc5) t5) from rfl]
        have RH := hideit H2
        have OH := hideit (OG.out.ext hA2)
        have KH := hideit (KG.out.carry hA2)
        have UH := hideit (UG.out.ext hA2)
        have hEH := hideit (Ext.trans hEG.out hA2)
        clear SG KG VG UG XG YG hEG OG
        clear H1 hA1 H2 hA2 hs
        generalize (wg.alloc (.cells zk37 37)).setCells r 0 (row 33 (kyv (.slice oa5 n oc5) t5)) = wh at *
        simp only [Act.put]
        go_upto_region 11 with (fail)
        refine wp_region_lit ?_
        refine wpList_run rfl (.int .i64 0) (by simp [go_sem]) ?_
        simp only [Act.put, List.setIfInBounds_toArray, List.set_cons_zero, List.set_cons_succ]
        refine wpList_run rfl (.bool true) (by simp [go_sem]) ?_
        simp only [Act.put, List.setIfInBounds_toArray, List.set_cons_zero, List.set_cons_succ]
        refine wpList_run rfl (.bool true) (by simp [go_sem]) ?_
        simp only [Act.put, List.setIfInBounds_toArray, List.set_cons_zero, List.set_cons_succ]
        refine wpList_ungrd rfl ?_
        refine wpList_load_mid rfl 37 (.tmp 12) rfl r 0 rfl (row 33 (kyv (.slice oa5 n oc5) t5)) _ RH.out.range Try.underlying37 rfl (by rw [row_length]; exact info37) ?_
        simp only [Act.put, List.setIfInBounds_toArray, List.set_cons_zero, List.set_cons_succ]
        refine wpList_ungrd rfl ?_
        refine wpList_load_mid rfl 37 (.tmp 1) rfl p 0 rfl (row 33 (kyv (.slice ka n kc) t)) _ KH.out.range Try.underlying37 rfl (by rw [row_length]; exact info37) ?_
        simp only [Act.put, List.setIfInBounds_toArray, List.set_cons_zero, List.set_cons_succ]
        refine wpList_callW rfl (by simp [go_sem]; exact ⟨rfl, rfl⟩) ?_
        refine (same_ok _ _ n xs fs fs t5 t wh OH.out UH.out ht5'.out (fun _ _ _ _ => rfl) (by omega)).mono ?_
        rintro e wi ⟨rfl, hX⟩
        refine ⟨_, rfl, ?_⟩
        simp only [Act.put, List.setIfInBounds_toArray, List.set_cons_zero, List.set_cons_succ]
        have hEI := hideit (Ext.trans hEH.out hX)
        clear RH OH KH UH hEH hX
        refine wpList_run rfl (.bool true) (by simp [go_sem]) ?_
        simp only [Act.put, List.setIfInBounds_toArray, List.set_cons_zero, List.set_cons_succ]
        go_wp2
        go_ret
        exact ⟨rfl, hEI.out⟩
      · refine wpList_call rfl (by simp [go_sem]; exact ⟨rfl, rfl⟩) ?_
        refine (keys_bad _ n xs fs t w9 V9.out hin.out hb).mono ?_
        rintro e wa ⟨rfl, hX⟩
        refine ⟨_, rfl, ?_⟩
        simp only [Act.put, List.setIfInBounds_toArray, List.set_cons_zero, List.set_cons_succ]
        have XA : Hid (BV (.slice none 0 0) 0 zF wa) := hideit (.inl ⟨rfl, rfl⟩)
        have SA := hideit (S9.out.carry hX)
        have KA := hideit (K9.out.carry hX)
        have VA := hideit (V9.out.ext hX)
        have UA := hideit (U9.out.ext hX)
        have hEA := hideit (Ext.trans hE9.out hX)
        clear hX hE9 S9 K9 V9 U9
        go_upto_region 3 with (fail)
        refine wp_region_lit ?_
        refine wpList_load_mid rfl 37 (.tmp 1) rfl p 0 rfl (row 33 (kyv (.slice ka n kc) t)) _ KA.out.range Try.underlying37 rfl (by rw [row_length]; exact info37) ?_
        simp only [Act.put, List.setIfInBounds_toArray, List.set_cons_zero, List.set_cons_succ]
        refine wpList_call rfl (by simp [go_sem]; exact ⟨rfl, rfl⟩) ?_
        refine (rkeys_bad _ n xs fs t wa UA.out hin.out (by omega) hb).mono ?_
        rintro e wb ⟨rfl, hX⟩
        refine ⟨_, rfl, ?_⟩
        simp only [Act.put, List.setIfInBounds_toArray, List.set_cons_zero, List.set_cons_succ]
        have YB : Hid (BV (.slice none 0 0) 0 zF wb) := hideit (.inl ⟨rfl, rfl⟩)
        have SB := hideit (SA.out.carry hX)
        have KB := hideit (KA.out.carry hX)
        have VB := hideit (VA.out.ext hX)
        have UB := hideit (UA.out.ext hX)
        have XB := hideit (XA.out.ext hX)
        have hEB := hideit (Ext.trans hEA.out hX)
        clear hX hEA SA KA VA UA XA
        go_upto_region 4 with (fail)
        refine wp_region_lit ?_
        refine wpList_load_mid rfl 37 (.tmp 3) rfl s 0 rfl (row 33 (kyv (.slice la n lc) t)) _ SB.out.range Try.underlying37 rfl (by rw [row_length]; exact info37) ?_
        simp only [Act.put, List.setIfInBounds_toArray, List.set_cons_zero, List.set_cons_succ]
        refine wpList_call rfl (by simp [go_sem]; exact ⟨rfl, rfl⟩) ?_
        refine (seal_bad _ n xs fs t wb VB.out hin.out hb).mono ?_
        rintro e wc ⟨rfl, hX⟩
        refine ⟨_, rfl, ?_⟩
        simp only [Act.put, List.setIfInBounds_toArray, List.set_cons_zero, List.set_cons_succ]
        have CC : Hid (BV (.slice none 0 0) 0 zF wc) := hideit (.inl ⟨rfl, rfl⟩)
        have SC := hideit (SB.out.carry hX)
        have KC := hideit (KB.out.carry hX)
        have VC := hideit (VB.out.ext hX)
        have UC := hideit (UB.out.ext hX)
        have XC := hideit (XB.out.ext hX)
        have YC := hideit (YB.out.ext hX)
        have hEC := hideit (Ext.trans hEB.out hX)
        clear hX hEB SB KB VB UB XB YB
        go_upto_region 5 with (fail)
        refine wp_region_lit ?_
        refine wpList_load_mid rfl 37 (.tmp 1) rfl p 0 rfl (row 33 (kyv (.slice ka n kc) t)) _ KC.out.range Try.underlying37 rfl (by rw [row_length]; exact info37) ?_
        simp only [Act.put, List.setIfInBounds_toArray, List.set_cons_zero, List.set_cons_succ]
        refine wpList_call rfl (by simp [go_sem]; exact ⟨rfl, rfl⟩) ?_
        refine (rseal_bad _ n xs fs t wc UC.out hin.out (by omega) hb).mono ?_
        rintro e wd ⟨rfl, hX⟩
        refine ⟨_, rfl, ?_⟩
        simp only [Act.put, List.setIfInBounds_toArray, List.set_cons_zero, List.set_cons_succ]
        have DD : Hid (BV (.slice none 0 0) 0 zF wd) := hideit (.inl ⟨rfl, rfl⟩)
        have CD := hideit (CC.out.ext hX)
        clear CC
        have SD := hideit (SC.out.carry hX)
        have KD := hideit (KC.out.carry hX)
        have VD := hideit (VC.out.ext hX)
        have UD := hideit (UC.out.ext hX)
        have XD := hideit (XC.out.ext hX)
        have YD := hideit (YC.out.ext hX)
        have hED := hideit (Ext.trans hEC.out hX)
        clear hX hEC SC KC VC UC XC YC
        go_upto_region 6 with (fail)
        refine wp_region_lit ?_
        refine wpList_call rfl (by simp [go_sem]; exact ⟨rfl, rfl⟩) ?_
        refine (lives_any wd).mono ?_
        rintro e we ⟨rfl, hX⟩
        refine ⟨_, rfl, ?_⟩
        simp only [Act.put, List.setIfInBounds_toArray, List.set_cons_zero, List.set_cons_succ]
        have CE := hideit (CD.out.ext hX)
        have DE := hideit (DD.out.ext hX)
        clear CD DD
        have SE := hideit (SD.out.carry hX)
        have KE := hideit (KD.out.carry hX)
        have VE := hideit (VD.out.ext hX)
        have UE := hideit (UD.out.ext hX)
        have XE := hideit (XD.out.ext hX)
        have YE := hideit (YD.out.ext hX)
        have hEE := hideit (Ext.trans hED.out hX)
        clear hX hED SD KD VD UD XD YD
        have hc1 := convV _ 0 _ we XE.out
        have hc2 := convV _ 0 _ we YE.out
        have hc3 := convV _ 0 _ we CE.out
        have hc4 := convV _ 0 _ we DE.out
        obtain ⟨s1, hs1⟩ : ∃ s1, s1 = bstr 0 (fun j => ((zF j).toNat : Int)) := ⟨_, rfl⟩
        obtain ⟨s2, hs2⟩ : ∃ s2, s2 = s1 := ⟨_, rfl⟩
        rw [← hs1] at hc1 hc2
        rw [← hs1, ← hs2] at hc3 hc4
        clear hs1 hs2
        refine wpList_run rfl (.bool false) (by simp [go_sem]) ?_
        simp only [Act.put, List.setIfInBounds_toArray, List.set_cons_zero, List.set_cons_succ]
        refine wpList_run rfl (.bool false) (by simp [go_sem]) ?_
        simp only [Act.put, List.setIfInBounds_toArray, List.set_cons_zero, List.set_cons_succ]
        refine wpList_runW rfl (.slice none 0 0) (by simp [go_sem]) ?_
        simp only [Act.put, List.setIfInBounds_toArray, List.set_cons_zero, List.set_cons_succ]
        refine wpList_runW rfl (.string s1) (by simp [go_sem, hc1]) ?_
        simp only [Act.put, List.setIfInBounds_toArray, List.set_cons_zero, List.set_cons_succ]
        refine wpList_runW rfl (.slice none 0 0) (by simp [go_sem]) ?_
        simp only [Act.put, List.setIfInBounds_toArray, List.set_cons_zero, List.set_cons_succ]
        refine wpList_runW rfl (.string s1) (by simp [go_sem, hc2]) ?_
        simp only [Act.put, List.setIfInBounds_toArray, List.set_cons_zero, List.set_cons_succ]
        refine wpList_runW rfl (.bool false) (by simp [go_sem]) ?_
        simp only [Act.put, List.setIfInBounds_toArray, List.set_cons_zero, List.set_cons_succ]
        refine wpList_run rfl (.bool false) (by simp [go_sem]) ?_
        simp only [Act.put, List.setIfInBounds_toArray, List.set_cons_zero, List.set_cons_succ]
        refine wpList_run rfl (.bool false) (by simp [go_sem]) ?_
        simp only [Act.put, List.setIfInBounds_toArray, List.set_cons_zero, List.set_cons_succ]
        refine wpList_runW rfl (.int .i64 1) (by simp [go_sem]) ?_
        simp only [Act.put, List.setIfInBounds_toArray, List.set_cons_zero, List.set_cons_succ]
        refine wpList_runW rfl (.int .i64 1) (by simp [go_sem]) ?_
        simp only [Act.put, List.setIfInBounds_toArray, List.set_cons_zero, List.set_cons_succ]
        refine wpList_runW rfl (.bool false) (by simp [go_sem]) ?_
        simp only [Act.put, List.setIfInBounds_toArray, List.set_cons_zero, List.set_cons_succ]
        refine wpList_run rfl (.bool false) (by simp [go_sem]) ?_
        simp only [Act.put, List.setIfInBounds_toArray, List.set_cons_zero, List.set_cons_succ]
        refine wpList_run rfl (.bool false) (by simp [go_sem]) ?_
        simp only [Act.put, List.setIfInBounds_toArray, List.set_cons_zero, List.set_cons_succ]
        refine wpList_runW rfl (.slice none 0 0) (by simp [go_sem]) ?_
        simp only [Act.put, List.setIfInBounds_toArray, List.set_cons_zero, List.set_cons_succ]
        refine wpList_runW rfl (.string s2) (by simp [go_sem, hc3]) ?_
        simp only [Act.put, List.setIfInBounds_toArray, List.set_cons_zero, List.set_cons_succ]
        refine wpList_runW rfl (.slice none 0 0) (by simp [go_sem]) ?_
        simp only [Act.put, List.setIfInBounds_toArray, List.set_cons_zero, List.set_cons_succ]
        refine wpList_runW rfl (.string s2) (by simp [go_sem, hc4]) ?_
        simp only [Act.put, List.setIfInBounds_toArray, List.set_cons_zero, List.set_cons_succ]
        refine wpList_runW rfl (.bool false) (by simp [go_sem]) ?_
        simp only [Act.put, List.setIfInBounds_toArray, List.set_cons_zero, List.set_cons_succ]
        refine wpList_run rfl (.bool false) (by simp [go_sem]) ?_
        simp only [Act.put, List.setIfInBounds_toArray, List.set_cons_zero, List.set_cons_succ]
        refine wpList_run rfl (.bool false) (by simp [go_sem]) ?_
        simp only [Act.put, List.setIfInBounds_toArray, List.set_cons_zero, List.set_cons_succ]
        refine wpList_runW rfl (.int .i64 1) (by simp [go_sem]) ?_
        simp only [Act.put, List.setIfInBounds_toArray, List.set_cons_zero, List.set_cons_succ]
        refine wpList_runW rfl (.int .i64 1) (by simp [go_sem]) ?_
        simp only [Act.put, List.setIfInBounds_toArray, List.set_cons_zero, List.set_cons_succ]
        refine wpList_runW rfl (.bool false) (by simp [go_sem]) ?_
        simp only [Act.put, List.setIfInBounds_toArray, List.set_cons_zero, List.set_cons_succ]
        refine wpList_run rfl (.bool false) (by simp [go_sem]) ?_
        simp only [Act.put, List.setIfInBounds_toArray, List.set_cons_zero, List.set_cons_succ]
        refine wpList_run rfl (.bool false) (by simp [go_sem]) ?_
        simp only [Act.put, List.setIfInBounds_toArray, List.set_cons_zero, List.set_cons_succ]
        refine wpList_ungrd rfl ?_
        refine wpList_load_mid rfl 37 (.tmp 3) rfl s 0 rfl (row 33 (kyv (.slice la n lc) t)) _ SE.out.range Try.underlying37 rfl (by rw [row_length]; exact info37) ?_
        simp only [Act.put, List.setIfInBounds_toArray, List.set_cons_zero, List.set_cons_succ]
        refine wpList_ungrd rfl ?_
        refine wpList_load_mid rfl 37 (.tmp 1) rfl p 0 rfl (row 33 (kyv (.slice ka n kc) t)) _ KE.out.range Try.underlying37 rfl (by rw [row_length]; exact info37) ?_
        simp only [Act.put, List.setIfInBounds_toArray, List.set_cons_zero, List.set_cons_succ]
        refine wpList_callW rfl (by simp [go_sem]; exact ⟨rfl, rfl⟩) ?_
        refine (same_ok _ _ n xs fs fs t t we VE.out UE.out (fun _ _ => rfl) (fun _ _ _ _ => rfl) (by omega)).mono ?_
        rintro e wf ⟨rfl, hX⟩
        refine ⟨_, rfl, ?_⟩
        simp only [Act.put, List.setIfInBounds_toArray, List.set_cons_zero, List.set_cons_succ]
        clear hc1 hc2 hc3 hc4 CE DE
        have SF := hideit (SE.out.carry hX)
        have KF := hideit (KE.out.carry hX)
        have VF := hideit (VE.out.ext hX)
        have UF := hideit (UE.out.ext hX)
        have XF := hideit (XE.out.ext hX)
        have YF := hideit (YE.out.ext hX)
        have hEF := hideit (Ext.trans hEE.out hX)
        clear hX hEE SE KE VE UE XE YE
        refine wpList_runW rfl (.bool false) (by simp [go_sem]) ?_
        simp only [Act.put, List.setIfInBounds_toArray, List.set_cons_zero, List.set_cons_succ]
        refine wpList_run rfl (.bool false) (by simp [go_sem]) ?_
        simp only [Act.put, List.setIfInBounds_toArray, List.set_cons_zero, List.set_cons_succ]
        clear SF KF VF UF XF YF
        go_wp2
        go_ret
        exact ⟨rfl, hEF.out⟩
    · have hX : Ext W3 (W3.alloc (.cells zk37 37)) := (Below.refl _ _).alloc (Nat.le_refl _) _
      have M4 := hideit (heap_mk W3)
      refine wpOp_to rfl rfl (.pointer (some ⟨W3.heap.size, 0, none⟩)) (W3.alloc (.cells zk37 37)) (alloc37 rfl) ⟨Ext.trans hS3 hX, ?_⟩
      simp only [List.getElem_toArray, List.getElem_cons_zero, List.getElem_cons_succ, Act.put, List.setIfInBounds_toArray, List.set_cons_zero, List.set_cons_succ]
      obtain ⟨s, hs⟩ : ∃ s, s = W3.heap.size := ⟨_, rfl⟩
      have hsw : Hid (w1.heap.size ≤ s) := hideit (by rw [hs]; exact Below.size hS3)
      rw [← hs] at M4 ⊢
      clear hs
      have U4 := hideit (U3.out.ext hX)
      have K4 := hideit (K3.out.carry hX)
      have hE4 := hideit (Ext.trans hE3.out hX)
      have hS4 := Ext.trans hS3 hX
      clear hX U3 K3 hE3 hS3
      generalize W3.alloc (.cells zk37 37) = W4 at *
      refine wpAnyH_all (rs := [3]) (by kernel_rfl) (by decide) ?_
      intro i hi
      obtain rfl : i = 3 := by simpa using hi
      obtain ⟨u3, X3, hr3, ⟨la, lc, rfl⟩, hV3, hX⟩ := kapp h0 (.slice ka n kc) n xs fs 35 W4 U4.out hz
      refine wpOp_to rfl rfl (.slice la n lc) X3 (exec_append (.tmp 13) (.tmp 15) 35 35 rfl _ _ _ rfl rfl hr3) ⟨Ext.trans hS4 hX, ?_⟩
      simp only [List.getElem_toArray, List.getElem_cons_zero, List.getElem_cons_succ, Act.put, List.setIfInBounds_toArray, List.set_cons_zero, List.set_cons_succ]
      have V5 := hideit hV3
      clear hV3 hr3
      have U5 := hideit (U4.out.ext hX)
      have K5 := hideit (K4.out.carry hX)
      have hE5 := hideit (Ext.trans hE4.out hX)
      have hS5 := Ext.trans hS4 hX
      have M5 := hideit (M4.out.ext hX)
      clear M4
      clear hX U4 K4 hE4 hS4
      refine wpAnyH_all (rs := [6]) (by kernel_rfl) (by decide) ?_
      intro i hi
      obtain rfl : i = 6 := by simpa using hi
      refine wpOp_to rfl rfl (.agg (row 33 (kyv (.slice la n lc) t)).toArray) X3 (exec_build 37 [(0, .tmp 16), (1, .tmp 18)] rfl _ (bl37 _ _ _ _ _)) ⟨hS5, ?_⟩
      simp only [List.getElem_toArray, List.getElem_cons_zero, List.getElem_cons_succ, Act.put, List.setIfInBounds_toArray, List.set_cons_zero, List.set_cons_succ]
      refine wpAnyH_all (rs := [8]) (by kernel_rfl) (by decide) ?_
      intro i hi
      obtain rfl : i = 8 := by simpa using hi
      obtain ⟨m1, m2⟩ := M5.out
      refine wpOp_st rfl rfl (X3.setCells s 0 (row 33 (kyv (.slice la n lc) t))) (exec_store 37 (.tmp 3) (.tmp 19) rfl s 33 _ (kyv (.slice la n lc) t) rfl rfl m1 info37 (kyv_one _ _ _ _)) ⟨below_setCells _ hsw.out _ _ _ hS5, ?_⟩
      simp only [List.getElem_toArray, List.getElem_cons_zero, List.getElem_cons_succ, Act.put]
      have SS := hideit (RowAt.cells (g' := kyv (.slice la n lc) t) m1)
      have VV := hideit (EV.set37 V5.out m2 (row 33 (kyv (.slice la n lc) t)))
      have hSS : Hid (Ext w1 (X3.setCells s 0 (row 33 (kyv (.slice la n lc) t)))) := hideit (below_setCells _ hsw.out _ _ _ hS5)
      have S9 := SS
      have V9 := VV
      have K9 := hideit (K1.out.carry hSS.out)
      have U9 := hideit (U1.out.ext hSS.out)
      have hE9 := hideit (Ext.trans hE1.out hSS.out)
      clear m1 m2 M5 V5 K5 U5 hE5 hS5 SS VV hSS
      generalize X3.setCells s 0 (row 33 (kyv (.slice la n lc) t)) = w9 at *
      refine ⟨by kernel_rfl, ?_⟩
      clear K1 U1 hE1
      go_upto_region 2 with (fail)
      refine wp_region_lit ?_
      refine wpList_load_mid rfl 37 (.tmp 3) rfl s 0 rfl (row 33 (kyv (.slice la n lc) t)) _ S9.out.range Try.underlying37 rfl (by rw [row_length]; exact info37) ?_
      simp only [Act.put, List.setIfInBounds_toArray, List.set_cons_zero, List.set_cons_succ]
      by_cases hb : okE n xs
      · refine wpList_call rfl (by simp [go_sem]; exact ⟨rfl, rfl⟩) ?_
        refine (keys_ok _ n xs fs t w9 V9.out hin.out hb).mono ?_
        rintro e wa ⟨x, rfl, hg, hR, hX⟩
        refine ⟨_, rfl, ?_⟩
        simp only [Act.put, List.setIfInBounds_toArray, List.set_cons_zero, List.set_cons_succ]
        have XA : Hid (BV (.slice (some ⟨x, 0, none⟩) 512 512) 512 (keB n xs fs t) wa) := hideit (.inr ⟨_, _, rfl, Nat.le_refl _, hR.lie 512 (Nat.le_refl _)⟩)
        clear hg hR
        have SA := hideit (S9.out.carry hX)
        have KA := hideit (K9.out.carry hX)
        have VA := hideit (V9.out.ext hX)
        have UA := hideit (U9.out.ext hX)
        have hEA := hideit (Ext.trans hE9.out hX)
        clear hX hE9 S9 K9 V9 U9
        go_upto_region 3 with (fail)
        refine wp_region_lit ?_
        refine wpList_load_mid rfl 37 (.tmp 1) rfl p 0 rfl (row 33 (kyv (.slice ka n kc) t)) _ KA.out.range Try.underlying37 rfl (by rw [row_length]; exact info37) ?_
        simp only [Act.put, List.setIfInBounds_toArray, List.set_cons_zero, List.set_cons_succ]
        refine wpList_call rfl (by simp [go_sem]; exact ⟨rfl, rfl⟩) ?_
        refine (rkeys_ok _ n xs fs t wa UA.out hin.out hb).mono ?_
        rintro e wb ⟨y, rfl, hY, hX⟩
        refine ⟨_, rfl, ?_⟩
        simp only [Act.put, List.setIfInBounds_toArray, List.set_cons_zero, List.set_cons_succ]
        obtain ⟨ya, yc, rfl⟩ := hY.form
        have YB := hideit hY
        clear hY
        have SB := hideit (SA.out.carry hX)
        have KB := hideit (KA.out.carry hX)
        have VB := hideit (VA.out.ext hX)
        have UB := hideit (UA.out.ext hX)
        have XB := hideit (XA.out.ext hX)
        have hEB := hideit (Ext.trans hEA.out hX)
        clear hX hEA SA KA VA UA XA
        go_upto_region 4 with (fail)
        refine wp_region_lit ?_
        refine wpList_load_mid rfl 37 (.tmp 3) rfl s 0 rfl (row 33 (kyv (.slice la n lc) t)) _ SB.out.range Try.underlying37 rfl (by rw [row_length]; exact info37) ?_
        simp only [Act.put, List.setIfInBounds_toArray, List.set_cons_zero, List.set_cons_succ]
        refine wpList_call rfl (by simp [go_sem]; exact ⟨rfl, rfl⟩) ?_
        refine (seal_ok _ n xs fs t wb VB.out hin.out hb).mono ?_
        rintro e wc ⟨c9, rfl, hg, hR, hX⟩
        refine ⟨_, rfl, ?_⟩
        simp only [Act.put, List.setIfInBounds_toArray, List.set_cons_zero, List.set_cons_succ]
        have CC : Hid (BV (.slice (some ⟨c9, 0, none⟩) (5 + 68 * n) (5 + 68 * n)) (5 + 68 * n) (seF n xs fs) wc) := hideit (.inr ⟨_, _, rfl, Nat.le_refl _, hR.lie (5 + 68 * n) (Nat.le_refl _)⟩)
        clear hg hR
        have SC := hideit (SB.out.carry hX)
        have KC := hideit (KB.out.carry hX)
        have VC := hideit (VB.out.ext hX)
        have UC := hideit (UB.out.ext hX)
        have XC := hideit (XB.out.ext hX)
        have YC := hideit (YB.out.ext hX)
        have hEC := hideit (Ext.trans hEB.out hX)
        clear hX hEB SB KB VB UB XB YB
        go_upto_region 5 with (fail)
        refine wp_region_lit ?_
        refine wpList_load_mid rfl 37 (.tmp 1) rfl p 0 rfl (row 33 (kyv (.slice ka n kc) t)) _ KC.out.range Try.underlying37 rfl (by rw [row_length]; exact info37) ?_
        simp only [Act.put, List.setIfInBounds_toArray, List.set_cons_zero, List.set_cons_succ]
        refine wpList_call rfl (by simp [go_sem]; exact ⟨rfl, rfl⟩) ?_
        refine (rseal_ok _ n xs fs t wc UC.out hin.out hb).mono ?_
        rintro e wd ⟨d9, rfl, hO, hX⟩
        refine ⟨_, rfl, ?_⟩
        simp only [Act.put, List.setIfInBounds_toArray, List.set_cons_zero, List.set_cons_succ]
        obtain ⟨da, dc, rfl⟩ := hO.bv.form
        have DD := hideit hO.bv
        clear hO
        have CD := hideit (CC.out.ext hX)
        clear CC
        have SD := hideit (SC.out.carry hX)
        have KD := hideit (KC.out.carry hX)
        have VD := hideit (VC.out.ext hX)
        have UD := hideit (UC.out.ext hX)
        have XD := hideit (XC.out.ext hX)
        have YD := hideit (YC.out.ext hX)
        have hED := hideit (Ext.trans hEC.out hX)
        clear hX hEC SC KC VC UC XC YC
        go_upto_region 6 with (fail)
        refine wp_region_lit ?_
        refine wpList_call rfl (by simp [go_sem]; exact ⟨rfl, rfl⟩) ?_
        refine (lives_any wd).mono ?_
        rintro e we ⟨rfl, hX⟩
        refine ⟨_, rfl, ?_⟩
        simp only [Act.put, List.setIfInBounds_toArray, List.set_cons_zero, List.set_cons_succ]
        have CE := hideit (CD.out.ext hX)
        have DE := hideit (DD.out.ext hX)
        clear CD DD
        have SE := hideit (SD.out.carry hX)
        have KE := hideit (KD.out.carry hX)
        have VE := hideit (VD.out.ext hX)
        have UE := hideit (UD.out.ext hX)
        have XE := hideit (XD.out.ext hX)
        have YE := hideit (YD.out.ext hX)
        have hEE := hideit (Ext.trans hED.out hX)
        clear hX hED SD KD VD UD XD YD
        have hc1 := convV _ 512 _ we XE.out
        have hc2 := convV _ 512 _ we YE.out
        have hc3 := convV _ (5 + 68 * n) _ we CE.out
        have hc4 := convV _ (5 + 68 * n) _ we DE.out
        obtain ⟨s1, hs1⟩ : ∃ s1, s1 = bstr 512 (fun j => ((keB n xs fs t j).toNat : Int)) := ⟨_, rfl⟩
        obtain ⟨s2, hs2⟩ : ∃ s2, s2 = bstr (5 + 68 * n) (fun j => ((seF n xs fs j).toNat : Int)) := ⟨_, rfl⟩
        rw [← hs1] at hc1 hc2
        rw [← hs2] at hc3 hc4
        clear hs1 hs2
        refine wpList_run rfl (.bool false) (by simp [go_sem]) ?_
        simp only [Act.put, List.setIfInBounds_toArray, List.set_cons_zero, List.set_cons_succ]
        refine wpList_run rfl (.bool false) (by simp [go_sem]) ?_
        simp only [Act.put, List.setIfInBounds_toArray, List.set_cons_zero, List.set_cons_succ]
        refine wpList_runW rfl (.slice (some ⟨x, 0, none⟩) 512 512) (by simp [go_sem]) ?_
        simp only [Act.put, List.setIfInBounds_toArray, List.set_cons_zero, List.set_cons_succ]
        refine wpList_runW rfl (.string s1) (by simp [go_sem, hc1]) ?_
        simp only [Act.put, List.setIfInBounds_toArray, List.set_cons_zero, List.set_cons_succ]
        refine wpList_runW rfl (.slice ya 512 yc) (by simp [go_sem]) ?_
        simp only [Act.put, List.setIfInBounds_toArray, List.set_cons_zero, List.set_cons_succ]
        refine wpList_runW rfl (.string s1) (by simp [go_sem, hc2]) ?_
        simp only [Act.put, List.setIfInBounds_toArray, List.set_cons_zero, List.set_cons_succ]
        refine wpList_runW rfl (.bool false) (by simp [go_sem]) ?_
        simp only [Act.put, List.setIfInBounds_toArray, List.set_cons_zero, List.set_cons_succ]
        refine wpList_run rfl (.bool false) (by simp [go_sem]) ?_
        simp only [Act.put, List.setIfInBounds_toArray, List.set_cons_zero, List.set_cons_succ]
        refine wpList_run rfl (.bool false) (by simp [go_sem]) ?_
        simp only [Act.put, List.setIfInBounds_toArray, List.set_cons_zero, List.set_cons_succ]
        refine wpList_runW rfl (.int .i64 0) (by simp [go_sem]) ?_
        simp only [Act.put, List.setIfInBounds_toArray, List.set_cons_zero, List.set_cons_succ]
        refine wpList_runW rfl (.int .i64 0) (by simp [go_sem]) ?_
        simp only [Act.put, List.setIfInBounds_toArray, List.set_cons_zero, List.set_cons_succ]
        refine wpList_runW rfl (.bool false) (by simp [go_sem]) ?_
        simp only [Act.put, List.setIfInBounds_toArray, List.set_cons_zero, List.set_cons_succ]
        refine wpList_run rfl (.bool false) (by simp [go_sem]) ?_
        simp only [Act.put, List.setIfInBounds_toArray, List.set_cons_zero, List.set_cons_succ]
        refine wpList_run rfl (.bool false) (by simp [go_sem]) ?_
        simp only [Act.put, List.setIfInBounds_toArray, List.set_cons_zero, List.set_cons_succ]
        refine wpList_runW rfl (.slice (some ⟨c9, 0, none⟩) (5 + 68 * n) (5 + 68 * n)) (by simp [go_sem]) ?_
        simp only [Act.put, List.setIfInBounds_toArray, List.set_cons_zero, List.set_cons_succ]
        refine wpList_runW rfl (.string s2) (by simp [go_sem, hc3]) ?_
        simp only [Act.put, List.setIfInBounds_toArray, List.set_cons_zero, List.set_cons_succ]
        refine wpList_runW rfl (.slice da (5 + 68 * n) dc) (by simp [go_sem]) ?_
        simp only [Act.put, List.setIfInBounds_toArray, List.set_cons_zero, List.set_cons_succ]
        refine wpList_runW rfl (.string s2) (by simp [go_sem, hc4]) ?_
        simp only [Act.put, List.setIfInBounds_toArray, List.set_cons_zero, List.set_cons_succ]
        refine wpList_runW rfl (.bool false) (by simp [go_sem]) ?_
        simp only [Act.put, List.setIfInBounds_toArray, List.set_cons_zero, List.set_cons_succ]
        refine wpList_run rfl (.bool false) (by simp [go_sem]) ?_
        simp only [Act.put, List.setIfInBounds_toArray, List.set_cons_zero, List.set_cons_succ]
        refine wpList_run rfl (.bool false) (by simp [go_sem]) ?_
        simp only [Act.put, List.setIfInBounds_toArray, List.set_cons_zero, List.set_cons_succ]
        refine wpList_runW rfl (.int .i64 0) (by simp [go_sem]) ?_
        simp only [Act.put, List.setIfInBounds_toArray, List.set_cons_zero, List.set_cons_succ]
        refine wpList_runW rfl (.int .i64 0) (by simp [go_sem]) ?_
        simp only [Act.put, List.setIfInBounds_toArray, List.set_cons_zero, List.set_cons_succ]
        refine wpList_runW rfl (.bool false) (by simp [go_sem]) ?_
        simp only [Act.put, List.setIfInBounds_toArray, List.set_cons_zero, List.set_cons_succ]
        refine wpList_run rfl (.bool false) (by simp [go_sem]) ?_
        simp only [Act.put, List.setIfInBounds_toArray, List.set_cons_zero, List.set_cons_succ]
        refine wpList_run rfl (.bool false) (by simp [go_sem]) ?_
        simp only [Act.put, List.setIfInBounds_toArray, List.set_cons_zero, List.set_cons_succ]
        refine wpList_ungrd rfl ?_
        refine wpList_load_mid rfl 37 (.tmp 3) rfl s 0 rfl (row 33 (kyv (.slice la n lc) t)) _ SE.out.range Try.underlying37 rfl (by rw [row_length]; exact info37) ?_
        simp only [Act.put, List.setIfInBounds_toArray, List.set_cons_zero, List.set_cons_succ]
        refine wpList_ungrd rfl ?_
        refine wpList_load_mid rfl 37 (.tmp 1) rfl p 0 rfl (row 33 (kyv (.slice ka n kc) t)) _ KE.out.range Try.underlying37 rfl (by rw [row_length]; exact info37) ?_
        simp only [Act.put, List.setIfInBounds_toArray, List.set_cons_zero, List.set_cons_succ]
        refine wpList_callW rfl (by simp [go_sem]; exact ⟨rfl, rfl⟩) ?_
        refine (same_ok _ _ n xs fs fs t t we VE.out UE.out (fun _ _ => rfl) (fun _ _ _ _ => rfl) (by omega)).mono ?_
        rintro e wf ⟨rfl, hX⟩
        refine ⟨_, rfl, ?_⟩
        simp only [Act.put, List.setIfInBounds_toArray, List.set_cons_zero, List.set_cons_succ]
        clear hc1 hc2 hc3 hc4 CE DE
        have SF := hideit (SE.out.carry hX)
        have KF := hideit (KE.out.carry hX)
        have VF := hideit (VE.out.ext hX)
        have UF := hideit (UE.out.ext hX)
        have XF := hideit (XE.out.ext hX)
        have YF := hideit (YE.out.ext hX)
        have hEF := hideit (Ext.trans hEE.out hX)
        clear hX hEE SE KE VE UE XE YE
        refine wpList_runW rfl (.bool false) (by simp [go_sem]) ?_
        simp only [Act.put, List.setIfInBounds_toArray, List.set_cons_zero, List.set_cons_succ]
        refine wpList_run rfl (.bool false) (by simp [go_sem]) ?_
        simp only [Act.put, List.setIfInBounds_toArray, List.set_cons_zero, List.set_cons_succ]
        go_upto_region 10 with (fail)
        refine wp_region_lit ?_
        refine wpList_run rfl (.slice (some ⟨x, 0, none⟩) 512 512) (by simp [go_sem]) ?_
        simp only [Act.put, List.setIfInBounds_toArray, List.set_cons_zero, List.set_cons_succ]
        refine wpList_call rfl (by simp [go_sem]; exact ⟨rfl, rfl⟩) ?_
        refine (kdec_back _ n xs fs t wf XF.out hb).mono ?_
        rintro e wg ⟨u5, t5, rfl, hU5, ht5, hX⟩
        refine ⟨_, rfl, ?_⟩
        simp only [Act.put, List.setIfInBounds_toArray, List.set_cons_zero, List.set_cons_succ]
        obtain ⟨oa5, oc5, rfl⟩ := hU5.form
        have OG := hideit hU5
        have ht5' := hideit ht5
        clear hU5 ht5
        have SG := hideit (SF.out.carry hX)
        have KG := hideit (KF.out.carry hX)
        have VG := hideit (VF.out.ext hX)
        have UG := hideit (UF.out.ext hX)
        have XG := hideit (XF.out.ext hX)
        have YG := hideit (YF.out.ext hX)
        have hEG := hideit (Ext.trans hEF.out hX)
        clear hX hEF SF KF VF UF XF YF
        refine wpList_run rfl (.tuple #[.agg (row 33 (kyv (.slice oa5 n oc5) t5)).toArray, .int .i64 0]) (by simp [go_sem]) ?_
        simp only [Act.put, List.setIfInBounds_toArray, List.set_cons_zero, List.set_cons_succ]
        refine wpList_run rfl (.agg (row 33 (kyv (.slice oa5 n oc5) t5)).toArray) (by simp [go_sem]) ?_
        simp only [Act.put, List.setIfInBounds_toArray, List.set_cons_zero, List.set_cons_succ]
        refine wpList_run rfl (.int .i64 0) (by simp [go_sem]) ?_
        simp only [Act.put, List.setIfInBounds_toArray, List.set_cons_zero, List.set_cons_succ]
        obtain ⟨H1, hA1, H2, hA2⟩ := made37 wg (.slice oa5 n oc5) t5
        obtain ⟨r, hs⟩ : ∃ r, r = wg.heap.size := ⟨_, rfl⟩
        rw [← hs] at H1 H2 hA2
        refine wpList_to rfl (.pointer (some ⟨r, 0, none⟩)) (wg.alloc (.cells zk37 37)) (by rw [hs]; exact alloc37 rfl) ?_
        simp only [Act.put, List.setIfInBounds_toArray, List.set_cons_zero, List.set_cons_succ]
        refine wpList_store_mid rfl 37 (.tmp 12) (.tmp 77) rfl r 0 (row 33 (kyv (.slice oa5 n oc5) t5)).toArray rfl rfl (by rw [row_size]; exact H1.there) (by rw [row_size]; exact info37) (row_one (kyv_one _ _ _ _)) ?_
        rw [show (row 33 (kyv (.slice oa5 n oc5) t5)).toArray.toList = row 33 (kyv (.slice oa5 n oc5) t5) from rfl]
        have RH := hideit H2
        have OH := hideit (OG.out.ext hA2)
        have KH := hideit (KG.out.carry hA2)
        have UH := hideit (UG.out.ext hA2)
        have hEH := hideit (Ext.trans hEG.out hA2)
        clear SG KG VG UG XG YG hEG OG
        clear H1 hA1 H2 hA2 hs
        generalize (wg.alloc (.cells zk37 37)).setCells r 0 (row 33 (kyv (.slice oa5 n oc5) t5)) = wh at *
        simp only [Act.put]
        go_upto_region 11 with (fail)
        refine wp_region_lit ?_
        refine wpList_run rfl (.int .i64 0) (by simp [go_sem]) ?_
        simp only [Act.put, List.setIfInBounds_toArray, List.set_cons_zero, List.set_cons_succ]
        refine wpList_run rfl (.bool true) (by simp [go_sem]) ?_
        simp only [Act.put, List.setIfInBounds_toArray, List.set_cons_zero, List.set_cons_succ]
        refine wpList_run rfl (.bool true) (by simp [go_sem]) ?_
        simp only [Act.put, List.setIfInBounds_toArray, List.set_cons_zero, List.set_cons_succ]
        refine wpList_ungrd rfl ?_
        refine wpList_load_mid rfl 37 (.tmp 12) rfl r 0 rfl (row 33 (kyv (.slice oa5 n oc5) t5)) _ RH.out.range Try.underlying37 rfl (by rw [row_length]; exact info37) ?_
        simp only [Act.put, List.setIfInBounds_toArray, List.set_cons_zero, List.set_cons_succ]
        refine wpList_ungrd rfl ?_
        refine wpList_load_mid rfl 37 (.tmp 1) rfl p 0 rfl (row 33 (kyv (.slice ka n kc) t)) _ KH.out.range Try.underlying37 rfl (by rw [row_length]; exact info37) ?_
        simp only [Act.put, List.setIfInBounds_toArray, List.set_cons_zero, List.set_cons_succ]
        refine wpList_callW rfl (by simp [go_sem]; exact ⟨rfl, rfl⟩) ?_
        refine (same_ok _ _ n xs fs fs t5 t wh OH.out UH.out ht5'.out (fun _ _ _ _ => rfl) (by omega)).mono ?_
        rintro e wi ⟨rfl, hX⟩
        refine ⟨_, rfl, ?_⟩
        simp only [Act.put, List.setIfInBounds_toArray, List.set_cons_zero, List.set_cons_succ]
        have hEI := hideit (Ext.trans hEH.out hX)
        clear RH OH KH UH hEH hX
        refine wpList_run rfl (.bool true) (by simp [go_sem]) ?_
        simp only [Act.put, List.setIfInBounds_toArray, List.set_cons_zero, List.set_cons_succ]
        go_wp2
        go_ret
        exact ⟨rfl, hEI.out⟩
      · refine wpList_call rfl (by simp [go_sem]; exact ⟨rfl, rfl⟩) ?_
        refine (keys_bad _ n xs fs t w9 V9.out hin.out hb).mono ?_
        rintro e wa ⟨rfl, hX⟩
        refine ⟨_, rfl, ?_⟩
        simp only [Act.put, List.setIfInBounds_toArray, List.set_cons_zero, List.set_cons_succ]
        have XA : Hid (BV (.slice none 0 0) 0 zF wa) := hideit (.inl ⟨rfl, rfl⟩)
        have SA := hideit (S9.out.carry hX)
        have KA := hideit (K9.out.carry hX)
        have VA := hideit (V9.out.ext hX)
        have UA := hideit (U9.out.ext hX)
        have hEA := hideit (Ext.trans hE9.out hX)
        clear hX hE9 S9 K9 V9 U9
        go_upto_region 3 with (fail)
        refine wp_region_lit ?_
        refine wpList_load_mid rfl 37 (.tmp 1) rfl p 0 rfl (row 33 (kyv (.slice ka n kc) t)) _ KA.out.range Try.underlying37 rfl (by rw [row_length]; exact info37) ?_
        simp only [Act.put, List.setIfInBounds_toArray, List.set_cons_zero, List.set_cons_succ]
        refine wpList_call rfl (by simp [go_sem]; exact ⟨rfl, rfl⟩) ?_
        refine (rkeys_bad _ n xs fs t wa UA.out hin.out (by omega) hb).mono ?_
        rintro e wb ⟨rfl, hX⟩
        refine ⟨_, rfl, ?_⟩
        simp only [Act.put, List.setIfInBounds_toArray, List.set_cons_zero, List.set_cons_succ]
        have YB : Hid (BV (.slice none 0 0) 0 zF wb) := hideit (.inl ⟨rfl, rfl⟩)
        have SB := hideit (SA.out.carry hX)
        have KB := hideit (KA.out.carry hX)
        have VB := hideit (VA.out.ext hX)
        have UB := hideit (UA.out.ext hX)
        have XB := hideit (XA.out.ext hX)
        have hEB := hideit (Ext.trans hEA.out hX)
        clear hX hEA SA KA VA UA XA
        go_upto_region 4 with (fail)
        refine wp_region_lit ?_
        refine wpList_load_mid rfl 37 (.tmp 3) rfl s 0 rfl (row 33 (kyv (.slice la n lc) t)) _ SB.out.range Try.underlying37 rfl (by rw [row_length]; exact info37) ?_
        simp only [Act.put, List.setIfInBounds_toArray, List.set_cons_zero, List.set_cons_succ]
        refine wpList_call rfl (by simp [go_sem]; exact ⟨rfl, rfl⟩) ?_
        refine (seal_bad _ n xs fs t wb VB.out hin.out hb).mono ?_
        rintro e wc ⟨rfl, hX⟩
        refine ⟨_, rfl, ?_⟩
        simp only [Act.put, List.setIfInBounds_toArray, List.set_cons_zero, List.set_cons_succ]
        have CC : Hid (BV (.slice none 0 0) 0 zF wc) := hideit (.inl ⟨rfl, rfl⟩)
        have SC := hideit (SB.out.carry hX)
        have KC := hideit (KB.out.carry hX)
        have VC := hideit (VB.out.ext hX)
        have UC := hideit (UB.out.ext hX)
        have XC := hideit (XB.out.ext hX)
        have YC := hideit (YB.out.ext hX)
        have hEC := hideit (Ext.trans hEB.out hX)
        clear hX hEB SB KB VB UB XB YB
        go_upto_region 5 with (fail)
        refine wp_region_lit ?_
        refine wpList_load_mid rfl 37 (.tmp 1) rfl p 0 rfl (row 33 (kyv (.slice ka n kc) t)) _ KC.out.range Try.underlying37 rfl (by rw [row_length]; exact info37) ?_
        simp only [Act.put, List.setIfInBounds_toArray, List.set_cons_zero, List.set_cons_succ]
        refine wpList_call rfl (by simp [go_sem]; exact ⟨rfl, rfl⟩) ?_
        refine (rseal_bad _ n xs fs t wc UC.out hin.out (by omega) hb).mono ?_
        rintro e wd ⟨rfl, hX⟩
        refine ⟨_, rfl, ?_⟩
        simp only [Act.put, List.setIfInBounds_toArray, List.set_cons_zero, List.set_cons_succ]
        have DD : Hid (BV (.slice none 0 0) 0 zF wd) := hideit (.inl ⟨rfl, rfl⟩)
        have CD := hideit (CC.out.ext hX)
        clear CC
        have SD := hideit (SC.out.carry hX)
        have KD := hideit (KC.out.carry hX)
        have VD := hideit (VC.out.ext hX)
        have UD := hideit (UC.out.ext hX)
        have XD := hideit (XC.out.ext hX)
        have YD := hideit (YC.out.ext hX)
        have hED := hideit (Ext.trans hEC.out hX)
        clear hX hEC SC KC VC UC XC YC
        go_upto_region 6 with (fail)
        refine wp_region_lit ?_
        refine wpList_call rfl (by simp [go_sem]; exact ⟨rfl, rfl⟩) ?_
        refine (lives_any wd).mono ?_
        rintro e we ⟨rfl, hX⟩
        refine ⟨_, rfl, ?_⟩
        simp only [Act.put, List.setIfInBounds_toArray, List.set_cons_zero, List.set_cons_succ]
        have CE := hideit (CD.out.ext hX)
        have DE := hideit (DD.out.ext hX)
        clear CD DD
        have SE := hideit (SD.out.carry hX)
        have KE := hideit (KD.out.carry hX)
        have VE := hideit (VD.out.ext hX)
        have UE := hideit (UD.out.ext hX)
        have XE := hideit (XD.out.ext hX)
        have YE := hideit (YD.out.ext hX)
        have hEE := hideit (Ext.trans hED.out hX)
        clear hX hED SD KD VD UD XD YD
        have hc1 := convV _ 0 _ we XE.out
        have hc2 := convV _ 0 _ we YE.out
        have hc3 := convV _ 0 _ we CE.out
        have hc4 := convV _ 0 _ we DE.out
        obtain ⟨s1, hs1⟩ : ∃ s1, s1 = bstr 0 (fun j => ((zF j).toNat : Int)) := ⟨_, rfl⟩
        obtain ⟨s2, hs2⟩ : ∃ s2, s2 = s1 := ⟨_, rfl⟩
        rw [← hs1] at hc1 hc2
        rw [← hs1, ← hs2] at hc3 hc4
        clear hs1 hs2
        refine wpList_run rfl (.bool false) (by simp [go_sem]) ?_
        simp only [Act.put, List.setIfInBounds_toArray, List.set_cons_zero, List.set_cons_succ]
        refine wpList_run rfl (.bool false) (by simp [go_sem]) ?_
        simp only [Act.put, List.setIfInBounds_toArray, List.set_cons_zero, List.set_cons_succ]
        refine wpList_runW rfl (.slice none 0 0) (by simp [go_sem]) ?_
        simp only [Act.put, List.setIfInBounds_toArray, List.set_cons_zero, List.set_cons_succ]
        refine wpList_runW rfl (.string s1) (by simp [go_sem, hc1]) ?_
        simp only [Act.put, List.setIfInBounds_toArray, List.set_cons_zero, List.set_cons_succ]
        refine wpList_runW rfl (.slice none 0 0) (by simp [go_sem]) ?_
        simp only [Act.put, List.setIfInBounds_toArray, List.set_cons_zero, List.set_cons_succ]
        refine wpList_runW rfl (.string s1) (by simp [go_sem, hc2]) ?_
        simp only [Act.put, List.setIfInBounds_toArray, List.set_cons_zero, List.set_cons_succ]
        refine wpList_runW rfl (.bool false) (by simp [go_sem]) ?_
        simp only [Act.put, List.setIfInBounds_toArray, List.set_cons_zero, List.set_cons_succ]
        refine wpList_run rfl (.bool false) (by simp [go_sem]) ?_
        simp only [Act.put, List.setIfInBounds_toArray, List.set_cons_zero, List.set_cons_succ]
        refine wpList_run rfl (.bool false) (by simp [go_sem]) ?_
        simp only [Act.put, List.setIfInBounds_toArray, List.set_cons_zero, List.set_cons_succ]
        refine wpList_runW rfl (.int .i64 1) (by simp [go_sem]) ?_
        simp only [Act.put, List.setIfInBounds_toArray, List.set_cons_zero, List.set_cons_succ]
        refine wpList_runW rfl (.int .i64 1) (by simp [go_sem]) ?_
        simp only [Act.put, List.setIfInBounds_toArray, List.set_cons_zero, List.set_cons_succ]
        refine wpList_runW rfl (.bool false) (by simp [go_sem]) ?_
        simp only [Act.put, List.setIfInBounds_toArray, List.set_cons_zero, List.set_cons_succ]
        refine wpList_run rfl (.bool false) (by simp [go_sem]) ?_
        simp only [Act.put, List.setIfInBounds_toArray, List.set_cons_zero, List.set_cons_succ]
        refine wpList_run rfl (.bool false) (by simp [go_sem]) ?_
        simp only [Act.put, List.setIfInBounds_toArray, List.set_cons_zero, List.set_cons_succ]
        refine wpList_runW rfl (.slice none 0 0) (by simp [go_sem]) ?_
        simp only [Act.put, List.setIfInBounds_toArray, List.set_cons_zero, List.set_cons_succ]
        refine wpList_runW rfl (.string s2) (by simp [go_sem, hc3]) ?_
        simp only [Act.put, List.setIfInBounds_toArray, List.set_cons_zero, List.set_cons_succ]
        refine wpList_runW rfl (.slice none 0 0) (by simp [go_sem]) ?_
        simp only [Act.put, List.setIfInBounds_toArray, List.set_cons_zero, List.set_cons_succ]
        refine wpList_runW rfl (.string s2) (by simp [go_sem, hc4]) ?_
        simp only [Act.put, List.setIfInBounds_toArray, List.set_cons_zero, List.set_cons_succ]
        refine wpList_runW rfl (.bool false) (by simp [go_sem]) ?_
        simp only [Act.put, List.setIfInBounds_toArray, List.set_cons_zero, List.set_cons_succ]
        refine wpList_run rfl (.bool false) (by simp [go_sem]) ?_
        simp only [Act.put, List.setIfInBounds_toArray, List.set_cons_zero, List.set_cons_succ]
        refine wpList_run rfl (.bool false) (by simp [go_sem]) ?_
        simp only [Act.put, List.setIfInBounds_toArray, List.set_cons_zero, List.set_cons_succ]
        refine wpList_runW rfl (.int .i64 1) (by simp [go_sem]) ?_
        simp only [Act.put, List.setIfInBounds_toArray, List.set_cons_zero, List.set_cons_succ]
        refine wpList_runW rfl (.int .i64 1) (by simp [go_sem]) ?_
        simp only [Act.put, List.setIfInBounds_toArray, List.set_cons_zero, List.set_cons_succ]
        refine wpList_runW rfl (.bool false) (by simp [go_sem]) ?_
        simp only [Act.put, List.setIfInBounds_toArray, List.set_cons_zero, List.set_cons_succ]
        refine wpList_run rfl (.bool false) (by simp [go_sem]) ?_
        simp only [Act.put, List.setIfInBounds_toArray, List.set_cons_zero, List.set_cons_succ]
        refine wpList_run rfl (.bool false) (by simp [go_sem]) ?_
        simp only [Act.put, List.setIfInBounds_toArray, List.set_cons_zero, List.set_cons_succ]
        refine wpList_ungrd rfl ?_
        refine wpList_load_mid rfl 37 (.tmp 3) rfl s 0 rfl (row 33 (kyv (.slice la n lc) t)) _ SE.out.range Try.underlying37 rfl (by rw [row_length]; exact info37) ?_
        simp only [Act.put, List.setIfInBounds_toArray, List.set_cons_zero, List.set_cons_succ]
        refine wpList_ungrd rfl ?_
        refine wpList_load_mid rfl 37 (.tmp 1) rfl p 0 rfl (row 33 (kyv (.slice ka n kc) t)) _ KE.out.range Try.underlying37 rfl (by rw [row_length]; exact info37) ?_
        simp only [Act.put, List.setIfInBounds_toArray, List.set_cons_zero, List.set_cons_succ]
        refine wpList_callW rfl (by simp [go_sem]; exact ⟨rfl, rfl⟩) ?_
        refine (same_ok _ _ n xs fs fs t t we VE.out UE.out (fun _ _ => rfl) (fun _ _ _ _ => rfl) (by omega)).mono ?_
        rintro e wf ⟨rfl, hX⟩
        refine ⟨_, rfl, ?_⟩
        simp only [Act.put, List.setIfInBounds_toArray, List.set_cons_zero, List.set_cons_succ]
        clear hc1 hc2 hc3 hc4 CE DE
        have SF := hideit (SE.out.carry hX)
        have KF := hideit (KE.out.carry hX)
        have VF := hideit (VE.out.ext hX)
        have UF := hideit (UE.out.ext hX)
        have XF := hideit (XE.out.ext hX)
        have YF := hideit (YE.out.ext hX)
        have hEF := hideit (Ext.trans hEE.out hX)
        clear hX hEE SE KE VE UE XE YE
        refine wpList_runW rfl (.bool false) (by simp [go_sem]) ?_
        simp only [Act.put, List.setIfInBounds_toArray, List.set_cons_zero, List.set_cons_succ]
        refine wpList_run rfl (.bool false) (by simp [go_sem]) ?_
        simp only [Act.put, List.setIfInBounds_toArray, List.set_cons_zero, List.set_cons_succ]
        clear SF KF VF UF XF YF
        go_wp2
        go_ret
        exact ⟨rfl, hEF.out⟩
  · have hX : Ext W2 (W2.alloc (.cells zk37 37)) := (Below.refl _ _).alloc (Nat.le_refl _) _
    have M3 := hideit (heap_mk W2)
    refine wpOp_to rfl rfl (.pointer (some ⟨W2.heap.size, 0, none⟩)) (W2.alloc (.cells zk37 37)) (alloc37 rfl) ⟨Ext.trans hS2 hX, ?_⟩
    simp only [List.getElem_toArray, List.getElem_cons_zero, List.getElem_cons_succ, Act.put, List.setIfInBounds_toArray, List.set_cons_zero, List.set_cons_succ]
    obtain ⟨s, hs⟩ : ∃ s, s = W2.heap.size := ⟨_, rfl⟩
    have hsw : Hid (w1.heap.size ≤ s) := hideit (by rw [hs]; exact Below.size hS2)
    rw [← hs] at M3 ⊢
    clear hs
    have U3 := hideit (U2.out.ext hX)
    have K3 := hideit (K2.out.carry hX)
    have hE3 := hideit (Ext.trans hE2.out hX)
    have hS3 := Ext.trans hS2 hX
    clear hX U2 K2 hE2 hS2
    generalize W2.alloc (.cells zk37 37) = W3 at *
    refine wpAnyH_all (rs := [0]) (by kernel_rfl) (by decide) ?_
    intro i hi
    obtain rfl : i = 0 := by simpa using hi
    have hX : Ext W3 (W3.alloc (.cells #[] 51)) := (Below.refl _ _).alloc (Nat.le_refl _) _
    refine wpOp_to rfl rfl (.slice (some ⟨W3.heap.size, 0, none⟩) 0 0) (W3.alloc (.cells #[] 51)) (by simp [go_sem]) ⟨Ext.trans hS3 hX, ?_⟩
    simp only [List.getElem_toArray, List.getElem_cons_zero, Act.put, List.setIfInBounds_toArray, List.set_cons_zero, List.set_cons_succ]
    obtain ⟨h0, hh0⟩ : ∃ h0, h0 = W3.heap.size := ⟨_, rfl⟩
    rw [← hh0]
    clear hh0
    have U4 := hideit (U3.out.ext hX)
    have K4 := hideit (K3.out.carry hX)
    have hE4 := hideit (Ext.trans hE3.out hX)
    have hS4 := Ext.trans hS3 hX
    have M4 := hideit (M3.out.ext hX)
    clear M3
    clear hX U3 K3 hE3 hS3
    generalize W3.alloc (.cells #[] 51) = W4 at *
    refine wpAnyH_all (rs := [3]) (by kernel_rfl) (by decide) ?_
    intro i hi
    obtain rfl : i = 3 := by simpa using hi
    obtain ⟨u3, X3, hr3, ⟨la, lc, rfl⟩, hV3, hX⟩ := kapp h0 (.slice ka n kc) n xs fs 35 W4 U4.out hz
    refine wpOp_to rfl rfl (.slice la n lc) X3 (exec_append (.tmp 13) (.tmp 15) 35 35 rfl _ _ _ rfl rfl hr3) ⟨Ext.trans hS4 hX, ?_⟩
    simp only [List.getElem_toArray, List.getElem_cons_zero, List.getElem_cons_succ, Act.put, List.setIfInBounds_toArray, List.set_cons_zero, List.set_cons_succ]
    have V5 := hideit hV3
    clear hV3 hr3
    have U5 := hideit (U4.out.ext hX)
    have K5 := hideit (K4.out.carry hX)
    have hE5 := hideit (Ext.trans hE4.out hX)
    have hS5 := Ext.trans hS4 hX
    have M5 := hideit (M4.out.ext hX)
    clear M4
    clear hX U4 K4 hE4 hS4
    refine wpAnyH_all (rs := [6]) (by kernel_rfl) (by decide) ?_
    intro i hi
    obtain rfl : i = 6 := by simpa using hi
    refine wpOp_to rfl rfl (.agg (row 33 (kyv (.slice la n lc) t)).toArray) X3 (exec_build 37 [(0, .tmp 16), (1, .tmp 18)] rfl _ (bl37 _ _ _ _ _)) ⟨hS5, ?_⟩
    simp only [List.getElem_toArray, List.getElem_cons_zero, List.getElem_cons_succ, Act.put, List.setIfInBounds_toArray, List.set_cons_zero, List.set_cons_succ]
    refine wpAnyH_all (rs := [8]) (by kernel_rfl) (by decide) ?_
    intro i hi
    obtain rfl : i = 8 := by simpa using hi
    obtain ⟨m1, m2⟩ := M5.out
    refine wpOp_st rfl rfl (X3.setCells s 0 (row 33 (kyv (.slice la n lc) t))) (exec_store 37 (.tmp 3) (.tmp 19) rfl s 33 _ (kyv (.slice la n lc) t) rfl rfl m1 info37 (kyv_one _ _ _ _)) ⟨below_setCells _ hsw.out _ _ _ hS5, ?_⟩
    simp only [List.getElem_toArray, List.getElem_cons_zero, List.getElem_cons_succ, Act.put]
    have SS := hideit (RowAt.cells (g' := kyv (.slice la n lc) t) m1)
    have VV := hideit (EV.set37 V5.out m2 (row 33 (kyv (.slice la n lc) t)))
    have hSS : Hid (Ext w1 (X3.setCells s 0 (row 33 (kyv (.slice la n lc) t)))) := hideit (below_setCells _ hsw.out _ _ _ hS5)
    have S9 := SS
    have V9 := VV
    have K9 := hideit (K1.out.carry hSS.out)
    have U9 := hideit (U1.out.ext hSS.out)
    have hE9 := hideit (Ext.trans hE1.out hSS.out)
    clear m1 m2 M5 V5 K5 U5 hE5 hS5 SS VV hSS
    generalize X3.setCells s 0 (row 33 (kyv (.slice la n lc) t)) = w9 at *
    refine ⟨by kernel_rfl, ?_⟩
    clear K1 U1 hE1
    go_upto_region 2 with (fail)
    refine wp_region_lit ?_
    refine wpList_load_mid rfl 37 (.tmp 3) rfl s 0 rfl (row 33 (kyv (.slice la n lc) t)) _ S9.out.range Try.underlying37 rfl (by rw [row_length]; exact info37) ?_
    simp only [Act.put, List.setIfInBounds_toArray, List.set_cons_zero, List.set_cons_succ]
    by_cases hb : okE n xs
    · refine wpList_call rfl (by simp [go_sem]; exact ⟨rfl, rfl⟩) ?_
      refine (keys_ok _ n xs fs t w9 V9.out hin.out hb).mono ?_
      rintro e wa ⟨x, rfl, hg, hR, hX⟩
      refine ⟨_, rfl, ?_⟩
      simp only [Act.put, List.setIfInBounds_toArray, List.set_cons_zero, List.set_cons_succ]
      have XA : Hid (BV (.slice (some ⟨x, 0, none⟩) 512 512) 512 (keB n xs fs t) wa) := hideit (.inr ⟨_, _, rfl, Nat.le_refl _, hR.lie 512 (Nat.le_refl _)⟩)
      clear hg hR
      have SA := hideit (S9.out.carry hX)
      have KA := hideit (K9.out.carry hX)
      have VA := hideit (V9.out.ext hX)
      have UA := hideit (U9.out.ext hX)
      have hEA := hideit (Ext.trans hE9.out hX)
      clear hX hE9 S9 K9 V9 U9
      go_upto_region 3 with (fail)
      refine wp_region_lit ?_
      refine wpList_load_mid rfl 37 (.tmp 1) rfl p 0 rfl (row 33 (kyv (.slice ka n kc) t)) _ KA.out.range Try.underlying37 rfl (by rw [row_length]; exact info37) ?_
      simp only [Act.put, List.setIfInBounds_toArray, List.set_cons_zero, List.set_cons_succ]
      refine wpList_call rfl (by simp [go_sem]; exact ⟨rfl, rfl⟩) ?_
      refine (rkeys_ok _ n xs fs t wa UA.out hin.out hb).mono ?_
      rintro e wb ⟨y, rfl, hY, hX⟩
      refine ⟨_, rfl, ?_⟩
      simp only [Act.put, List.setIfInBounds_toArray, List.set_cons_zero, List.set_cons_succ]
      obtain ⟨ya, yc, rfl⟩ := hY.form
      have YB := hideit hY
      clear hY
      have SB := hideit (SA.out.carry hX)
      have KB := hideit (KA.out.carry hX)
      have VB := hideit (VA.out.ext hX)
      have UB := hideit (UA.out.ext hX)
      have XB := hideit (XA.out.ext hX)
      have hEB := hideit (Ext.trans hEA.out hX)
      clear hX hEA SA KA VA UA XA
      go_upto_region 4 with (fail)
      refine wp_region_lit ?_
      refine wpList_load_mid rfl 37 (.tmp 3) rfl s 0 rfl (row 33 (kyv (.slice la n lc) t)) _ SB.out.range Try.underlying37 rfl (by rw [row_length]; exact info37) ?_
      simp only [Act.put, List.setIfInBounds_toArray, List.set_cons_zero, List.set_cons_succ]
      refine wpList_call rfl (by simp [go_sem]; exact ⟨rfl, rfl⟩) ?_
      refine (seal_ok _ n xs fs t wb VB.out hin.out hb).mono ?_
      rintro e wc ⟨c9, rfl, hg, hR, hX⟩
      refine ⟨_, rfl, ?_⟩
      simp only [Act.put, List.setIfInBounds_toArray, List.set_cons_zero, List.set_cons_succ]
      have CC : Hid (BV (.slice (some ⟨c9, 0, none⟩) (5 + 68 * n) (5 + 68 * n)) (5 + 68 * n) (seF n xs fs) wc) := hideit (.inr ⟨_, _, rfl, Nat.le_refl _, hR.lie (5 + 68 * n) (Nat.le_refl _)⟩)
      clear hg hR
      have SC := hideit (SB.out.carry hX)
      have KC := hideit (KB.out.carry hX)
      have VC := hideit (VB.out.ext hX)
      have UC := hideit (UB.out.ext hX)
      have XC := hideit (XB.out.ext hX)
      have YC := hideit (YB.out.ext hX)
      have hEC := hideit (Ext.trans hEB.out hX)
      clear hX hEB SB KB VB UB XB YB
      go_upto_region 5 with (fail)
      refine wp_region_lit ?_
      refine wpList_load_mid rfl 37 (.tmp 1) rfl p 0 rfl (row 33 (kyv (.slice ka n kc) t)) _ KC.out.range Try.underlying37 rfl (by rw [row_length]; exact info37) ?_
      simp only [Act.put, List.setIfInBounds_toArray, List.set_cons_zero, List.set_cons_succ]
      refine wpList_call rfl (by simp [go_sem]; exact ⟨rfl, rfl⟩) ?_
      refine (rseal_ok _ n xs fs t wc UC.out hin.out hb).mono ?_
      rintro e wd ⟨d9, rfl, hO, hX⟩
      refine ⟨_, rfl, ?_⟩
      simp only [Act.put, List.setIfInBounds_toArray, List.set_cons_zero, List.set_cons_succ]
      obtain ⟨da, dc, rfl⟩ := hO.bv.form
      have DD := hideit hO.bv
      clear hO
      have CD := hideit (CC.out.ext hX)
      clear CC
      have SD := hideit (SC.out.carry hX)
      have KD := hideit (KC.out.carry hX)
      have VD := hideit (VC.out.ext hX)
      have UD := hideit (UC.out.ext hX)
      have XD := hideit (XC.out.ext hX)
      have YD := hideit (YC.out.ext hX)
      have hED := hideit (Ext.trans hEC.out hX)
      clear hX hEC SC KC VC UC XC YC
      go_upto_region 6 with (fail)
      refine wp_region_lit ?_
      refine wpList_call rfl (by simp [go_sem]; exact ⟨rfl, rfl⟩) ?_
      refine (lives_any wd).mono ?_
      rintro e we ⟨rfl, hX⟩
      refine ⟨_, rfl, ?_⟩
      simp only [Act.put, List.setIfInBounds_toArray, List.set_cons_zero, List.set_cons_succ]
      have CE := hideit (CD.out.ext hX)
      have DE := hideit (DD.out.ext hX)
      clear CD DD
      have SE := hideit (SD.out.carry hX)
      have KE := hideit (KD.out.carry hX)
      have VE := hideit (VD.out.ext hX)
      have UE := hideit (UD.out.ext hX)
      have XE := hideit (XD.out.ext hX)
      have YE := hideit (YD.out.ext hX)
      have hEE := hideit (Ext.trans hED.out hX)
      clear hX hED SD KD VD UD XD YD
      have hc1 := convV _ 512 _ we XE.out
      have hc2 := convV _ 512 _ we YE.out
      have hc3 := convV _ (5 + 68 * n) _ we CE.out
      have hc4 := convV _ (5 + 68 * n) _ we DE.out
      obtain ⟨s1, hs1⟩ : ∃ s1, s1 = bstr 512 (fun j => ((keB n xs fs t j).toNat : Int)) := ⟨_, rfl⟩
      obtain ⟨s2, hs2⟩ : ∃ s2, s2 = bstr (5 + 68 * n) (fun j => ((seF n xs fs j).toNat : Int)) := ⟨_, rfl⟩
      rw [← hs1] at hc1 hc2
      rw [← hs2] at hc3 hc4
      clear hs1 hs2
      refine wpList_run rfl (.bool false) (by simp [go_sem]) ?_
      simp only [Act.put, List.setIfInBounds_toArray, List.set_cons_zero, List.set_cons_succ]
      refine wpList_run rfl (.bool false) (by simp [go_sem]) ?_
      simp only [Act.put, List.setIfInBounds_toArray, List.set_cons_zero, List.set_cons_succ]
      refine wpList_runW rfl (.slice (some ⟨x, 0, none⟩) 512 512) (by simp [go_sem]) ?_
      simp only [Act.put, List.setIfInBounds_toArray, List.set_cons_zero, List.set_cons_succ]
      refine wpList_runW rfl (.string s1) (by simp [go_sem, hc1]) ?_
      simp only [Act.put, List.setIfInBounds_toArray, List.set_cons_zero, List.set_cons_succ]
      refine wpList_runW rfl (.slice ya 512 yc) (by simp [go_sem]) ?_
      simp only [Act.put, List.setIfInBounds_toArray, List.set_cons_zero, List.set_cons_succ]
      refine wpList_runW rfl (.string s1) (by simp [go_sem, hc2]) ?_
      simp only [Act.put, List.setIfInBounds_toArray, List.set_cons_zero, List.set_cons_succ]
      refine wpList_runW rfl (.bool false) (by simp [go_sem]) ?_
      simp only [Act.put, List.setIfInBounds_toArray, List.set_cons_zero, List.set_cons_succ]
      refine wpList_run rfl (.bool false) (by simp [go_sem]) ?_
      simp only [Act.put, List.setIfInBounds_toArray, List.set_cons_zero, List.set_cons_succ]
      refine wpList_run rfl (.bool false) (by simp [go_sem]) ?_
      simp only [Act.put, List.setIfInBounds_toArray, List.set_cons_zero, List.set_cons_succ]
      refine wpList_runW rfl (.int .i64 0) (by simp [go_sem]) ?_
      simp only [Act.put, List.setIfInBounds_toArray, List.set_cons_zero, List.set_cons_succ]
      refine wpList_runW rfl (.int .i64 0) (by simp [go_sem]) ?_
      simp only [Act.put, List.setIfInBounds_toArray, List.set_cons_zero, List.set_cons_succ]
      refine wpList_runW rfl (.bool false) (by simp [go_sem]) ?_
      simp only [Act.put, List.setIfInBounds_toArray, List.set_cons_zero, List.set_cons_succ]
      refine wpList_run rfl (.bool false) (by simp [go_sem]) ?_
      simp only [Act.put, List.setIfInBounds_toArray, List.set_cons_zero, List.set_cons_succ]
      refine wpList_run rfl (.bool false) (by simp [go_sem]) ?_
      simp only [Act.put, List.setIfInBounds_toArray, List.set_cons_zero, List.set_cons_succ]
      refine wpList_runW rfl (.slice (some ⟨c9, 0, none⟩) (5 + 68 * n) (5 + 68 * n)) (by simp [go_sem]) ?_
      simp only [Act.put, List.setIfInBounds_toArray, List.set_cons_zero, List.set_cons_succ]
      refine wpList_runW rfl (.string s2) (by simp [go_sem, hc3]) ?_
      simp only [Act.put, List.setIfInBounds_toArray, List.set_cons_zero, List.set_cons_succ]
      refine wpList_runW rfl (.slice da (5 + 68 * n) dc) (by simp [go_sem]) ?_
      simp only [Act.put, List.setIfInBounds_toArray, List.set_cons_zero, List.set_cons_succ]
      refine wpList_runW rfl (.string s2) (by simp [go_sem, hc4]) ?_
      simp only [Act.put, List.setIfInBounds_toArray, List.set_cons_zero, List.set_cons_succ]
      refine wpList_runW rfl (.bool false) (by simp [go_sem]) ?_
      simp only [Act.put, List.setIfInBounds_toArray, List.set_cons_zero, List.set_cons_succ]
      refine wpList_run rfl (.bool false) (by simp [go_sem]) ?_
      simp only [Act.put, List.setIfInBounds_toArray, List.set_cons_zero, List.set_cons_succ]
      refine wpList_run rfl (.bool false) (by simp [go_sem]) ?_
      simp only [Act.put, List.setIfInBounds_toArray, List.set_cons_zero, List.set_cons_succ]
      refine wpList_runW rfl (.int .i64 0) (by simp [go_sem]) ?_
      simp only [Act.put, List.setIfInBounds_toArray, List.set_cons_zero, List.set_cons_succ]
      refine wpList_runW rfl (.int .i64 0) (by simp [go_sem]) ?_
      simp only [Act.put, List.setIfInBounds_toArray, List.set_cons_zero, List.set_cons_succ]
      refine wpList_runW rfl (.bool false) (by simp [go_sem]) ?_
      simp only [Act.put, List.setIfInBounds_toArray, List.set_cons_zero, List.set_cons_succ]
      refine wpList_run rfl (.bool false) (by simp [go_sem]) ?_
      simp only [Act.put, List.setIfInBounds_toArray, List.set_cons_zero, List.set_cons_succ]
      refine wpList_run rfl (.bool false) (by simp [go_sem]) ?_
      simp only [Act.put, List.setIfInBounds_toArray, List.set_cons_zero, List.set_cons_succ]
      refine wpList_ungrd rfl ?_
      refine wpList_load_mid rfl 37 (.tmp 3) rfl s 0 rfl (row 33 (kyv (.slice la n lc) t)) _ SE.out.range Try.underlying37 rfl (by rw [row_length]; exact info37) ?_
      simp only [Act.put, List.setIfInBounds_toArray, List.set_cons_zero, List.set_cons_succ]
      refine wpList_ungrd rfl ?_
      refine wpList_load_mid rfl 37 (.tmp 1) rfl p 0 rfl (row 33 (kyv (.slice ka n kc) t)) _ KE.out.range Try.underlying37 rfl (by rw [row_length]; exact info37) ?_
      simp only [Act.put, List.setIfInBounds_toArray, List.set_cons_zero, List.set_cons_succ]
      refine wpList_callW rfl (by simp [go_sem]; exact ⟨rfl, rfl⟩) ?_
      refine (same_ok _ _ n xs fs fs t t we VE.out UE.out (fun _ _ => rfl) (fun _ _ _ _ => rfl) (by omega)).mono ?_
      rintro e wf ⟨rfl, hX⟩
      refine ⟨_, rfl, ?_⟩
      simp only [Act.put, List.setIfInBounds_toArray, List.set_cons_zero, List.set_cons_succ]
      clear hc1 hc2 hc3 hc4 CE DE
      have SF := hideit (SE.out.carry hX)
      have KF := hideit (KE.out.carry hX)
      have VF := hideit (VE.out.ext hX)
      have UF := hideit (UE.out.ext hX)
      have XF := hideit (XE.out.ext hX)
      have YF := hideit (YE.out.ext hX)
      have hEF := hideit (Ext.trans hEE.out hX)
      clear hX hEE SE KE VE UE XE YE
      refine wpList_runW rfl (.bool false) (by simp [go_sem]) ?_
      simp only [Act.put, List.setIfInBounds_toArray, List.set_cons_zero, List.set_cons_succ]
      refine wpList_run rfl (.bool false) (by simp [go_sem]) ?_
      simp only [Act.put, List.setIfInBounds_toArray, List.set_cons_zero, List.set_cons_succ]
      go_upto_region 10 with (fail)
      refine wp_region_lit ?_
      refine wpList_run rfl (.slice (some ⟨x, 0, none⟩) 512 512) (by simp [go_sem]) ?_
      simp only [Act.put, List.setIfInBounds_toArray, List.set_cons_zero, List.set_cons_succ]
      refine wpList_call rfl (by simp [go_sem]; exact ⟨rfl, rfl⟩) ?_
      refine (kdec_back _ n xs fs t wf XF.out hb).mono ?_
      rintro e wg ⟨u5, t5, rfl, hU5, ht5, hX⟩
      refine ⟨_, rfl, ?_⟩
      simp only [Act.put, List.setIfInBounds_toArray, List.set_cons_zero, List.set_cons_succ]
      obtain ⟨oa5, oc5, rfl⟩ := hU5.form
      have OG := hideit hU5
      have ht5' := hideit ht5
      clear hU5 ht5
      have SG := hideit (SF.out.carry hX)
      have KG := hideit (KF.out.carry hX)
      have VG := hideit (VF.out.ext hX)
      have UG := hideit (UF.out.ext hX)
      have XG := hideit (XF.out.ext hX)
      have YG := hideit (YF.out.ext hX)
      have hEG := hideit (Ext.trans hEF.out hX)
      clear hX hEF SF KF VF UF XF YF
      refine wpList_run rfl (.tuple #[.agg (row 33 (kyv (.slice oa5 n oc5) t5)).toArray, .int .i64 0]) (by simp [go_sem]) ?_
      simp only [Act.put, List.setIfInBounds_toArray, List.set_cons_zero, List.set_cons_succ]
      refine wpList_run rfl (.agg (row 33 (kyv (.slice oa5 n oc5) t5)).toArray) (by simp [go_sem]) ?_
      simp only [Act.put, List.setIfInBounds_toArray, List.set_cons_zero, List.set_cons_succ]
      refine wpList_run rfl (.int .i64 0) (by simp [go_sem]) ?_
      simp only [Act.put, List.setIfInBounds_toArray, List.set_cons_zero, List.set_cons_succ]
      obtain ⟨H1, hA1, H2, hA2⟩ := made37 wg (.slice oa5 n oc5) t5
      obtain ⟨r, hs⟩ : ∃ r, r = wg.heap.size := ⟨_, rfl⟩
      rw [← hs] at H1 H2 hA2
      refine wpList_to rfl (.pointer (some ⟨r, 0, none⟩)) (wg.alloc (.cells zk37 37)) (by rw [hs]; exact alloc37 rfl) ?_
      simp only [Act.put, List.setIfInBounds_toArray, List.set_cons_zero, List.set_cons_succ]
      refine wpList_store_mid rfl 37 (.tmp 12) (.tmp 77) rfl r 0 (row 33 (kyv (.slice oa5 n oc5) t5)).toArray rfl rfl (by rw [row_size]; exact H1.there) (by rw [row_size]; exact info37) (row_one (kyv_one _ _ _ _)) ?_
      rw [show (row 33 (kyv (.slice oa5 n oc5) t5)).toArray.toList = row 33 (kyv (.slice oa5 n oc5) t5) from rfl]
      have RH := hideit H2
      have OH := hideit (OG.out.ext hA2)
      have KH := hideit (KG.out.carry hA2)
      have UH := hideit (UG.out.ext hA2)
      have hEH := hideit (Ext.trans hEG.out hA2)
      clear SG KG VG UG XG YG hEG OG
      clear H1 hA1 H2 hA2 hs
      generalize (wg.alloc (.cells zk37 37)).setCells r 0 (row 33 (kyv (.slice oa5 n oc5) t5)) = wh at *
      simp only [Act.put]
      go_upto_region 11 with (fail)
      refine wp_region_lit ?_
      refine wpList_run rfl (.int .i64 0) (by simp [go_sem]) ?_
      simp only [Act.put, List.setIfInBounds_toArray, List.set_cons_zero, List.set_cons_succ]
      refine wpList_run rfl (.bool true) (by simp [go_sem]) ?_
      simp only [Act.put, List.setIfInBounds_toArray, List.set_cons_zero, List.set_cons_succ]
      refine wpList_run rfl (.bool true) (by simp [go_sem]) ?_
      simp only [Act.put, List.setIfInBounds_toArray, List.set_cons_zero, List.set_cons_succ]
      refine wpList_ungrd rfl ?_
      refine wpList_load_mid rfl 37 (.tmp 12) rfl r 0 rfl (row 33 (kyv (.slice oa5 n oc5) t5)) _ RH.out.range Try.underlying37 rfl (by rw [row_length]; exact info37) ?_
      simp only [Act.put, List.setIfInBounds_toArray, List.set_cons_zero, List.set_cons_succ]
      refine wpList_ungrd rfl ?_
      refine wpList_load_mid rfl 37 (.tmp 1) rfl p 0 rfl (row 33 (kyv (.slice ka n kc) t)) _ KH.out.range Try.underlying37 rfl (by rw [row_length]; exact info37) ?_
      simp only [Act.put, List.setIfInBounds_toArray, List.set_cons_zero, List.set_cons_succ]
      refine wpList_callW rfl (by simp [go_sem]; exact ⟨rfl, rfl⟩) ?_
      refine (same_ok _ _ n xs fs fs t5 t wh OH.out UH.out ht5'.out (fun _ _ _ _ => rfl) (by omega)).mono ?_
      rintro e wi ⟨rfl, hX⟩
      refine ⟨_, rfl, ?_⟩
      simp only [Act.put, List.setIfInBounds_toArray, List.set_cons_zero, List.set_cons_succ]
      have hEI := hideit (Ext.trans hEH.out hX)
      clear RH OH KH UH hEH hX
      refine wpList_run rfl (.bool true) (by simp [go_sem]) ?_
      simp only [Act.put, List.setIfInBounds_toArray, List.set_cons_zero, List.set_cons_succ]
      go_wp2
      go_ret
      exact ⟨rfl, hEI.out⟩
    · refine wpList_call rfl (by simp [go_sem]; exact ⟨rfl, rfl⟩) ?_
      refine (keys_bad _ n xs fs t w9 V9.out hin.out hb).mono ?_
      rintro e wa ⟨rfl, hX⟩
      refine ⟨_, rfl, ?_⟩
      simp only [Act.put, List.setIfInBounds_toArray, List.set_cons_zero, List.set_cons_succ]
      have XA : Hid (BV (.slice none 0 0) 0 zF wa) := hideit (.inl ⟨rfl, rfl⟩)
      have SA := hideit (S9.out.carry hX)
      have KA := hideit (K9.out.carry hX)
      have VA := hideit (V9.out.ext hX)
      have UA := hideit (U9.out.ext hX)
      have hEA := hideit (Ext.trans hE9.out hX)
      clear hX hE9 S9 K9 V9 U9
      go_upto_region 3 with (fail)
      refine wp_region_lit ?_
      refine wpList_load_mid rfl 37 (.tmp 1) rfl p 0 rfl (row 33 (kyv (.slice ka n kc) t)) _ KA.out.range Try.underlying37 rfl (by rw [row_length]; exact info37) ?_
      simp only [Act.put, List.setIfInBounds_toArray, List.set_cons_zero, List.set_cons_succ]
      refine wpList_call rfl (by simp [go_sem]; exact ⟨rfl, rfl⟩) ?_
      refine (rkeys_bad _ n xs fs t wa UA.out hin.out (by omega) hb).mono ?_
      rintro e wb ⟨rfl, hX⟩
      refine ⟨_, rfl, ?_⟩
      simp only [Act.put, List.setIfInBounds_toArray, List.set_cons_zero, List.set_cons_succ]
      have YB : Hid (BV (.slice none 0 0) 0 zF wb) := hideit (.inl ⟨rfl, rfl⟩)
      have SB := hideit (SA.out.carry hX)
      have KB := hideit (KA.out.carry hX)
      have VB := hideit (VA.out.ext hX)
      have UB := hideit (UA.out.ext hX)
      have XB := hideit (XA.out.ext hX)
      have hEB := hideit (Ext.trans hEA.out hX)
      clear hX hEA SA KA VA UA XA
      go_upto_region 4 with (fail)
      refine wp_region_lit ?_
      refine wpList_load_mid rfl 37 (.tmp 3) rfl s 0 rfl (row 33 (kyv (.slice la n lc) t)) _ SB.out.range Try.underlying37 rfl (by rw [row_length]; exact info37) ?_
      simp only [Act.put, List.setIfInBounds_toArray, List.set_cons_zero, List.set_cons_succ]
      refine wpList_call rfl (by simp [go_sem]; exact ⟨rfl, rfl⟩) ?_
      refine (seal_bad _ n xs fs t wb VB.out hin.out hb).mono ?_
      rintro e wc ⟨rfl, hX⟩
      refine ⟨_, rfl, ?_⟩
      simp only [Act.put, List.setIfInBounds_toArray, List.set_cons_zero, List.set_cons_succ]
      have CC : Hid (BV (.slice none 0 0) 0 zF wc) := hideit (.inl ⟨rfl, rfl⟩)
      have SC := hideit (SB.out.carry hX)
      have KC := hideit (KB.out.carry hX)
      have VC := hideit (VB.out.ext hX)
      have UC := hideit (UB.out.ext hX)
      have XC := hideit (XB.out.ext hX)
      have YC := hideit (YB.out.ext hX)
      have hEC := hideit (Ext.trans hEB.out hX)
      clear hX hEB SB KB VB UB XB YB
      go_upto_region 5 with (fail)
      refine wp_region_lit ?_
      refine wpList_load_mid rfl 37 (.tmp 1) rfl p 0 rfl (row 33 (kyv (.slice ka n kc) t)) _ KC.out.range Try.underlying37 rfl (by rw [row_length]; exact info37) ?_
      simp only [Act.put, List.setIfInBounds_toArray, List.set_cons_zero, List.set_cons_succ]
      refine wpList_call rfl (by simp [go_sem]; exact ⟨rfl, rfl⟩) ?_
      refine (rseal_bad _ n xs fs t wc UC.out hin.out (by omega) hb).mono ?_
      rintro e wd ⟨rfl, hX⟩
      refine ⟨_, rfl, ?_⟩
      simp only [Act.put, List.setIfInBounds_toArray, List.set_cons_zero, List.set_cons_succ]
      have DD : Hid (BV (.slice none 0 0) 0 zF wd) := hideit (.inl ⟨rfl, rfl⟩)
      have CD := hideit (CC.out.ext hX)
      clear CC
      have SD := hideit (SC.out.carry hX)
      have KD := hideit (KC.out.carry hX)
      have VD := hideit (VC.out.ext hX)
      have UD := hideit (UC.out.ext hX)
      have XD := hideit (XC.out.ext hX)
      have YD := hideit (YC.out.ext hX)
      have hED := hideit (Ext.trans hEC.out hX)
      clear hX hEC SC KC VC UC XC YC
      go_upto_region 6 with (fail)
      refine wp_region_lit ?_
      refine wpList_call rfl (by simp [go_sem]; exact ⟨rfl, rfl⟩) ?_
      refine (lives_any wd).mono ?_
      rintro e we ⟨rfl, hX⟩
      refine ⟨_, rfl, ?_⟩
      simp only [Act.put, List.setIfInBounds_toArray, List.set_cons_zero, List.set_cons_succ]
      have CE := hideit (CD.out.ext hX)
      have DE := hideit (DD.out.ext hX)
      clear CD DD
      have SE := hideit (SD.out.carry hX)
      have KE := hideit (KD.out.carry hX)
      have VE := hideit (VD.out.ext hX)
      have UE := hideit (UD.out.ext hX)
      have XE := hideit (XD.out.ext hX)
      have YE := hideit (YD.out.ext hX)
      have hEE := hideit (Ext.trans hED.out hX)
      clear hX hED SD KD VD UD XD YD
      have hc1 := convV _ 0 _ we XE.out
      have hc2 := convV _ 0 _ we YE.out
      have hc3 := convV _ 0 _ we CE.out
      have hc4 := convV _ 0 _ we DE.out
      obtain ⟨s1, hs1⟩ : ∃ s1, s1 = bstr 0 (fun j => ((zF j).toNat : Int)) := ⟨_, rfl⟩
      obtain ⟨s2, hs2⟩ : ∃ s2, s2 = s1 := ⟨_, rfl⟩
      rw [← hs1] at hc1 hc2
      rw [← hs1, ← hs2] at hc3 hc4
      clear hs1 hs2
      refine wpList_run rfl (.bool false) (by simp [go_sem]) ?_
      simp only [Act.put, List.setIfInBounds_toArray, List.set_cons_zero, List.set_cons_succ]
      refine wpList_run rfl (.bool false) (by simp [go_sem]) ?_
      simp only [Act.put, List.setIfInBounds_toArray, List.set_cons_zero, List.set_cons_succ]
      refine wpList_runW rfl (.slice none 0 0) (by simp [go_sem]) ?_
      simp only [Act.put, List.setIfInBounds_toArray, List.set_cons_zero, List.set_cons_succ]
      refine wpList_runW rfl (.string s1) (by simp [go_sem, hc1]) ?_
      simp only [Act.put, List.setIfInBounds_toArray, List.set_cons_zero, List.set_cons_succ]
      refine wpList_runW rfl (.slice none 0 0) (by simp [go_sem]) ?_
      simp only [Act.put, List.setIfInBounds_toArray, List.set_cons_zero, List.set_cons_succ]
      refine wpList_runW rfl (.string s1) (by simp [go_sem, hc2]) ?_
      simp only [Act.put, List.setIfInBounds_toArray, List.set_cons_zero, List.set_cons_succ]
      refine wpList_runW rfl (.bool false) (by simp [go_sem]) ?_
      simp only [Act.put, List.setIfInBounds_toArray, List.set_cons_zero, List.set_cons_succ]
      refine wpList_run rfl (.bool false) (by simp [go_sem]) ?_
      simp only [Act.put, List.setIfInBounds_toArray, List.set_cons_zero, List.set_cons_succ]
      refine wpList_run rfl (.bool false) (by simp [go_sem]) ?_
      simp only [Act.put, List.setIfInBounds_toArray, List.set_cons_zero, List.set_cons_succ]
      refine wpList_runW rfl (.int .i64 1) (by simp [go_sem]) ?_
      simp only [Act.put, List.setIfInBounds_toArray, List.set_cons_zero, List.set_cons_succ]
      refine wpList_runW rfl (.int .i64 1) (by simp [go_sem]) ?_
      simp only [Act.put, List.setIfInBounds_toArray, List.set_cons_zero, List.set_cons_succ]
      refine wpList_runW rfl (.bool false) (by simp [go_sem]) ?_
      simp only [Act.put, List.setIfInBounds_toArray, List.set_cons_zero, List.set_cons_succ]
      refine wpList_run rfl (.bool false) (by simp [go_sem]) ?_
      simp only [Act.put, List.setIfInBounds_toArray, List.set_cons_zero, List.set_cons_succ]
      refine wpList_run rfl (.bool false) (by simp [go_sem]) ?_
      simp only [Act.put, List.setIfInBounds_toArray, List.set_cons_zero, List.set_cons_succ]
      refine wpList_runW rfl (.slice none 0 0) (by simp [go_sem]) ?_
      simp only [Act.put, List.setIfInBounds_toArray, List.set_cons_zero, List.set_cons_succ]
      refine wpList_runW rfl (.string s2) (by simp [go_sem, hc3]) ?_
      simp only [Act.put, List.setIfInBounds_toArray, List.set_cons_zero, List.set_cons_succ]
      refine wpList_runW rfl (.slice none 0 0) (by simp [go_sem]) ?_
      simp only [Act.put, List.setIfInBounds_toArray, List.set_cons_zero, List.set_cons_succ]
      refine wpList_runW rfl (.string s2) (by simp [go_sem, hc4]) ?_
      simp only [Act.put, List.setIfInBounds_toArray, List.set_cons_zero, List.set_cons_succ]
      refine wpList_runW rfl (.bool false) (by simp [go_sem]) ?_
      simp only [Act.put, List.setIfInBounds_toArray, List.set_cons_zero, List.set_cons_succ]
      refine wpList_run rfl (.bool false) (by simp [go_sem]) ?_
      simp only [Act.put, List.setIfInBounds_toArray, List.set_cons_zero, List.set_cons_succ]
      refine wpList_run rfl (.bool false) (by simp [go_sem]) ?_
      simp only [Act.put, List.setIfInBounds_toArray, List.set_cons_zero, List.set_cons_succ]
      refine wpList_runW rfl (.int .i64 1) (by simp [go_sem]) ?_
      simp only [Act.put, List.setIfInBounds_toArray, List.set_cons_zero, List.set_cons_succ]
      refine wpList_runW rfl (.int .i64 1) (by simp [go_sem]) ?_
      simp only [Act.put, List.setIfInBounds_toArray, List.set_cons_zero, List.set_cons_succ]
      refine wpList_runW rfl (.bool false) (by simp [go_sem]) ?_
      simp only [Act.put, List.setIfInBounds_toArray, List.set_cons_zero, List.set_cons_succ]
      refine wpList_run rfl (.bool false) (by simp [go_sem]) ?_
      simp only [Act.put, List.setIfInBounds_toArray, List.set_cons_zero, List.set_cons_succ]
      refine wpList_run rfl (.bool false) (by simp [go_sem]) ?_
      simp only [Act.put, List.setIfInBounds_toArray, List.set_cons_zero, List.set_cons_succ]
      refine wpList_ungrd rfl ?_
      refine wpList_load_mid rfl 37 (.tmp 3) rfl s 0 rfl (row 33 (kyv (.slice la n lc) t)) _ SE.out.range Try.underlying37 rfl (by rw [row_length]; exact info37) ?_
      simp only [Act.put, List.setIfInBounds_toArray, List.set_cons_zero, List.set_cons_succ]
      refine wpList_ungrd rfl ?_
      refine wpList_load_mid rfl 37 (.tmp 1) rfl p 0 rfl (row 33 (kyv (.slice ka n kc) t)) _ KE.out.range Try.underlying37 rfl (by rw [row_length]; exact info37) ?_
      simp only [Act.put, List.setIfInBounds_toArray, List.set_cons_zero, List.set_cons_succ]
      refine wpList_callW rfl (by simp [go_sem]; exact ⟨rfl, rfl⟩) ?_
      refine (same_ok _ _ n xs fs fs t t we VE.out UE.out (fun _ _ => rfl) (fun _ _ _ _ => rfl) (by omega)).mono ?_
      rintro e wf ⟨rfl, hX⟩
      refine ⟨_, rfl, ?_⟩
      simp only [Act.put, List.setIfInBounds_toArray, List.set_cons_zero, List.set_cons_succ]
      clear hc1 hc2 hc3 hc4 CE DE
      have SF := hideit (SE.out.carry hX)
      have KF := hideit (KE.out.carry hX)
      have VF := hideit (VE.out.ext hX)
      have UF := hideit (UE.out.ext hX)
      have XF := hideit (XE.out.ext hX)
      have YF := hideit (YE.out.ext hX)
      have hEF := hideit (Ext.trans hEE.out hX)
      clear hX hEE SE KE VE UE XE YE
      refine wpList_runW rfl (.bool false) (by simp [go_sem]) ?_
      simp only [Act.put, List.setIfInBounds_toArray, List.set_cons_zero, List.set_cons_succ]
      refine wpList_run rfl (.bool false) (by simp [go_sem]) ?_
      simp only [Act.put, List.setIfInBounds_toArray, List.set_cons_zero, List.set_cons_succ]
      clear SF KF VF UF XF YF
      go_wp2
      go_ret
      exact ⟨rfl, hEF.out⟩

set_option maxRecDepth 100000 in
theorem lifted (os : Os) (started : os.Started) (H : Type) (enc : TypeId × Value → H) :
    ReturnsInHanded {} Try.checked os 5 .any (Rows.slotKeysSpec.pre6 enc Try.prog Try.f5 Rows.slotKeysRow.domain false) (Rows.slotKeysSpec.post enc Try.prog Try.f5 false true false false) := by
  refine returnsInHanded_of_change_sized (C := Try.checked) own started (by kernel_rfl) Try.func5
    (ChangeSpec.witness6 (enc := enc) (C := Try.checked) false ⟨#[], #[.agg #[.slice none 0 0, .int .u8 0, .int .u8 0, .int .u8 0, .int .u8 0, .int .u8 0, .int .u8 0, .int .u8 0, .int .u8 0, .int .u8 0, .int .u8 0, .int .u8 0, .int .u8 0, .int .u8 0, .int .u8 0, .int .u8 0, .int .u8 0, .int .u8 0, .int .u8 0, .int .u8 0, .int .u8 0, .int .u8 0, .int .u8 0, .int .u8 0, .int .u8 0, .int .u8 0, .int .u8 0, .int .u8 0, .int .u8 0, .int .u8 0, .int .u8 0, .int .u8 0, .int .u8 0]], []⟩ 8 (by kernel_rfl) (by kernel_rfl) (by kernel_rfl) (by kernel_rfl)) ?_
  intro W base args ds gs before hval0 hW hcnd hsz0 _
  have hsz := hsz0
  have hval : ∀ (j : Nat) t v, Try.f5.params[j]? = some t → args[j]? = some v → Value.okWide Try.prog W .any base t v := hval0
  have hW' := hW
  obtain ⟨p, q, hA0, hV, rfl, hfz, hnd⟩ := hW
  have hA : DataW.TrodAll enc Try.prog W 0 (fun _ => true) true Try.f5.params.toList args.toList ds p := hA0
  rw [Try.params5] at hA hval hsz
  obtain ⟨v0, vs0, d0, ds0, p0, q0, hargs, rfl, rfl, h0, r0⟩ := trodAll_cons hA
  obtain ⟨rfl, rfl, rfl⟩ := trodAll_nil r0
  obtain rfl : args = #[v0] := by cases args; simp_all
  obtain ⟨rfl, rfl⟩ := trodVars_none hV
  have k0 := h0
  have lt0 : ∀ x ∈ p0, x.block < W.heap.size := by obtain ⟨m, hm⟩ := k0; exact DataW.trod_lt m _ _ _ hm
  have B0 := open_keysZ (hval 0 37 v0 rfl rfl) h0 hsz 0 rfl rfl
  clear hA0 hval0
  refine (walk v0 W  B0).mono fun e W' ⟨he, bel⟩ => ?_
  subst he
  exact ⟨_, rfl, _, _, _, [], _, [], hW', trodAll_mk1 (shut_bool Try.underlying4 _), (trodAll_cons_mk (Below.trod laidOut (by kernel_rfl) (of_decide_eq_true (by kernel_rfl)) k0 bel lt0) trodAll_mk0), rfl, bel.frame _, fun h => by cases h⟩

theorem over : Rows.slotKeysRow.holds Try.pinned (OpenSpec.ofChange Rows.slotKeysSpec) :=
  OpenClaim.holds_of_wide 5 Try.f5 rfl rfl rfl rfl rfl rfl rfl ⟨rfl, rfl, rfl, rfl, rfl⟩ rfl rfl rfl rfl rfl (by kernel_rfl) Try.func5 (by kernel_rfl)
    (of_decide_eq_true (by kernel_rfl)) (by unfold Func.isWrapper; first | (rw [if_pos (by decide +kernel)]; kernel_rfl) | (rw [if_neg (by decide +kernel)]; exact ⟨rfl, rfl⟩))
    (fun os started H enc _ => lifted os started H enc)
end Go.Proofs.Ytomalmnpojcloaa.slotKeys
namespace Go.Proofs.Ytomalmnpojcloaa
theorem slotKeys_holds : Rows.SlotKeysSaid := slotKeys.over
end Go.Proofs.Ytomalmnpojcloaa
