/-
  What must come of every program.
-/
import Derived.Test.YtomalmnpojcloaaKy10
namespace Go.Proofs.Ytomalmnpojcloaa
open Go.RowKit Go.BigFrame
def oneF (x : BitVec 8) (j : Nat) : BitVec 8 := if j = 0 then x else 0#8
def sF (j : Nat) : BitVec 8 := if j = 0 then 1#8 else if j = 48 then 2#8 else 0#8
def xsL (i : Nat) : Int := if i = 0 then 7 else 8
def fsL : Nat → Nat → BitVec 8 := fun _ => zF
theorem bl22 (w : World) : (Instr.build 22 #[(0, .int .u8 1)]).run Try.prog w = .ok (.agg (row 16 (yv (oneF 1#8))).toArray) w := run_build w 22 _ _ (by kernel_rfl)
theorem bl23 (w : World) : (Instr.build 23 #[(0, .int .u8 2)]).run Try.prog w = .ok (.agg (row 32 (yv (oneF 2#8))).toArray) w := run_build w 23 _ _ (by kernel_rfl)
theorem bl23t (w : World) : (Instr.build 23 #[(0, .int .u8 3)]).run Try.prog w = .ok (.agg (row 32 (yv (oneF 3#8))).toArray) w := run_build w 23 _ _ (by kernel_rfl)
theorem bl25 (w : World) : (Instr.build 25 #[(0, .bool true), (1, .agg (row 16 (yv (oneF 1#8))).toArray), (3, .agg (row 32 (yv (oneF 2#8))).toArray)]).run Try.prog w = .ok (.agg (row 81 (slv true sF)).toArray) w := run_build w 25 _ _ (by kernel_rfl)
set_option maxRecDepth 20000 in
theorem bs2 (w : World) : (Instr.buildSlice 35 2 #[(0, .agg (row 65 (epv 7 zF)).toArray), (1, .agg (row 65 (epv 8 zF)).toArray)]).run Try.prog w = .ok (.slice (some ⟨w.heap.size, 0, none⟩) 2 2) (w.alloc (.cells (row 130 (epL xsL fsL)).toArray 51)) := by kernel_rfl
theorem bl37 (oa : Option Addr) (n c : Nat) (f : Nat → BitVec 8) (w : World) : (Instr.build 37 #[(0, .slice oa n c), (1, .agg (row 32 (yv f)).toArray)]).run Try.prog w = .ok (.agg (row 33 (kyv (.slice oa n c) f)).toArray) w := run_build w 37 _ _ (by kernel_rfl)
theorem bl37e (w : World) : (Instr.build 37 #[]).run Try.prog w = .ok (.agg (row 33 (kyv (.slice none 0 0) zF)).toArray) w := run_build w 37 _ _ (by kernel_rfl)
theorem okL : okE 2 xsL := ⟨.inr rfl, fun i hi => by
  rcases (by omega : i = 0 ∨ i = 1) with rfl | rfl <;> (unfold okX xsL; decide)⟩
theorem inL : inW 2 xsL := fun i hi => by
  rcases (by omega : i = 0 ∨ i = 1) with rfl | rfl <;> (unfold xsL; decide)
theorem mark_str (f : Nat → BitVec 8) : (bstr 4 fun j => ((padF (slF f) 84 j).toNat : Int)).toList = [83, 76, 79, 84] := by
  have h : lst 4 (padF (slF f) 84) = lst 4 (bT [83, 76, 79, 84]) := eq_of_beq (by
    rw [lst_beq, eqN_iff]
    intro j hj
    unfold padF slF
    rw [if_pos (by omega), if_pos hj])
  rw [bstr_list, h]
  decide +kernel
set_option maxRecDepth 20000 in
set_option maxHeartbeats 2000000 in
theorem lives_any (w : World) : Calls Try.prog 10 #[] w fun e w' => e = .returned (.bool true) ∧ Ext w w' := by
  go_enter Try.func10, Try.ntmps10
  go_upto_region 1 with (fail)
  refine wp_region_lit ?_
  refine wpList_build rfl 22 [(0, .const (.int .u8 1))] rfl (.agg (row 16 (yv (oneF 1#8))).toArray) (bl22 _) ?_
  simp only [Act.put, List.setIfInBounds_toArray, List.set_cons_zero, List.set_cons_succ]
  refine wpList_build rfl 23 [(0, .const (.int .u8 2))] rfl (.agg (row 32 (yv (oneF 2#8))).toArray) (bl23 _) ?_
  simp only [Act.put, List.setIfInBounds_toArray, List.set_cons_zero, List.set_cons_succ]
  refine wpList_build rfl 25 [(0, .const (.bool true)), (1, .tmp 13), (3, .tmp 14)] rfl (.agg (row 81 (slv true sF)).toArray) (bl25 _) ?_
  simp only [Act.put, List.setIfInBounds_toArray, List.set_cons_zero, List.set_cons_succ]
  obtain ⟨H1, hA1, H2, hA2⟩ := made25 w true sF
  obtain ⟨p, hp⟩ : ∃ p, p = w.heap.size := ⟨_, rfl⟩
  rw [← hp] at H1 H2 hA2
  refine wpList_to rfl (.pointer (some ⟨p, 0, none⟩)) (w.alloc (.cells zk25 25)) (by rw [hp]; exact alloc25 rfl) ?_
  simp only [Act.put, List.setIfInBounds_toArray, List.set_cons_zero, List.set_cons_succ]
  refine wpList_store_mid rfl 25 (.tmp 1) (.tmp 15) rfl p 0 (row 81 (slv true sF)).toArray rfl rfl (by rw [row_size]; exact H1.there) (by rw [row_size]; exact info25) (row_one (slv_one _ _)) ?_
  rw [show (row 81 (slv true sF)).toArray.toList = row 81 (slv true sF) from rfl]
  have P1 := hideit H2
  have hE1 := hideit hA2
  clear H1 hA1 H2 hA2 hp
  generalize (w.alloc (.cells zk25 25)).setCells p 0 (row 81 (slv true sF)) = w1 at *
  simp only [Act.put]
  go_upto_region 2 with (fail)
  refine wp_region_lit ?_
  refine wpList_load_mid rfl 25 (.tmp 1) rfl p 0 rfl (row 81 (slv true sF)) _ P1.out.range Try.underlying25 rfl (by rw [row_length]; exact info25) ?_
  simp only [Act.put, List.setIfInBounds_toArray, List.set_cons_zero, List.set_cons_succ]
  refine wpList_call rfl (by simp [go_sem]; exact ⟨rfl, rfl⟩) ?_
  refine (enc_act sF w1).mono ?_
  rintro e w2 ⟨g, rfl, hg2, hR2, hX2⟩
  refine ⟨_, rfl, ?_⟩
  simp only [Act.put, List.setIfInBounds_toArray, List.set_cons_zero, List.set_cons_succ]
  have P2 := hideit (P1.out.carry hX2)
  have hE2 := hideit (Ext.trans hE1.out hX2)
  replace hR2 := hideit hR2
  clear P1 hE1 hX2 hg2
  go_upto_region 3 with (fail)
  refine wp_region_lit ?_
  refine wpList_run rfl (.slice (some ⟨g, 0, none⟩) 512 512) (by simp [go_sem]) ?_
  simp only [Act.put, List.setIfInBounds_toArray, List.set_cons_zero, List.set_cons_succ]
  have hB2 : BV (.slice (some ⟨g, 0, none⟩) 512 512) 512 (padF (slF sF) 84) w2 := .inr ⟨_, _, rfl, Nat.le_refl _, hR2.out.lie 512 (Nat.le_refl _)⟩
  refine wpList_call rfl (by simp [go_sem]; exact ⟨rfl, rfl⟩) ?_
  refine (dec_back _ sF w2 hB2).mono ?_
  rintro e w3 ⟨rfl, hX3⟩
  refine ⟨_, rfl, ?_⟩
  simp only [Act.put, List.setIfInBounds_toArray, List.set_cons_zero, List.set_cons_succ]
  have P3 := hideit (P2.out.carry hX3)
  have R3 := hideit (hR2.out.carry hX3)
  have hE3 := hideit (Ext.trans hE2.out hX3)
  clear P2 hR2 hE2 hX3 hB2
  refine wpList_run rfl (.tuple #[.agg (row 81 (slv true sF)).toArray, .int .i64 0]) (by simp [go_sem]) ?_
  simp only [Act.put, List.setIfInBounds_toArray, List.set_cons_zero, List.set_cons_succ]
  refine wpList_run rfl (.agg (row 81 (slv true sF)).toArray) (by simp [go_sem]) ?_
  simp only [Act.put, List.setIfInBounds_toArray, List.set_cons_zero, List.set_cons_succ]
  refine wpList_run rfl (.int .i64 0) (by simp [go_sem]) ?_
  simp only [Act.put, List.setIfInBounds_toArray, List.set_cons_zero, List.set_cons_succ]
  obtain ⟨H1, hA1, H2, hA2⟩ := made25 w3 true sF
  obtain ⟨q, hq⟩ : ∃ q, q = w3.heap.size := ⟨_, rfl⟩
  rw [← hq] at H1 H2 hA2
  refine wpList_to rfl (.pointer (some ⟨q, 0, none⟩)) (w3.alloc (.cells zk25 25)) (by rw [hq]; exact alloc25 rfl) ?_
  simp only [Act.put, List.setIfInBounds_toArray, List.set_cons_zero, List.set_cons_succ]
  refine wpList_store_mid rfl 25 (.tmp 4) (.tmp 24) rfl q 0 (row 81 (slv true sF)).toArray rfl rfl (by rw [row_size]; exact H1.there) (by rw [row_size]; exact info25) (row_one (slv_one _ _)) ?_
  rw [show (row 81 (slv true sF)).toArray.toList = row 81 (slv true sF) from rfl]
  have P4 := hideit (P3.out.carry hA2)
  have R4 := hideit (R3.out.carry hA2)
  have Q4 := hideit H2
  have hE4 := hideit (Ext.trans hE3.out hA2)
  clear H1 hA1 H2 hA2 hq P3 R3 hE3
  generalize (w3.alloc (.cells zk25 25)).setCells q 0 (row 81 (slv true sF)) = w4 at *
  simp only [Act.put]
  go_upto_region 4 with (fail)
  refine wp_region_lit ?_
  refine wpList_build rfl 51 [(0, .const (.int .i64 7))] rfl (.agg (row 65 (epv 7 zF)).toArray) (build51 _ _) ?_
  simp only [Act.put, List.setIfInBounds_toArray, List.set_cons_zero, List.set_cons_succ]
  refine wpList_build rfl 51 [(0, .const (.int .i64 8))] rfl (.agg (row 65 (epv 8 zF)).toArray) (build51 _ _) ?_
  simp only [Act.put, List.setIfInBounds_toArray, List.set_cons_zero, List.set_cons_succ]
  have hE5 : Ext w4 (w4.alloc (.cells (row 130 (epL xsL fsL)).toArray 51)) := (Below.refl _ _).alloc (Nat.le_refl _) _
  have L5 := RowAt.new w4 130 (epL xsL fsL) 51
  refine wpList_bslice rfl 35 2 [(0, .tmp 26), (1, .tmp 27)] rfl (.slice (some ⟨w4.heap.size, 0, none⟩) 2 2) (w4.alloc (.cells (row 130 (epL xsL fsL)).toArray 51)) (bs2 _) ?_
  simp only [Act.put, List.setIfInBounds_toArray, List.set_cons_zero, List.set_cons_succ]
  obtain ⟨lb, hlb⟩ : ∃ lb, lb = w4.heap.size := ⟨_, rfl⟩
  rw [← hlb] at L5 ⊢
  have P5 := hideit (P4.out.carry hE5)
  have R5 := hideit (R4.out.carry hE5)
  have Q5 := hideit (Q4.out.carry hE5)
  have hE05 := hideit (Ext.trans hE4.out hE5)
  have V5 : Hid (EV (.slice (some ⟨lb, 0, none⟩) 2 2) 2 xsL fsL (w4.alloc (.cells (row 130 (epL xsL fsL)).toArray 51))) := hideit (row_ev (n := 2) (cap := 2) L5 (by decide))
  clear P4 R4 Q4 hE4 hE5 L5 hlb
  generalize w4.alloc (.cells (row 130 (epL xsL fsL)).toArray 51) = w5 at *
  refine wpList_build rfl 23 [(0, .const (.int .u8 3))] rfl (.agg (row 32 (yv (oneF 3#8))).toArray) (bl23t _) ?_
  simp only [Act.put, List.setIfInBounds_toArray, List.set_cons_zero, List.set_cons_succ]
  refine wpList_build rfl 37 [(0, .tmp 28), (1, .tmp 29)] rfl (.agg (row 33 (kyv (.slice (some ⟨lb, 0, none⟩) 2 2) (oneF 3#8))).toArray) (bl37 _ _ _ _ _) ?_
  simp only [Act.put, List.setIfInBounds_toArray, List.set_cons_zero, List.set_cons_succ]
  obtain ⟨H1, hA1, H2, hA2⟩ := made37 w5 (.slice (some ⟨lb, 0, none⟩) 2 2) (oneF 3#8)
  obtain ⟨k, hk⟩ : ∃ k, k = w5.heap.size := ⟨_, rfl⟩
  rw [← hk] at H1 H2 hA2
  refine wpList_to rfl (.pointer (some ⟨k, 0, none⟩)) (w5.alloc (.cells zk37 37)) (by simp [go_sem, hk, zk37]) ?_
  simp only [Act.put, List.setIfInBounds_toArray, List.set_cons_zero, List.set_cons_succ]
  refine wpList_store_mid rfl 37 (.tmp 6) (.tmp 30) rfl k 0 (row 33 (kyv (.slice (some ⟨lb, 0, none⟩) 2 2) (oneF 3#8))).toArray rfl rfl (by rw [row_size]; exact H1.there) (by rw [row_size]; exact info37) (row_one (kyv_one _ _ _ _)) ?_
  rw [show (row 33 (kyv (.slice (some ⟨lb, 0, none⟩) 2 2) (oneF 3#8))).toArray.toList = row 33 (kyv (.slice (some ⟨lb, 0, none⟩) 2 2) (oneF 3#8)) from rfl]
  have P6 := hideit (P5.out.carry hA2)
  have R6 := hideit (R5.out.carry hA2)
  have Q6 := hideit (Q5.out.carry hA2)
  have V6 := hideit (V5.out.ext hA2)
  have K6 := hideit H2
  have hE6 := hideit (Ext.trans hE05.out hA2)
  clear H1 hA1 H2 hA2 hk P5 R5 Q5 V5 hE05
  generalize (w5.alloc (.cells zk37 37)).setCells k 0 (row 33 (kyv (.slice (some ⟨lb, 0, none⟩) 2 2) (oneF 3#8))) = w6 at *
  simp only [Act.put]
  go_upto_region 5 with (fail)
  refine wp_region_lit ?_
  refine wpList_load_mid rfl 37 (.tmp 6) rfl k 0 rfl (row 33 (kyv (.slice (some ⟨lb, 0, none⟩) 2 2) (oneF 3#8))) _ K6.out.range Try.underlying37 rfl (by rw [row_length]; exact info37) ?_
  simp only [Act.put, List.setIfInBounds_toArray, List.set_cons_zero, List.set_cons_succ]
  refine wpList_call rfl (by simp [go_sem]; exact ⟨rfl, rfl⟩) ?_
  refine (keys_ok _ 2 xsL fsL (oneF 3#8) w6 V6.out inL okL).mono ?_
  rintro e w7 ⟨h, rfl, hg7, hR7, hX7⟩
  refine ⟨_, rfl, ?_⟩
  simp only [Act.put, List.setIfInBounds_toArray, List.set_cons_zero, List.set_cons_succ]
  have P7 := hideit (P6.out.carry hX7)
  have R7 := hideit (R6.out.carry hX7)
  have Q7 := hideit (Q6.out.carry hX7)
  have V7 := hideit (V6.out.ext hX7)
  have K7 := hideit (K6.out.carry hX7)
  have hE7 := hideit (Ext.trans hE6.out hX7)
  replace hR7 := hideit hR7
  clear P6 R6 Q6 V6 K6 hE6 hX7 hg7
  go_upto_region 6 with (fail)
  refine wp_region_lit ?_
  refine wpList_run rfl (.slice (some ⟨h, 0, none⟩) 512 512) (by simp [go_sem]) ?_
  simp only [Act.put, List.setIfInBounds_toArray, List.set_cons_zero, List.set_cons_succ]
  have hB7 : BV (.slice (some ⟨h, 0, none⟩) 512 512) 512 (keB 2 xsL fsL (oneF 3#8)) w7 := .inr ⟨_, _, rfl, Nat.le_refl _, hR7.out.lie 512 (Nat.le_refl _)⟩
  refine wpList_call rfl (by simp [go_sem]; exact ⟨rfl, rfl⟩) ?_
  refine (kdec_back _ 2 xsL fsL (oneF 3#8) w7 hB7 okL).mono ?_
  rintro e w8 ⟨u, tt, rfl, hV8, htt, hX8⟩
  refine ⟨_, rfl, ?_⟩
  simp only [Act.put, List.setIfInBounds_toArray, List.set_cons_zero, List.set_cons_succ]
  have P8 := hideit (P7.out.carry hX8)
  have R8 := hideit (R7.out.carry hX8)
  have Q8 := hideit (Q7.out.carry hX8)
  have V8 := hideit (V7.out.ext hX8)
  have K8 := hideit (K7.out.carry hX8)
  have hE8 := hideit (Ext.trans hE7.out hX8)
  obtain ⟨ua, uc, rfl⟩ := hV8.form
  have U8 := hideit hV8
  replace htt := hideit htt
  clear P7 R7 Q7 V7 K7 hE7 hX8 hB7 hR7 hV8
  refine wpList_run rfl (.tuple #[.agg (row 33 (kyv (.slice ua 2 uc) tt)).toArray, .int .i64 0]) (by simp [go_sem]) ?_
  simp only [Act.put, List.setIfInBounds_toArray, List.set_cons_zero, List.set_cons_succ]
  refine wpList_run rfl (.agg (row 33 (kyv (.slice ua 2 uc) tt)).toArray) (by simp [go_sem]) ?_
  simp only [Act.put, List.setIfInBounds_toArray, List.set_cons_zero, List.set_cons_succ]
  refine wpList_run rfl (.int .i64 0) (by simp [go_sem]) ?_
  simp only [Act.put, List.setIfInBounds_toArray, List.set_cons_zero, List.set_cons_succ]
  obtain ⟨H1, hA1, H2, hA2⟩ := made37 w8 (.slice ua 2 uc) tt
  obtain ⟨m, hm⟩ : ∃ m, m = w8.heap.size := ⟨_, rfl⟩
  rw [← hm] at H1 H2 hA2
  refine wpList_to rfl (.pointer (some ⟨m, 0, none⟩)) (w8.alloc (.cells zk37 37)) (by simp [go_sem, hm, zk37]) ?_
  simp only [Act.put, List.setIfInBounds_toArray, List.set_cons_zero, List.set_cons_succ]
  refine wpList_store_mid rfl 37 (.tmp 9) (.tmp 39) rfl m 0 (row 33 (kyv (.slice ua 2 uc) tt)).toArray rfl rfl (by rw [row_size]; exact H1.there) (by rw [row_size]; exact info37) (row_one (kyv_one _ _ _ _)) ?_
  rw [show (row 33 (kyv (.slice ua 2 uc) tt)).toArray.toList = row 33 (kyv (.slice ua 2 uc) tt) from rfl]
  have P9 := hideit (P8.out.carry hA2)
  have R9 := hideit (R8.out.carry hA2)
  have Q9 := hideit (Q8.out.carry hA2)
  have V9 := hideit (V8.out.ext hA2)
  have U9 := hideit (U8.out.ext hA2)
  have K9 := hideit (K8.out.carry hA2)
  have M9 := hideit H2
  have hE9 := hideit (Ext.trans hE8.out hA2)
  clear H1 hA1 H2 hA2 hm P8 R8 Q8 V8 U8 K8 hE8
  generalize (w8.alloc (.cells zk37 37)).setCells m 0 (row 33 (kyv (.slice ua 2 uc) tt)) = w9 at *
  simp only [Act.put]
  go_upto_region 7 with (fail)
  refine wp_region_lit ?_
  refine wpList_build rfl 37 [] rfl (.agg (row 33 (kyv (.slice none 0 0) zF)).toArray) (bl37e _) ?_
  simp only [Act.put, List.setIfInBounds_toArray, List.set_cons_zero, List.set_cons_succ]
  refine wpList_call rfl (by simp [go_sem]; exact ⟨rfl, rfl⟩) ?_
  refine (keys_bad _ 0 xsL fsL zF w9 (.inl ⟨rfl, rfl⟩) (fun i hi => by omega) (fun hh => by have := hh.1; omega)).mono ?_
  rintro e wa ⟨rfl, hXa⟩
  refine ⟨_, rfl, ?_⟩
  simp only [Act.put, List.setIfInBounds_toArray, List.set_cons_zero, List.set_cons_succ]
  have PA := hideit (P9.out.carry hXa)
  have RA := hideit (R9.out.carry hXa)
  have QA := hideit (Q9.out.carry hXa)
  have VA := hideit (V9.out.ext hXa)
  have UA := hideit (U9.out.ext hXa)
  have KA := hideit (K9.out.carry hXa)
  have MA := hideit (M9.out.carry hXa)
  have hEa := hideit (Ext.trans hE9.out hXa)
  clear P9 R9 Q9 V9 U9 K9 M9 hE9 hXa
  go_upto_region 8 with (fail)
  have hq25 := eql25 true true sF sF wa
  rw [eqN_refl, show ((true == true) && true) = true from rfl] at hq25
  have hB4 : BV (.slice (some ⟨g, 0, none⟩) 4 512) 4 (padF (slF sF) 84) wa := .inr ⟨_, _, rfl, by decide, RA.out.lie 4 (by decide)⟩
  have hcv := convV _ 4 _ wa hB4
  have hms := mark_str sF
  obtain ⟨str, hstr⟩ : ∃ str, str = bstr 4 (fun j => ((padF (slF sF) 84 j).toNat : Int)) := ⟨_, rfl⟩
  rw [← hstr] at hcv hms
  clear hstr hB4
  refine wp_region_lit ?_
  refine wpList_run rfl (.int .i64 0) (by simp [go_sem]) ?_
  simp only [Act.put, List.setIfInBounds_toArray, List.set_cons_zero, List.set_cons_succ]
  refine wpList_run rfl (.bool true) (by simp [go_sem]) ?_
  simp only [Act.put, List.setIfInBounds_toArray, List.set_cons_zero, List.set_cons_succ]
  refine wpList_run rfl (.bool true) (by simp [go_sem]) ?_
  simp only [Act.put, List.setIfInBounds_toArray, List.set_cons_zero, List.set_cons_succ]
  refine wpList_runW rfl (.int .i64 0) (by simp [go_sem]) ?_
  simp only [Act.put, List.setIfInBounds_toArray, List.set_cons_zero, List.set_cons_succ]
  refine wpList_runW rfl (.bool true) (by simp [go_sem]) ?_
  simp only [Act.put, List.setIfInBounds_toArray, List.set_cons_zero, List.set_cons_succ]
  refine wpList_run rfl (.bool true) (by simp [go_sem]) ?_
  simp only [Act.put, List.setIfInBounds_toArray, List.set_cons_zero, List.set_cons_succ]
  refine wpList_run rfl (.bool true) (by simp [go_sem]) ?_
  simp only [Act.put, List.setIfInBounds_toArray, List.set_cons_zero, List.set_cons_succ]
  refine wpList_runW rfl (.int .i64 0) (by simp [go_sem]) ?_
  simp only [Act.put, List.setIfInBounds_toArray, List.set_cons_zero, List.set_cons_succ]
  refine wpList_runW rfl (.bool true) (by simp [go_sem]) ?_
  simp only [Act.put, List.setIfInBounds_toArray, List.set_cons_zero, List.set_cons_succ]
  refine wpList_run rfl (.bool true) (by simp [go_sem]) ?_
  simp only [Act.put, List.setIfInBounds_toArray, List.set_cons_zero, List.set_cons_succ]
  refine wpList_run rfl (.bool true) (by simp [go_sem]) ?_
  simp only [Act.put, List.setIfInBounds_toArray, List.set_cons_zero, List.set_cons_succ]
  refine wpList_runW rfl (.int .i64 0) (by simp [go_sem]) ?_
  simp only [Act.put, List.setIfInBounds_toArray, List.set_cons_zero, List.set_cons_succ]
  refine wpList_runW rfl (.bool true) (by simp [go_sem]) ?_
  simp only [Act.put, List.setIfInBounds_toArray, List.set_cons_zero, List.set_cons_succ]
  refine wpList_run rfl (.bool true) (by simp [go_sem]) ?_
  simp only [Act.put, List.setIfInBounds_toArray, List.set_cons_zero, List.set_cons_succ]
  refine wpList_run rfl (.bool true) (by simp [go_sem]) ?_
  simp only [Act.put, List.setIfInBounds_toArray, List.set_cons_zero, List.set_cons_succ]
  refine wpList_runW rfl (.int .i64 1) (by simp [go_sem]) ?_
  simp only [Act.put, List.setIfInBounds_toArray, List.set_cons_zero, List.set_cons_succ]
  refine wpList_runW rfl (.bool true) (by simp [go_sem]) ?_
  simp only [Act.put, List.setIfInBounds_toArray, List.set_cons_zero, List.set_cons_succ]
  refine wpList_run rfl (.bool true) (by simp [go_sem]) ?_
  simp only [Act.put, List.setIfInBounds_toArray, List.set_cons_zero, List.set_cons_succ]
  refine wpList_run rfl (.bool true) (by simp [go_sem]) ?_
  simp only [Act.put, List.setIfInBounds_toArray, List.set_cons_zero, List.set_cons_succ]
  refine wpList_ungrd rfl ?_
  refine wpList_load_mid rfl 25 (.tmp 4) rfl q 0 rfl (row 81 (slv true sF)) _ QA.out.range Try.underlying25 rfl (by rw [row_length]; exact info25) ?_
  simp only [Act.put, List.setIfInBounds_toArray, List.set_cons_zero, List.set_cons_succ]
  refine wpList_ungrd rfl ?_
  refine wpList_load_mid rfl 25 (.tmp 1) rfl p 0 rfl (row 81 (slv true sF)) _ PA.out.range Try.underlying25 rfl (by rw [row_length]; exact info25) ?_
  simp only [Act.put, List.setIfInBounds_toArray, List.set_cons_zero, List.set_cons_succ]
  refine wpList_cmp rfl .eql 25 25 (.tmp 65) (.tmp 66) rfl _ _ rfl rfl (by kernel_rfl) true hq25 ?_
  simp only [Act.put, List.setIfInBounds_toArray, List.set_cons_zero, List.set_cons_succ]
  refine wpList_run rfl (.bool true) (by simp [go_sem]) ?_
  simp only [Act.put, List.setIfInBounds_toArray, List.set_cons_zero, List.set_cons_succ]
  refine wpList_run rfl (.bool true) (by simp [go_sem]) ?_
  simp only [Act.put, List.setIfInBounds_toArray, List.set_cons_zero, List.set_cons_succ]
  refine wpList_runW rfl (.slice (some ⟨g, 0, none⟩) 512 512) (by simp [go_sem]) ?_
  simp only [Act.put, List.setIfInBounds_toArray, List.set_cons_zero, List.set_cons_succ]
  refine wpList_runW rfl (.slice (some ⟨g, 0, none⟩) 4 512) (by simp [go_sem]) ?_
  simp only [Act.put, List.setIfInBounds_toArray, List.set_cons_zero, List.set_cons_succ]
  refine wpList_runW rfl (.string str) (by simp [go_sem, hcv]) ?_
  simp only [Act.put, List.setIfInBounds_toArray, List.set_cons_zero, List.set_cons_succ]
  refine wpList_runW rfl (.bool true) (by simp [go_sem, hms]) ?_
  simp only [Act.put, List.setIfInBounds_toArray, List.set_cons_zero, List.set_cons_succ]
  refine wpList_run rfl (.bool true) (by simp [go_sem]) ?_
  simp only [Act.put, List.setIfInBounds_toArray, List.set_cons_zero, List.set_cons_succ]
  refine wpList_run rfl (.bool true) (by simp [go_sem]) ?_
  simp only [Act.put, List.setIfInBounds_toArray, List.set_cons_zero, List.set_cons_succ]
  refine wpList_ungrd rfl ?_
  refine wpList_load_mid rfl 37 (.tmp 9) rfl m 0 rfl (row 33 (kyv (.slice ua 2 uc) tt)) _ MA.out.range Try.underlying37 rfl (by rw [row_length]; exact info37) ?_
  simp only [Act.put, List.setIfInBounds_toArray, List.set_cons_zero, List.set_cons_succ]
  refine wpList_ungrd rfl ?_
  refine wpList_load_mid rfl 37 (.tmp 6) rfl k 0 rfl (row 33 (kyv (.slice (some ⟨lb, 0, none⟩) 2 2) (oneF 3#8))) _ KA.out.range Try.underlying37 rfl (by rw [row_length]; exact info37) ?_
  simp only [Act.put, List.setIfInBounds_toArray, List.set_cons_zero, List.set_cons_succ]
  refine wpList_callW rfl (by simp [go_sem]; exact ⟨rfl, rfl⟩) ?_
  refine (same_ok _ _ 2 xsL fsL fsL tt (oneF 3#8) wa UA.out VA.out htt.out (fun _ _ _ _ => rfl) (by decide)).mono ?_
  rintro e wb ⟨rfl, hXb⟩
  refine ⟨_, rfl, ?_⟩
  simp only [Act.put, List.setIfInBounds_toArray, List.set_cons_zero, List.set_cons_succ]
  refine wpList_run rfl (.bool true) (by simp [go_sem]) ?_
  simp only [Act.put, List.setIfInBounds_toArray, List.set_cons_zero, List.set_cons_succ]
  have hEb := hideit (Ext.trans hEa.out hXb)
  clear PA RA QA VA UA KA MA hEa hXb hq25 hcv hms
  go_wp2
  go_ret
  exact ⟨rfl, hEb.out⟩
end Go.Proofs.Ytomalmnpojcloaa
