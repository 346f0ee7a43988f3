/-
  What any bytes are as keys.
-/
import Derived.Test.YtomalmnpojcloaaKy7
namespace Go.Proofs.Ytomalmnpojcloaa
open Go.RowKit Go.BigFrame
def gK : Value := .func (.func 35) #[] #[]
set_option maxRecDepth 20000 in
set_option maxHeartbeats 2000000 in
theorem kdc_len (oa : Option Addr) (l cp : Nat) (hl : l ≠ 512) (w : World) :
    Calls Try.prog 34 #[.slice oa l cp, gK] w fun e w' => e = .returned (.tuple #[.agg (row 33 (kyv (.slice none 0 0) zF)).toArray, .int .i64 110]) ∧ Ext w w' := by
  have hl2 : ¬ (l : Int) = 512 := by omega
  obtain ⟨Q1, N1, hE1⟩ := two37 w
  replace Q1 := hideit Q1
  replace N1 := hideit N1
  replace hE1 := hideit hE1
  go_enter Try.func34, Try.ntmps34
  go_upto_region 0 with (fail)
  refine wp_region_lit ?_
  refine wpList_to rfl (.pointer (some ⟨w.heap.size, 0, none⟩)) (w.alloc (.cells zk37 37)) (by simp [go_sem, zk37]) ?_
  simp only [Act.put, List.setIfInBounds_toArray, List.set_cons_zero, List.set_cons_succ]
  go_upto_region 1 with (fail)
  refine wp_region_lit ?_
  refine wpList_to rfl (.pointer (some ⟨w.heap.size + 1, 0, none⟩)) ((w.alloc (.cells zk37 37)).alloc (.cells zk37 37)) (by simp [go_sem, zk37]) ?_
  simp only [Act.put, List.setIfInBounds_toArray, List.set_cons_zero, List.set_cons_succ]
  generalize (w.alloc (.cells zk37 37)).alloc (.cells zk37 37) = w1 at *
  obtain ⟨q, hq⟩ : ∃ q, q = w.heap.size := ⟨_, rfl⟩
  have hwq : Hid (w.heap.size ≤ q) := hideit (by omega)
  rw [← hq] at Q1 N1 ⊢
  clear hq
  go_upto_region 3 with (fail)
  refine wp_region_lit ?_
  refine wpList_load_mid rfl 37 (.tmp 6) rfl _ 0 rfl (row 33 (kyv (.slice none 0 0) zF)) _ N1.out.range Try.underlying37 rfl (by rw [row_length]; exact info37) ?_
  simp only [Act.put, List.setIfInBounds_toArray, List.set_cons_zero, List.set_cons_succ]
  refine wpList_store_mid rfl 37 (.tmp 4) (.tmp 13) rfl q 0 (row 33 (kyv (.slice none 0 0) zF)).toArray rfl rfl (by rw [row_size]; exact Q1.out.there) (by rw [row_size]; exact info37) (row_one (kyv_one _ _ _ _)) ?_
  rw [show (row 33 (kyv (.slice none 0 0) zF)).toArray.toList = row 33 (kyv (.slice none 0 0) zF) from rfl]
  have h9 : Hid (RowAt q 33 (kyv (.slice none 0 0) zF) (w1.setCells q 0 (row 33 (kyv (.slice none 0 0) zF)))) := hideit Q1.out.cells
  have hE9 : Hid (Ext w (w1.setCells q 0 (row 33 (kyv (.slice none 0 0) zF)))) := hideit (below_setCells _ hwq.out _ _ _ hE1.out)
  clear N1 Q1 hE1
  generalize w1.setCells q 0 (row 33 (kyv (.slice none 0 0) zF)) = w9 at *
  simp only [Act.put]
  go_wp2
  exact bodyPost_ret (ret_row2 Try.results34 rfl h9.out Try.underlying37 rfl info37) rfl ⟨rfl, hE9.out⟩
set_option maxRecDepth 20000 in
set_option maxHeartbeats 2000000 in
theorem kdc_no (v : Value) (b : Nat → BitVec 8) (w : World) (hv : BV v 512 b w) (hn : ¬ ((b 4).toNat = 1 ∨ (b 4).toNat = 2)) :
    Calls Try.prog 34 #[v, gK] w fun e w' => e = .returned (.tuple #[.agg (row 33 (kyv (.slice none 0 0) zF)).toArray, .int .i64 110]) ∧ Ext w w' := by
  obtain ⟨oa, cp, rfl⟩ := hv.form
  replace hv := hideit hv
  obtain ⟨Q1, N1, hE1⟩ := two37 w
  replace Q1 := hideit Q1
  replace N1 := hideit N1
  replace hE1 := hideit hE1
  go_enter Try.func34, Try.ntmps34
  go_upto_region 0 with (fail)
  refine wp_region_lit ?_
  refine wpList_to rfl (.pointer (some ⟨w.heap.size, 0, none⟩)) (w.alloc (.cells zk37 37)) (by simp [go_sem, zk37]) ?_
  simp only [Act.put, List.setIfInBounds_toArray, List.set_cons_zero, List.set_cons_succ]
  go_upto_region 1 with (fail)
  refine wp_region_lit ?_
  refine wpList_to rfl (.pointer (some ⟨w.heap.size + 1, 0, none⟩)) ((w.alloc (.cells zk37 37)).alloc (.cells zk37 37)) (by simp [go_sem, zk37]) ?_
  simp only [Act.put, List.setIfInBounds_toArray, List.set_cons_zero, List.set_cons_succ]
  generalize (w.alloc (.cells zk37 37)).alloc (.cells zk37 37) = w1 at *
  obtain ⟨q, hq⟩ : ∃ q, q = w.heap.size := ⟨_, rfl⟩
  have hwq : Hid (w.heap.size ≤ q) := hideit (by omega)
  rw [← hq] at Q1 N1 ⊢
  clear hq
  have hv1 := hideit (hv.out.ext hE1.out)
  go_upto_region 5 with (go_at_call 40; refine (newr_any _ 512 b _ hv1.out (by decide)).mono ?_; rintro e w2 ⟨r, rfl, hr2, hR2, hE2⟩; replace hR2 := hideit hR2; replace hE2 := hideit hE2)
  have Q2 := hideit (Q1.out.carry hE2.out)
  have N2 := hideit (N1.out.carry hE2.out)
  have hqr : Hid (q < r) := hideit (by have := Q1.out.2.2; omega)
  have hnr : Hid (q + 1 < r) := hideit (by have := N1.out.2.2; omega)
  have hE02 := hideit (Ext.trans hE1.out hE2.out)
  have hlo : Hid (w1.heap.size ≤ r) := hideit hr2
  have hwr : Hid (w.heap.size ≤ r) := hideit (Nat.le_trans (Below.size hE1.out) hr2)
  clear hv hv1 Q1 N1 hE1 hE2 hr2
  obtain ⟨lo, hlo1⟩ : ∃ lo, lo = w1.heap.size := ⟨_, rfl⟩
  rw [← hlo1] at hR2 hlo
  clear hlo1
  unfold gK
  refine wp_region_lit ?_
  refine wpList_run rfl (.func (.func 35) #[] #[]) (by simp [go_sem]) ?_
  simp only [Act.put, List.setIfInBounds_toArray, List.set_cons_zero, List.set_cons_succ]
  refine wpList_run rfl (.pointer (some ⟨r, 0, none⟩)) (by simp [go_sem]) ?_
  simp only [Act.put, List.setIfInBounds_toArray, List.set_cons_zero, List.set_cons_succ]
  refine wpList_call rfl (by simp [go_sem]; exact ⟨rfl, rfl⟩) ?_
  refine (kbody_no lo r b _ hR2.out hlo.out hn).mono ?_
  rintro e w3 ⟨u1, u2, u3, t1, rfl, hX2⟩
  have Q3 := hideit (Q2.out.but hX2 (by have := hqr.out; omega))
  have N3 := hideit (N2.out.but hX2 (by have := hnr.out; omega))
  have hE3 := hideit (Ext.but hE02.out hX2 hwr.out)
  clear Q2 N2 hR2 hE02 hX2
  refine ⟨_, rfl, ?_⟩
  simp only [Act.put, List.setIfInBounds_toArray, List.set_cons_zero, List.set_cons_succ]
  refine wpList_run rfl (.tuple #[.agg (row 33 (kyv (.slice u1 u2 u3) (t1))).toArray, .bool false]) (by simp [go_sem]) ?_
  simp only [Act.put, List.setIfInBounds_toArray, List.set_cons_zero, List.set_cons_succ]
  refine wpList_run rfl (.agg (row 33 (kyv (.slice u1 u2 u3) (t1))).toArray) (by simp [go_sem]) ?_
  simp only [Act.put, List.setIfInBounds_toArray, List.set_cons_zero, List.set_cons_succ]
  refine wpList_run rfl (.bool false) (by simp [go_sem]) ?_
  simp only [Act.put, List.setIfInBounds_toArray, List.set_cons_zero, List.set_cons_succ]
  obtain ⟨H1, hA1, H2, hA2⟩ := made37 w3 (.slice u1 u2 u3) (t1)
  obtain ⟨s, hs⟩ : ∃ s, s = w3.heap.size := ⟨_, rfl⟩
  have hqs : Hid (q < s) := hideit (by rw [hs]; exact Q3.out.2.2)
  rw [← hs] at H1 H2 hA2
  refine wpList_to rfl (.pointer (some ⟨s, 0, none⟩)) (w3.alloc (.cells zk37 37)) (by simp [go_sem, hs, zk37]) ?_
  simp only [Act.put, List.setIfInBounds_toArray, List.set_cons_zero, List.set_cons_succ]
  refine wpList_store_mid rfl 37 (.tmp 8) (.tmp 20) rfl s 0 (row 33 (kyv (.slice u1 u2 u3) (t1))).toArray rfl rfl (by rw [row_size]; exact H1.there) (by rw [row_size]; exact info37) (row_one (kyv_one _ _ _ _)) ?_
  rw [show (row 33 (kyv (.slice u1 u2 u3) (t1))).toArray.toList = row 33 (kyv (.slice u1 u2 u3) (t1)) from rfl]
  have Q4 := hideit (Q3.out.carry hA2)
  have N4 := hideit (N3.out.carry hA2)
  have S4 := hideit H2
  have hE4 := hideit (Ext.trans hE3.out hA2)
  clear Q3 N3 H1 H2 hA1 hA2 hE3 hs
  generalize (w3.alloc (.cells zk37 37)).setCells s 0 (row 33 (kyv (.slice u1 u2 u3) (t1))) = w4 at *
  simp only [Act.put]
  go_upto_region 7 with (fail)
  clear S4
  refine wp_region_lit ?_
  refine wpList_load_mid rfl 37 (.tmp 6) rfl _ 0 rfl (row 33 (kyv (.slice none 0 0) zF)) _ N4.out.range Try.underlying37 rfl (by rw [row_length]; exact info37) ?_
  simp only [Act.put, List.setIfInBounds_toArray, List.set_cons_zero, List.set_cons_succ]
  refine wpList_store_mid rfl 37 (.tmp 4) (.tmp 29) rfl q 0 (row 33 (kyv (.slice none 0 0) zF)).toArray rfl rfl (by rw [row_size]; exact Q4.out.there) (by rw [row_size]; exact info37) (row_one (kyv_one _ _ _ _)) ?_
  rw [show (row 33 (kyv (.slice none 0 0) zF)).toArray.toList = row 33 (kyv (.slice none 0 0) zF) from rfl]
  have h9 : Hid (RowAt q 33 (kyv (.slice none 0 0) zF) (w4.setCells q 0 (row 33 (kyv (.slice none 0 0) zF)))) := hideit Q4.out.cells
  have hE9 : Hid (Ext w (w4.setCells q 0 (row 33 (kyv (.slice none 0 0) zF)))) := hideit (below_setCells _ hwq.out _ _ _ hE4.out)
  clear N4 Q4 hE4
  generalize w4.setCells q 0 (row 33 (kyv (.slice none 0 0) zF)) = w9 at *
  simp only [Act.put]
  go_wp2
  exact bodyPost_ret (ret_row2 Try.results34 rfl h9.out Try.underlying37 rfl info37) rfl ⟨rfl, hE9.out⟩
set_option maxRecDepth 20000 in
set_option maxHeartbeats 2000000 in
theorem kdc_bad (v : Value) (b : Nat → BitVec 8) (w : World) (hv : BV v 512 b w) (M : Bool) (hn : (b 4).toNat = 1 ∨ (b 4).toNat = 2) (hM : Hid (M = true ↔ okE (b 4).toNat (xG (shF b 5)))) (hB : Hid ((eqN 4 b (bT [75, 69, 89, 83]) && M) = false)) :
    Calls Try.prog 34 #[v, gK] w fun e w' => e = .returned (.tuple #[.agg (row 33 (kyv (.slice none 0 0) zF)).toArray, .int .i64 110]) ∧ Ext w w' := by
  obtain ⟨oa, cp, rfl⟩ := hv.form
  replace hv := hideit hv
  obtain ⟨Q1, N1, hE1⟩ := two37 w
  replace Q1 := hideit Q1
  replace N1 := hideit N1
  replace hE1 := hideit hE1
  go_enter Try.func34, Try.ntmps34
  go_upto_region 0 with (fail)
  refine wp_region_lit ?_
  refine wpList_to rfl (.pointer (some ⟨w.heap.size, 0, none⟩)) (w.alloc (.cells zk37 37)) (by simp [go_sem, zk37]) ?_
  simp only [Act.put, List.setIfInBounds_toArray, List.set_cons_zero, List.set_cons_succ]
  go_upto_region 1 with (fail)
  refine wp_region_lit ?_
  refine wpList_to rfl (.pointer (some ⟨w.heap.size + 1, 0, none⟩)) ((w.alloc (.cells zk37 37)).alloc (.cells zk37 37)) (by simp [go_sem, zk37]) ?_
  simp only [Act.put, List.setIfInBounds_toArray, List.set_cons_zero, List.set_cons_succ]
  generalize (w.alloc (.cells zk37 37)).alloc (.cells zk37 37) = w1 at *
  obtain ⟨q, hq⟩ : ∃ q, q = w.heap.size := ⟨_, rfl⟩
  have hwq : Hid (w.heap.size ≤ q) := hideit (by omega)
  rw [← hq] at Q1 N1 ⊢
  clear hq
  have hv1 := hideit (hv.out.ext hE1.out)
  go_upto_region 5 with (go_at_call 40; refine (newr_any _ 512 b _ hv1.out (by decide)).mono ?_; rintro e w2 ⟨r, rfl, hr2, hR2, hE2⟩; replace hR2 := hideit hR2; replace hE2 := hideit hE2)
  have Q2 := hideit (Q1.out.carry hE2.out)
  have N2 := hideit (N1.out.carry hE2.out)
  have hqr : Hid (q < r) := hideit (by have := Q1.out.2.2; omega)
  have hnr : Hid (q + 1 < r) := hideit (by have := N1.out.2.2; omega)
  have hE02 := hideit (Ext.trans hE1.out hE2.out)
  have hlo : Hid (w1.heap.size ≤ r) := hideit hr2
  have hwr : Hid (w.heap.size ≤ r) := hideit (Nat.le_trans (Below.size hE1.out) hr2)
  clear hv hv1 Q1 N1 hE1 hE2 hr2
  obtain ⟨lo, hlo1⟩ : ∃ lo, lo = w1.heap.size := ⟨_, rfl⟩
  rw [← hlo1] at hR2 hlo
  clear hlo1
  unfold gK
  refine wp_region_lit ?_
  refine wpList_run rfl (.func (.func 35) #[] #[]) (by simp [go_sem]) ?_
  simp only [Act.put, List.setIfInBounds_toArray, List.set_cons_zero, List.set_cons_succ]
  refine wpList_run rfl (.pointer (some ⟨r, 0, none⟩)) (by simp [go_sem]) ?_
  simp only [Act.put, List.setIfInBounds_toArray, List.set_cons_zero, List.set_cons_succ]
  refine wpList_call rfl (by simp [go_sem]; exact ⟨rfl, rfl⟩) ?_
  refine (kbody_ok lo r b _ hR2.out hlo.out hn M hM).mono ?_
  rw [hB.out]
  rintro e w3 ⟨u, rfl, hX1, hXu, hX3, hX2⟩
  obtain ⟨u1, u3, rfl⟩ := hX1.form
  have hlw : Hid (∀ a n c, (Value.slice u1 (b 4).toNat u3) = .slice (some a) n c → w.heap.size ≤ a.block) := hideit (fun a n c hh => by have := hXu a n c hh; have := Below.size hE02.out; omega)
  have hlu : Hid (∀ a n c, (Value.slice u1 (b 4).toNat u3) = .slice (some a) n c → q < a.block) := hideit (fun a n c hh => by have := hXu a n c hh; have := Q2.out.2.2; omega)
  replace hX1 := hideit hX1
  replace hX3 := hideit hX3
  have Q3 := hideit (Q2.out.but hX2 (by have := hqr.out; omega))
  have N3 := hideit (N2.out.but hX2 (by have := hnr.out; omega))
  have hE3 := hideit (Ext.but hE02.out hX2 hwr.out)
  clear Q2 N2 hR2 hE02 hX2
  refine ⟨_, rfl, ?_⟩
  simp only [Act.put, List.setIfInBounds_toArray, List.set_cons_zero, List.set_cons_succ]
  refine wpList_run rfl (.tuple #[.agg (row 33 (kyv (.slice u1 (b 4).toNat u3) (shF b (5 + 68 * (b 4).toNat)))).toArray, .bool false]) (by simp [go_sem]) ?_
  simp only [Act.put, List.setIfInBounds_toArray, List.set_cons_zero, List.set_cons_succ]
  refine wpList_run rfl (.agg (row 33 (kyv (.slice u1 (b 4).toNat u3) (shF b (5 + 68 * (b 4).toNat)))).toArray) (by simp [go_sem]) ?_
  simp only [Act.put, List.setIfInBounds_toArray, List.set_cons_zero, List.set_cons_succ]
  refine wpList_run rfl (.bool false) (by simp [go_sem]) ?_
  simp only [Act.put, List.setIfInBounds_toArray, List.set_cons_zero, List.set_cons_succ]
  obtain ⟨H1, hA1, H2, hA2⟩ := made37 w3 (.slice u1 (b 4).toNat u3) (shF b (5 + 68 * (b 4).toNat))
  obtain ⟨s, hs⟩ : ∃ s, s = w3.heap.size := ⟨_, rfl⟩
  have hqs : Hid (q < s) := hideit (by rw [hs]; exact Q3.out.2.2)
  rw [← hs] at H1 H2 hA2
  refine wpList_to rfl (.pointer (some ⟨s, 0, none⟩)) (w3.alloc (.cells zk37 37)) (by simp [go_sem, hs, zk37]) ?_
  simp only [Act.put, List.setIfInBounds_toArray, List.set_cons_zero, List.set_cons_succ]
  refine wpList_store_mid rfl 37 (.tmp 8) (.tmp 20) rfl s 0 (row 33 (kyv (.slice u1 (b 4).toNat u3) (shF b (5 + 68 * (b 4).toNat)))).toArray rfl rfl (by rw [row_size]; exact H1.there) (by rw [row_size]; exact info37) (row_one (kyv_one _ _ _ _)) ?_
  rw [show (row 33 (kyv (.slice u1 (b 4).toNat u3) (shF b (5 + 68 * (b 4).toNat)))).toArray.toList = row 33 (kyv (.slice u1 (b 4).toNat u3) (shF b (5 + 68 * (b 4).toNat))) from rfl]
  have Q4 := hideit (Q3.out.carry hA2)
  have N4 := hideit (N3.out.carry hA2)
  have S4 := hideit H2
  have hE4 := hideit (Ext.trans hE3.out hA2)
  have V4 := hideit (hX1.out.ext hA2)
  have R4 := hideit (hX3.out.ext hA2)
  clear hX1 hX3 hXu
  clear Q3 N3 H1 H2 hA1 hA2 hE3 hs
  generalize (w3.alloc (.cells zk37 37)).setCells s 0 (row 33 (kyv (.slice u1 (b 4).toNat u3) (shF b (5 + 68 * (b 4).toNat)))) = w4 at *
  simp only [Act.put]
  go_upto_region 7 with (fail)
  clear S4 V4 R4
  refine wp_region_lit ?_
  refine wpList_load_mid rfl 37 (.tmp 6) rfl _ 0 rfl (row 33 (kyv (.slice none 0 0) zF)) _ N4.out.range Try.underlying37 rfl (by rw [row_length]; exact info37) ?_
  simp only [Act.put, List.setIfInBounds_toArray, List.set_cons_zero, List.set_cons_succ]
  refine wpList_store_mid rfl 37 (.tmp 4) (.tmp 29) rfl q 0 (row 33 (kyv (.slice none 0 0) zF)).toArray rfl rfl (by rw [row_size]; exact Q4.out.there) (by rw [row_size]; exact info37) (row_one (kyv_one _ _ _ _)) ?_
  rw [show (row 33 (kyv (.slice none 0 0) zF)).toArray.toList = row 33 (kyv (.slice none 0 0) zF) from rfl]
  have h9 : Hid (RowAt q 33 (kyv (.slice none 0 0) zF) (w4.setCells q 0 (row 33 (kyv (.slice none 0 0) zF)))) := hideit Q4.out.cells
  have hE9 : Hid (Ext w (w4.setCells q 0 (row 33 (kyv (.slice none 0 0) zF)))) := hideit (below_setCells _ hwq.out _ _ _ hE4.out)
  clear N4 Q4 hE4
  generalize w4.setCells q 0 (row 33 (kyv (.slice none 0 0) zF)) = w9 at *
  simp only [Act.put]
  go_wp2
  exact bodyPost_ret (ret_row2 Try.results34 rfl h9.out Try.underlying37 rfl info37) rfl ⟨rfl, hE9.out⟩
set_option maxRecDepth 20000 in
set_option maxHeartbeats 2000000 in
theorem kdc_tail (v : Value) (b : Nat → BitVec 8) (w : World) (hv : BV v 512 b w) (hn : (b 4).toNat = 1 ∨ (b 4).toNat = 2) (hO : Hid (okE (b 4).toNat (xG (shF b 5)))) (hB : Hid ((eqN 4 b (bT [75, 69, 89, 83]) && true) = true)) (hy : Hid (zB (shF b (37 + 68 * (b 4).toNat)) (475 - 68 * (b 4).toNat) = false)) :
    Calls Try.prog 34 #[v, gK] w fun e w' => e = .returned (.tuple #[.agg (row 33 (kyv (.slice none 0 0) zF)).toArray, .int .i64 110]) ∧ Ext w w' := by
  obtain ⟨oa, cp, rfl⟩ := hv.form
  replace hv := hideit hv
  obtain ⟨Q1, N1, hE1⟩ := two37 w
  replace Q1 := hideit Q1
  replace N1 := hideit N1
  replace hE1 := hideit hE1
  go_enter Try.func34, Try.ntmps34
  go_upto_region 0 with (fail)
  refine wp_region_lit ?_
  refine wpList_to rfl (.pointer (some ⟨w.heap.size, 0, none⟩)) (w.alloc (.cells zk37 37)) (by simp [go_sem, zk37]) ?_
  simp only [Act.put, List.setIfInBounds_toArray, List.set_cons_zero, List.set_cons_succ]
  go_upto_region 1 with (fail)
  refine wp_region_lit ?_
  refine wpList_to rfl (.pointer (some ⟨w.heap.size + 1, 0, none⟩)) ((w.alloc (.cells zk37 37)).alloc (.cells zk37 37)) (by simp [go_sem, zk37]) ?_
  simp only [Act.put, List.setIfInBounds_toArray, List.set_cons_zero, List.set_cons_succ]
  generalize (w.alloc (.cells zk37 37)).alloc (.cells zk37 37) = w1 at *
  obtain ⟨q, hq⟩ : ∃ q, q = w.heap.size := ⟨_, rfl⟩
  have hwq : Hid (w.heap.size ≤ q) := hideit (by omega)
  rw [← hq] at Q1 N1 ⊢
  clear hq
  have hv1 := hideit (hv.out.ext hE1.out)
  go_upto_region 5 with (go_at_call 40; refine (newr_any _ 512 b _ hv1.out (by decide)).mono ?_; rintro e w2 ⟨r, rfl, hr2, hR2, hE2⟩; replace hR2 := hideit hR2; replace hE2 := hideit hE2)
  have Q2 := hideit (Q1.out.carry hE2.out)
  have N2 := hideit (N1.out.carry hE2.out)
  have hqr : Hid (q < r) := hideit (by have := Q1.out.2.2; omega)
  have hnr : Hid (q + 1 < r) := hideit (by have := N1.out.2.2; omega)
  have hE02 := hideit (Ext.trans hE1.out hE2.out)
  have hlo : Hid (w1.heap.size ≤ r) := hideit hr2
  have hwr : Hid (w.heap.size ≤ r) := hideit (Nat.le_trans (Below.size hE1.out) hr2)
  clear hv hv1 Q1 N1 hE1 hE2 hr2
  obtain ⟨lo, hlo1⟩ : ∃ lo, lo = w1.heap.size := ⟨_, rfl⟩
  rw [← hlo1] at hR2 hlo
  clear hlo1
  unfold gK
  refine wp_region_lit ?_
  refine wpList_run rfl (.func (.func 35) #[] #[]) (by simp [go_sem]) ?_
  simp only [Act.put, List.setIfInBounds_toArray, List.set_cons_zero, List.set_cons_succ]
  refine wpList_run rfl (.pointer (some ⟨r, 0, none⟩)) (by simp [go_sem]) ?_
  simp only [Act.put, List.setIfInBounds_toArray, List.set_cons_zero, List.set_cons_succ]
  refine wpList_call rfl (by simp [go_sem]; exact ⟨rfl, rfl⟩) ?_
  refine (kbody_ok lo r b _ hR2.out hlo.out hn true (hideit ⟨fun _ => hO.out, fun _ => rfl⟩)).mono ?_
  rw [hB.out]
  rintro e w3 ⟨u, rfl, hX1, hXu, hX3, hX2⟩
  obtain ⟨u1, u3, rfl⟩ := hX1.form
  have hlw : Hid (∀ a n c, (Value.slice u1 (b 4).toNat u3) = .slice (some a) n c → w.heap.size ≤ a.block) := hideit (fun a n c hh => by have := hXu a n c hh; have := Below.size hE02.out; omega)
  have hlu : Hid (∀ a n c, (Value.slice u1 (b 4).toNat u3) = .slice (some a) n c → q < a.block) := hideit (fun a n c hh => by have := hXu a n c hh; have := Q2.out.2.2; omega)
  replace hX1 := hideit hX1
  replace hX3 := hideit hX3
  have Q3 := hideit (Q2.out.but hX2 (by have := hqr.out; omega))
  have N3 := hideit (N2.out.but hX2 (by have := hnr.out; omega))
  have hE3 := hideit (Ext.but hE02.out hX2 hwr.out)
  clear Q2 N2 hR2 hE02 hX2
  refine ⟨_, rfl, ?_⟩
  simp only [Act.put, List.setIfInBounds_toArray, List.set_cons_zero, List.set_cons_succ]
  refine wpList_run rfl (.tuple #[.agg (row 33 (kyv (.slice u1 (b 4).toNat u3) (shF b (5 + 68 * (b 4).toNat)))).toArray, .bool true]) (by simp [go_sem]) ?_
  simp only [Act.put, List.setIfInBounds_toArray, List.set_cons_zero, List.set_cons_succ]
  refine wpList_run rfl (.agg (row 33 (kyv (.slice u1 (b 4).toNat u3) (shF b (5 + 68 * (b 4).toNat)))).toArray) (by simp [go_sem]) ?_
  simp only [Act.put, List.setIfInBounds_toArray, List.set_cons_zero, List.set_cons_succ]
  refine wpList_run rfl (.bool true) (by simp [go_sem]) ?_
  simp only [Act.put, List.setIfInBounds_toArray, List.set_cons_zero, List.set_cons_succ]
  obtain ⟨H1, hA1, H2, hA2⟩ := made37 w3 (.slice u1 (b 4).toNat u3) (shF b (5 + 68 * (b 4).toNat))
  obtain ⟨s, hs⟩ : ∃ s, s = w3.heap.size := ⟨_, rfl⟩
  have hqs : Hid (q < s) := hideit (by rw [hs]; exact Q3.out.2.2)
  rw [← hs] at H1 H2 hA2
  refine wpList_to rfl (.pointer (some ⟨s, 0, none⟩)) (w3.alloc (.cells zk37 37)) (by simp [go_sem, hs, zk37]) ?_
  simp only [Act.put, List.setIfInBounds_toArray, List.set_cons_zero, List.set_cons_succ]
  refine wpList_store_mid rfl 37 (.tmp 8) (.tmp 20) rfl s 0 (row 33 (kyv (.slice u1 (b 4).toNat u3) (shF b (5 + 68 * (b 4).toNat)))).toArray rfl rfl (by rw [row_size]; exact H1.there) (by rw [row_size]; exact info37) (row_one (kyv_one _ _ _ _)) ?_
  rw [show (row 33 (kyv (.slice u1 (b 4).toNat u3) (shF b (5 + 68 * (b 4).toNat)))).toArray.toList = row 33 (kyv (.slice u1 (b 4).toNat u3) (shF b (5 + 68 * (b 4).toNat))) from rfl]
  have Q4 := hideit (Q3.out.carry hA2)
  have N4 := hideit (N3.out.carry hA2)
  have S4 := hideit H2
  have hE4 := hideit (Ext.trans hE3.out hA2)
  have V4 := hideit (hX1.out.ext hA2)
  have R4 := hideit (hX3.out.ext hA2)
  clear hX1 hX3 hXu
  clear Q3 N3 H1 H2 hA1 hA2 hE3 hs
  generalize (w3.alloc (.cells zk37 37)).setCells s 0 (row 33 (kyv (.slice u1 (b 4).toNat u3) (shF b (5 + 68 * (b 4).toNat)))) = w4 at *
  simp only [Act.put]
  have hD := rdone_any lo r (475 - 68 * (b 4).toNat) (shF b (37 + 68 * (b 4).toNat)) false _ R4.out (by omega)
  rw [hy.out, show dnI (false || !false) = 90 from rfl] at hD
  replace hD := hideit hD
  go_upto_region 7 with (go_at_call 26; refine hD.out.mono ?_; rintro e w9 ⟨rfl, hwd⟩; replace hwd := hwd.symm; subst hwd)
  clear hD S4 V4 R4
  refine wp_region_lit ?_
  refine wpList_load_mid rfl 37 (.tmp 6) rfl _ 0 rfl (row 33 (kyv (.slice none 0 0) zF)) _ N4.out.range Try.underlying37 rfl (by rw [row_length]; exact info37) ?_
  simp only [Act.put, List.setIfInBounds_toArray, List.set_cons_zero, List.set_cons_succ]
  refine wpList_store_mid rfl 37 (.tmp 4) (.tmp 29) rfl q 0 (row 33 (kyv (.slice none 0 0) zF)).toArray rfl rfl (by rw [row_size]; exact Q4.out.there) (by rw [row_size]; exact info37) (row_one (kyv_one _ _ _ _)) ?_
  rw [show (row 33 (kyv (.slice none 0 0) zF)).toArray.toList = row 33 (kyv (.slice none 0 0) zF) from rfl]
  have h9 : Hid (RowAt q 33 (kyv (.slice none 0 0) zF) (w4.setCells q 0 (row 33 (kyv (.slice none 0 0) zF)))) := hideit Q4.out.cells
  have hE9 : Hid (Ext w (w4.setCells q 0 (row 33 (kyv (.slice none 0 0) zF)))) := hideit (below_setCells _ hwq.out _ _ _ hE4.out)
  clear N4 Q4 hE4
  generalize w4.setCells q 0 (row 33 (kyv (.slice none 0 0) zF)) = w9 at *
  simp only [Act.put]
  go_wp2
  exact bodyPost_ret (ret_row2 Try.results34 rfl h9.out Try.underlying37 rfl info37) rfl ⟨rfl, hE9.out⟩
set_option maxRecDepth 20000 in
set_option maxHeartbeats 2000000 in
theorem kdc_ok (v : Value) (b : Nat → BitVec 8) (w : World) (hv : BV v 512 b w) (hn : (b 4).toNat = 1 ∨ (b 4).toNat = 2) (hO : Hid (okE (b 4).toNat (xG (shF b 5)))) (hB : Hid ((eqN 4 b (bT [75, 69, 89, 83]) && true) = true)) (hy : Hid (zB (shF b (37 + 68 * (b 4).toNat)) (475 - 68 * (b 4).toNat) = true)) :
    Calls Try.prog 34 #[v, gK] w fun e w' => ∃ u, e = .returned (.tuple #[.agg (row 33 (kyv u (shF b (5 + 68 * (b 4).toNat)))).toArray, .int .i64 0]) ∧ EV u (b 4).toNat (xG (shF b 5)) (fG (shF b 5)) w' ∧ (∀ a n c, u = .slice (some a) n c → w.heap.size ≤ a.block) ∧ Ext w w' := by
  obtain ⟨oa, cp, rfl⟩ := hv.form
  replace hv := hideit hv
  obtain ⟨Q1, N1, hE1⟩ := two37 w
  replace Q1 := hideit Q1
  replace N1 := hideit N1
  replace hE1 := hideit hE1
  go_enter Try.func34, Try.ntmps34
  go_upto_region 0 with (fail)
  refine wp_region_lit ?_
  refine wpList_to rfl (.pointer (some ⟨w.heap.size, 0, none⟩)) (w.alloc (.cells zk37 37)) (by simp [go_sem, zk37]) ?_
  simp only [Act.put, List.setIfInBounds_toArray, List.set_cons_zero, List.set_cons_succ]
  go_upto_region 1 with (fail)
  refine wp_region_lit ?_
  refine wpList_to rfl (.pointer (some ⟨w.heap.size + 1, 0, none⟩)) ((w.alloc (.cells zk37 37)).alloc (.cells zk37 37)) (by simp [go_sem, zk37]) ?_
  simp only [Act.put, List.setIfInBounds_toArray, List.set_cons_zero, List.set_cons_succ]
  generalize (w.alloc (.cells zk37 37)).alloc (.cells zk37 37) = w1 at *
  obtain ⟨q, hq⟩ : ∃ q, q = w.heap.size := ⟨_, rfl⟩
  have hwq : Hid (w.heap.size ≤ q) := hideit (by omega)
  rw [← hq] at Q1 N1 ⊢
  clear hq
  have hv1 := hideit (hv.out.ext hE1.out)
  go_upto_region 5 with (go_at_call 40; refine (newr_any _ 512 b _ hv1.out (by decide)).mono ?_; rintro e w2 ⟨r, rfl, hr2, hR2, hE2⟩; replace hR2 := hideit hR2; replace hE2 := hideit hE2)
  have Q2 := hideit (Q1.out.carry hE2.out)
  have N2 := hideit (N1.out.carry hE2.out)
  have hqr : Hid (q < r) := hideit (by have := Q1.out.2.2; omega)
  have hnr : Hid (q + 1 < r) := hideit (by have := N1.out.2.2; omega)
  have hE02 := hideit (Ext.trans hE1.out hE2.out)
  have hlo : Hid (w1.heap.size ≤ r) := hideit hr2
  have hwr : Hid (w.heap.size ≤ r) := hideit (Nat.le_trans (Below.size hE1.out) hr2)
  clear hv hv1 Q1 N1 hE1 hE2 hr2
  obtain ⟨lo, hlo1⟩ : ∃ lo, lo = w1.heap.size := ⟨_, rfl⟩
  rw [← hlo1] at hR2 hlo
  clear hlo1
  unfold gK
  refine wp_region_lit ?_
  refine wpList_run rfl (.func (.func 35) #[] #[]) (by simp [go_sem]) ?_
  simp only [Act.put, List.setIfInBounds_toArray, List.set_cons_zero, List.set_cons_succ]
  refine wpList_run rfl (.pointer (some ⟨r, 0, none⟩)) (by simp [go_sem]) ?_
  simp only [Act.put, List.setIfInBounds_toArray, List.set_cons_zero, List.set_cons_succ]
  refine wpList_call rfl (by simp [go_sem]; exact ⟨rfl, rfl⟩) ?_
  refine (kbody_ok lo r b _ hR2.out hlo.out hn true (hideit ⟨fun _ => hO.out, fun _ => rfl⟩)).mono ?_
  rw [hB.out]
  rintro e w3 ⟨u, rfl, hX1, hXu, hX3, hX2⟩
  obtain ⟨u1, u3, rfl⟩ := hX1.form
  have hlw : Hid (∀ a n c, (Value.slice u1 (b 4).toNat u3) = .slice (some a) n c → w.heap.size ≤ a.block) := hideit (fun a n c hh => by have := hXu a n c hh; have := Below.size hE02.out; omega)
  have hlu : Hid (∀ a n c, (Value.slice u1 (b 4).toNat u3) = .slice (some a) n c → q < a.block) := hideit (fun a n c hh => by have := hXu a n c hh; have := Q2.out.2.2; omega)
  replace hX1 := hideit hX1
  replace hX3 := hideit hX3
  have Q3 := hideit (Q2.out.but hX2 (by have := hqr.out; omega))
  have N3 := hideit (N2.out.but hX2 (by have := hnr.out; omega))
  have hE3 := hideit (Ext.but hE02.out hX2 hwr.out)
  clear Q2 N2 hR2 hE02 hX2
  refine ⟨_, rfl, ?_⟩
  simp only [Act.put, List.setIfInBounds_toArray, List.set_cons_zero, List.set_cons_succ]
  refine wpList_run rfl (.tuple #[.agg (row 33 (kyv (.slice u1 (b 4).toNat u3) (shF b (5 + 68 * (b 4).toNat)))).toArray, .bool true]) (by simp [go_sem]) ?_
  simp only [Act.put, List.setIfInBounds_toArray, List.set_cons_zero, List.set_cons_succ]
  refine wpList_run rfl (.agg (row 33 (kyv (.slice u1 (b 4).toNat u3) (shF b (5 + 68 * (b 4).toNat)))).toArray) (by simp [go_sem]) ?_
  simp only [Act.put, List.setIfInBounds_toArray, List.set_cons_zero, List.set_cons_succ]
  refine wpList_run rfl (.bool true) (by simp [go_sem]) ?_
  simp only [Act.put, List.setIfInBounds_toArray, List.set_cons_zero, List.set_cons_succ]
  obtain ⟨H1, hA1, H2, hA2⟩ := made37 w3 (.slice u1 (b 4).toNat u3) (shF b (5 + 68 * (b 4).toNat))
  obtain ⟨s, hs⟩ : ∃ s, s = w3.heap.size := ⟨_, rfl⟩
  have hqs : Hid (q < s) := hideit (by rw [hs]; exact Q3.out.2.2)
  rw [← hs] at H1 H2 hA2
  refine wpList_to rfl (.pointer (some ⟨s, 0, none⟩)) (w3.alloc (.cells zk37 37)) (by simp [go_sem, hs, zk37]) ?_
  simp only [Act.put, List.setIfInBounds_toArray, List.set_cons_zero, List.set_cons_succ]
  refine wpList_store_mid rfl 37 (.tmp 8) (.tmp 20) rfl s 0 (row 33 (kyv (.slice u1 (b 4).toNat u3) (shF b (5 + 68 * (b 4).toNat)))).toArray rfl rfl (by rw [row_size]; exact H1.there) (by rw [row_size]; exact info37) (row_one (kyv_one _ _ _ _)) ?_
  rw [show (row 33 (kyv (.slice u1 (b 4).toNat u3) (shF b (5 + 68 * (b 4).toNat)))).toArray.toList = row 33 (kyv (.slice u1 (b 4).toNat u3) (shF b (5 + 68 * (b 4).toNat))) from rfl]
  have Q4 := hideit (Q3.out.carry hA2)
  have N4 := hideit (N3.out.carry hA2)
  have S4 := hideit H2
  have hE4 := hideit (Ext.trans hE3.out hA2)
  have V4 := hideit (hX1.out.ext hA2)
  have R4 := hideit (hX3.out.ext hA2)
  clear hX1 hX3 hXu
  clear Q3 N3 H1 H2 hA1 hA2 hE3 hs
  generalize (w3.alloc (.cells zk37 37)).setCells s 0 (row 33 (kyv (.slice u1 (b 4).toNat u3) (shF b (5 + 68 * (b 4).toNat)))) = w4 at *
  simp only [Act.put]
  have hD := rdone_any lo r (475 - 68 * (b 4).toNat) (shF b (37 + 68 * (b 4).toNat)) false _ R4.out (by omega)
  rw [hy.out, show dnI (false || !true) = 0 from rfl] at hD
  replace hD := hideit hD
  go_upto_region 8 with (go_at_call 26; refine hD.out.mono ?_; rintro e w9 ⟨rfl, hwd⟩; replace hwd := hwd.symm; subst hwd)
  clear hD R4 N4
  refine wp_region_lit ?_
  refine wpList_load_mid rfl 37 (.tmp 8) rfl _ 0 rfl (row 33 (kyv (.slice u1 (b 4).toNat u3) (shF b (5 + 68 * (b 4).toNat)))) _ S4.out.range Try.underlying37 rfl (by rw [row_length]; exact info37) ?_
  simp only [Act.put, List.setIfInBounds_toArray, List.set_cons_zero, List.set_cons_succ]
  refine wpList_store_mid rfl 37 (.tmp 4) (.tmp 30) rfl q 0 (row 33 (kyv (.slice u1 (b 4).toNat u3) (shF b (5 + 68 * (b 4).toNat)))).toArray rfl rfl (by rw [row_size]; exact Q4.out.there) (by rw [row_size]; exact info37) (row_one (kyv_one _ _ _ _)) ?_
  rw [show (row 33 (kyv (.slice u1 (b 4).toNat u3) (shF b (5 + 68 * (b 4).toNat)))).toArray.toList = row 33 (kyv (.slice u1 (b 4).toNat u3) (shF b (5 + 68 * (b 4).toNat))) from rfl]
  have h9 : Hid (RowAt q 33 (kyv (.slice u1 (b 4).toNat u3) (shF b (5 + 68 * (b 4).toNat))) (w4.setCells q 0 (row 33 (kyv (.slice u1 (b 4).toNat u3) (shF b (5 + 68 * (b 4).toNat)))))) := hideit Q4.out.cells
  have hE9 : Hid (Ext w (w4.setCells q 0 (row 33 (kyv (.slice u1 (b 4).toNat u3) (shF b (5 + 68 * (b 4).toNat)))))) := hideit (below_setCells _ hwq.out _ _ _ hE4.out)
  have V9 : Hid (EV (.slice u1 (b 4).toNat u3) (b 4).toNat (xG (shF b 5)) (fG (shF b 5)) (w4.setCells q 0 (row 33 (kyv (.slice u1 (b 4).toNat u3) (shF b (5 + 68 * (b 4).toNat)))))) := hideit (by
    rcases V4.out with h | ⟨a, o, cap, h1, h2, h3⟩
    · exact .inl h
    · exact .inr ⟨a, o, cap, h1, h2, h3.but (But.sets _ _ _ (But.refl q w4)) (by have := hlu.out _ _ _ h1; simp only at this; omega)⟩)
  clear V4
  clear S4 Q4 hE4
  generalize w4.setCells q 0 (row 33 (kyv (.slice u1 (b 4).toNat u3) (shF b (5 + 68 * (b 4).toNat)))) = w9 at *
  simp only [Act.put]
  go_wp2
  exact bodyPost_ret (ret_row2 Try.results34 rfl h9.out Try.underlying37 rfl info37) rfl ⟨_, rfl, V9.out, hlw.out, hE9.out⟩
theorem kdcl (v : Value) (l : Nat) (b : Nat → BitVec 8) (w : World) (hv : BV v l b w) (hl : l ≠ 512) :
    Calls Try.prog 34 #[v, gK] w fun e w' => e = .returned (.tuple #[.agg (row 33 (kyv (.slice none 0 0) zF)).toArray, .int .i64 110]) ∧ Ext w w' := by
  obtain ⟨oa, cp, rfl⟩ := hv.form
  exact kdc_len oa l cp hl w
/-- is it the block of keys? -/
def okK (b : Nat → BitVec 8) : Prop := eqN 4 b (bT [75, 69, 89, 83]) = true ∧ okE (b 4).toNat (xG (shF b 5)) ∧ zB (shF b (37 + 68 * (b 4).toNat)) (475 - 68 * (b 4).toNat) = true
theorem kdcn (v : Value) (b : Nat → BitVec 8) (w : World) (hv : BV v 512 b w) (hn : ¬ okK b) :
    Calls Try.prog 34 #[v, gK] w fun e w' => e = .returned (.tuple #[.agg (row 33 (kyv (.slice none 0 0) zF)).toArray, .int .i64 110]) ∧ Ext w w' := by
  by_cases h1 : (b 4).toNat = 1 ∨ (b 4).toNat = 2
  · obtain ⟨M, hM⟩ := bool_of (okE (b 4).toNat (xG (shF b 5)))
    cases hBM : (eqN 4 b (bT [75, 69, 89, 83]) && M) with
    | false => exact kdc_bad v b w hv M h1 hM hBM
    | true =>
      obtain ⟨hB, hMt⟩ := Bool.and_eq_true_iff.1 hBM
      subst hMt
      refine kdc_tail v b w hv h1 (hM.1 rfl) hBM ?_
      show _ = false
      rw [Bool.eq_false_iff]
      exact fun hz => hn ⟨hB, hM.1 rfl, hz⟩
  · exact kdc_no v b w hv h1
theorem kdcy (v : Value) (b : Nat → BitVec 8) (w : World) (hv : BV v 512 b w) (hk : okK b) :
    Calls Try.prog 34 #[v, gK] w fun e w' => ∃ u, e = .returned (.tuple #[.agg (row 33 (kyv u (shF b (5 + 68 * (b 4).toNat)))).toArray, .int .i64 0]) ∧ EV u (b 4).toNat (xG (shF b 5)) (fG (shF b 5)) w' ∧ (∀ a n c, u = .slice (some a) n c → w.heap.size ≤ a.block) ∧ Ext w w' :=
  kdc_ok v b w hv hk.2.1.1 hk.2.1 (hideit (by rw [hk.1]; rfl)) hk.2.2
set_option maxRecDepth 20000 in
set_option maxHeartbeats 2000000 in
theorem kdec_len (v : Value) (b : Nat → BitVec 8) (w : World) (l : Nat) (hv : BV v l b w) (hl : l ≠ 512) :
    Calls Try.prog 18 #[v] w fun e w' => e = .returned (.tuple #[.agg (row 33 (kyv (.slice none 0 0) zF)).toArray, .int .i64 110]) ∧ Ext w w' := by
  obtain ⟨Q1, hE1, _, _⟩ := made37 w (.slice none 0 0) zF
  replace Q1 := hideit Q1
  have k := kdcl v l b _ (hv.ext hE1) hl
  unfold gK at k
  replace k := hideit k
  replace hE1 := hideit hE1
  go_enter Try.func18, Try.ntmps18
  go_upto_region 0 with (fail)
  refine wp_region_lit ?_
  refine wpList_to rfl (.pointer (some ⟨w.heap.size, 0, none⟩)) (w.alloc (.cells zk37 37)) (by simp [go_sem, zk37]) ?_
  simp only [Act.put, List.setIfInBounds_toArray, List.set_cons_zero, List.set_cons_succ]
  have hsz : Hid ((w.alloc (.cells zk37 37)).heap.size = w.heap.size + 1) := hideit (by simp)
  generalize w.alloc (.cells zk37 37) = w1 at *
  obtain ⟨q, hq⟩ : ∃ q, q = w.heap.size := ⟨_, rfl⟩
  have hwq : Hid (w.heap.size ≤ q) := hideit (by omega)
  have hs1 : Hid (q < w1.heap.size) := hideit (by have := hsz.out; omega)
  rw [← hq] at Q1 ⊢
  clear hq hsz
  go_upto_region 1 with (fail)
  refine wp_region_lit ?_
  refine wpList_run rfl (v) (by simp [go_sem]) ?_
  simp only [Act.put, List.setIfInBounds_toArray, List.set_cons_zero, List.set_cons_succ]
  refine wpList_call rfl (by simp [go_sem]; exact ⟨rfl, rfl⟩) ?_
  refine k.out.mono ?_
  rintro e w2 ⟨rfl, hX⟩
  have Q2 := hideit (Q1.out.carry hX)
  have hE2 := hideit (Ext.trans hE1.out hX)
  clear Q1 hE1 hX k
  refine ⟨_, rfl, ?_⟩
  simp only [Act.put, List.setIfInBounds_toArray, List.set_cons_zero, List.set_cons_succ]
  refine wpList_run rfl (.agg (row 33 (kyv (.slice none 0 0) (zF))).toArray) (by simp [go_sem]) ?_
  simp only [Act.put, List.setIfInBounds_toArray, List.set_cons_zero, List.set_cons_succ]
  refine wpList_run rfl (.int .i64 110) (by simp [go_sem]) ?_
  simp only [Act.put, List.setIfInBounds_toArray, List.set_cons_zero, List.set_cons_succ]
  refine wpList_store_mid rfl 37 (.tmp 2) (.tmp 6) rfl q 0 (row 33 (kyv (.slice none 0 0) (zF))).toArray rfl rfl (by rw [row_size]; exact Q2.out.there) (by rw [row_size]; exact info37) (row_one (kyv_one _ _ _ _)) ?_
  rw [show (row 33 (kyv (.slice none 0 0) (zF))).toArray.toList = row 33 (kyv (.slice none 0 0) (zF)) from rfl]
  have h9 : Hid (RowAt q 33 (kyv (.slice none 0 0) (zF)) (w2.setCells q 0 (row 33 (kyv (.slice none 0 0) (zF))))) := hideit Q2.out.cells
  have hE9 : Hid (Ext w (w2.setCells q 0 (row 33 (kyv (.slice none 0 0) (zF))))) := hideit (below_setCells _ hwq.out _ _ _ hE2.out)
  clear Q2 hE2
  generalize w2.setCells q 0 (row 33 (kyv (.slice none 0 0) (zF))) = w9 at *
  simp only [Act.put]
  go_wp2
  exact bodyPost_ret (ret_row2 Try.results18 rfl h9.out Try.underlying37 rfl info37) rfl ⟨rfl, hE9.out⟩
set_option maxRecDepth 20000 in
set_option maxHeartbeats 2000000 in
theorem kdec_no (v : Value) (b : Nat → BitVec 8) (w : World) (hv : BV v 512 b w) (hn : ¬ okK b) :
    Calls Try.prog 18 #[v] w fun e w' => e = .returned (.tuple #[.agg (row 33 (kyv (.slice none 0 0) zF)).toArray, .int .i64 110]) ∧ Ext w w' := by
  obtain ⟨Q1, hE1, _, _⟩ := made37 w (.slice none 0 0) zF
  replace Q1 := hideit Q1
  have k := kdcn v b _ (hv.ext hE1) hn
  unfold gK at k
  replace k := hideit k
  replace hE1 := hideit hE1
  go_enter Try.func18, Try.ntmps18
  go_upto_region 0 with (fail)
  refine wp_region_lit ?_
  refine wpList_to rfl (.pointer (some ⟨w.heap.size, 0, none⟩)) (w.alloc (.cells zk37 37)) (by simp [go_sem, zk37]) ?_
  simp only [Act.put, List.setIfInBounds_toArray, List.set_cons_zero, List.set_cons_succ]
  have hsz : Hid ((w.alloc (.cells zk37 37)).heap.size = w.heap.size + 1) := hideit (by simp)
  generalize w.alloc (.cells zk37 37) = w1 at *
  obtain ⟨q, hq⟩ : ∃ q, q = w.heap.size := ⟨_, rfl⟩
  have hwq : Hid (w.heap.size ≤ q) := hideit (by omega)
  have hs1 : Hid (q < w1.heap.size) := hideit (by have := hsz.out; omega)
  rw [← hq] at Q1 ⊢
  clear hq hsz
  go_upto_region 1 with (fail)
  refine wp_region_lit ?_
  refine wpList_run rfl (v) (by simp [go_sem]) ?_
  simp only [Act.put, List.setIfInBounds_toArray, List.set_cons_zero, List.set_cons_succ]
  refine wpList_call rfl (by simp [go_sem]; exact ⟨rfl, rfl⟩) ?_
  refine k.out.mono ?_
  rintro e w2 ⟨rfl, hX⟩
  have Q2 := hideit (Q1.out.carry hX)
  have hE2 := hideit (Ext.trans hE1.out hX)
  clear Q1 hE1 hX k
  refine ⟨_, rfl, ?_⟩
  simp only [Act.put, List.setIfInBounds_toArray, List.set_cons_zero, List.set_cons_succ]
  refine wpList_run rfl (.agg (row 33 (kyv (.slice none 0 0) (zF))).toArray) (by simp [go_sem]) ?_
  simp only [Act.put, List.setIfInBounds_toArray, List.set_cons_zero, List.set_cons_succ]
  refine wpList_run rfl (.int .i64 110) (by simp [go_sem]) ?_
  simp only [Act.put, List.setIfInBounds_toArray, List.set_cons_zero, List.set_cons_succ]
  refine wpList_store_mid rfl 37 (.tmp 2) (.tmp 6) rfl q 0 (row 33 (kyv (.slice none 0 0) (zF))).toArray rfl rfl (by rw [row_size]; exact Q2.out.there) (by rw [row_size]; exact info37) (row_one (kyv_one _ _ _ _)) ?_
  rw [show (row 33 (kyv (.slice none 0 0) (zF))).toArray.toList = row 33 (kyv (.slice none 0 0) (zF)) from rfl]
  have h9 : Hid (RowAt q 33 (kyv (.slice none 0 0) (zF)) (w2.setCells q 0 (row 33 (kyv (.slice none 0 0) (zF))))) := hideit Q2.out.cells
  have hE9 : Hid (Ext w (w2.setCells q 0 (row 33 (kyv (.slice none 0 0) (zF))))) := hideit (below_setCells _ hwq.out _ _ _ hE2.out)
  clear Q2 hE2
  generalize w2.setCells q 0 (row 33 (kyv (.slice none 0 0) (zF))) = w9 at *
  simp only [Act.put]
  go_wp2
  exact bodyPost_ret (ret_row2 Try.results18 rfl h9.out Try.underlying37 rfl info37) rfl ⟨rfl, hE9.out⟩
set_option maxRecDepth 20000 in
set_option maxHeartbeats 2000000 in
theorem kdec_ok (v : Value) (b : Nat → BitVec 8) (w : World) (hv : BV v 512 b w) (hk : okK b) :
    Calls Try.prog 18 #[v] w fun e w' => ∃ u, e = .returned (.tuple #[.agg (row 33 (kyv u (shF b (5 + 68 * (b 4).toNat)))).toArray, .int .i64 0]) ∧ EV u (b 4).toNat (xG (shF b 5)) (fG (shF b 5)) w' ∧ (∀ a n c, u = .slice (some a) n c → w.heap.size ≤ a.block) ∧ Ext w w' := by
  obtain ⟨Q1, hE1, _, _⟩ := made37 w (.slice none 0 0) zF
  replace Q1 := hideit Q1
  have k := kdcy v b _ (hv.ext hE1) hk
  unfold gK at k
  replace k := hideit k
  replace hE1 := hideit hE1
  go_enter Try.func18, Try.ntmps18
  go_upto_region 0 with (fail)
  refine wp_region_lit ?_
  refine wpList_to rfl (.pointer (some ⟨w.heap.size, 0, none⟩)) (w.alloc (.cells zk37 37)) (by simp [go_sem, zk37]) ?_
  simp only [Act.put, List.setIfInBounds_toArray, List.set_cons_zero, List.set_cons_succ]
  have hsz : Hid ((w.alloc (.cells zk37 37)).heap.size = w.heap.size + 1) := hideit (by simp)
  generalize w.alloc (.cells zk37 37) = w1 at *
  obtain ⟨q, hq⟩ : ∃ q, q = w.heap.size := ⟨_, rfl⟩
  have hwq : Hid (w.heap.size ≤ q) := hideit (by omega)
  have hs1 : Hid (q < w1.heap.size) := hideit (by have := hsz.out; omega)
  rw [← hq] at Q1 ⊢
  clear hq hsz
  go_upto_region 1 with (fail)
  refine wp_region_lit ?_
  refine wpList_run rfl (v) (by simp [go_sem]) ?_
  simp only [Act.put, List.setIfInBounds_toArray, List.set_cons_zero, List.set_cons_succ]
  refine wpList_call rfl (by simp [go_sem]; exact ⟨rfl, rfl⟩) ?_
  refine k.out.mono ?_
  rintro e w2 ⟨u, rfl, hV, hlu, hX⟩
  obtain ⟨u1, u3, rfl⟩ := hV.form
  replace hV := hideit hV
  replace hlu := hideit hlu
  have Q2 := hideit (Q1.out.carry hX)
  have hE2 := hideit (Ext.trans hE1.out hX)
  clear Q1 hE1 hX k
  refine ⟨_, rfl, ?_⟩
  simp only [Act.put, List.setIfInBounds_toArray, List.set_cons_zero, List.set_cons_succ]
  refine wpList_run rfl (.agg (row 33 (kyv (.slice u1 (b 4).toNat u3) (shF b (5 + 68 * (b 4).toNat)))).toArray) (by simp [go_sem]) ?_
  simp only [Act.put, List.setIfInBounds_toArray, List.set_cons_zero, List.set_cons_succ]
  refine wpList_run rfl (.int .i64 0) (by simp [go_sem]) ?_
  simp only [Act.put, List.setIfInBounds_toArray, List.set_cons_zero, List.set_cons_succ]
  refine wpList_store_mid rfl 37 (.tmp 2) (.tmp 6) rfl q 0 (row 33 (kyv (.slice u1 (b 4).toNat u3) (shF b (5 + 68 * (b 4).toNat)))).toArray rfl rfl (by rw [row_size]; exact Q2.out.there) (by rw [row_size]; exact info37) (row_one (kyv_one _ _ _ _)) ?_
  rw [show (row 33 (kyv (.slice u1 (b 4).toNat u3) (shF b (5 + 68 * (b 4).toNat)))).toArray.toList = row 33 (kyv (.slice u1 (b 4).toNat u3) (shF b (5 + 68 * (b 4).toNat))) from rfl]
  have h9 : Hid (RowAt q 33 (kyv (.slice u1 (b 4).toNat u3) (shF b (5 + 68 * (b 4).toNat))) (w2.setCells q 0 (row 33 (kyv (.slice u1 (b 4).toNat u3) (shF b (5 + 68 * (b 4).toNat)))))) := hideit Q2.out.cells
  have hE9 : Hid (Ext w (w2.setCells q 0 (row 33 (kyv (.slice u1 (b 4).toNat u3) (shF b (5 + 68 * (b 4).toNat)))))) := hideit (below_setCells _ hwq.out _ _ _ hE2.out)
  have V9 : Hid (EV (.slice u1 (b 4).toNat u3) (b 4).toNat (xG (shF b 5)) (fG (shF b 5)) (w2.setCells q 0 (row 33 (kyv (.slice u1 (b 4).toNat u3) (shF b (5 + 68 * (b 4).toNat)))))) := hideit (by
    rcases hV.out with h | ⟨a, o, cap, h1, h2, h3⟩
    · exact .inl h
    · exact .inr ⟨a, o, cap, h1, h2, h3.but (But.sets _ _ _ (But.refl q w2)) (by have := hlu.out _ _ _ h1; simp only at this; have := hs1.out; omega)⟩)
  clear hV
  clear Q2 hE2
  generalize w2.setCells q 0 (row 33 (kyv (.slice u1 (b 4).toNat u3) (shF b (5 + 68 * (b 4).toNat)))) = w9 at *
  simp only [Act.put]
  go_wp2
  exact bodyPost_ret (ret_row2 Try.results18 rfl h9.out Try.underlying37 rfl info37) rfl ⟨_, rfl, V9.out, fun a n c hh => (by have := hlu.out a n c hh; have := hs1.out; have := hwq.out; omega), hE9.out⟩
end Go.Proofs.Ytomalmnpojcloaa
