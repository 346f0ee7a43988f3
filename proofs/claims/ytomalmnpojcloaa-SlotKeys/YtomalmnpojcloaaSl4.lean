/-
  What any bytes are as a slot.
-/
import Derived.Test.YtomalmnpojcloaaSl3
namespace Go.Proofs.Ytomalmnpojcloaa
open Go.RowKit Go.BigFrame
def gS : Value := .func (.func 25) #[] #[]
theorem size1 (w : World) (C : Array Value) (t : TypeId) : (w.alloc (.cells C t)).heap.size = w.heap.size + 1 := by simp
theorem two25 (w : World) : RowAt w.heap.size 81 (slv false zF) ((w.alloc (.cells zk25 25)).alloc (.cells zk25 25)) ∧ RowAt (w.heap.size + 1) 81 (slv false zF) ((w.alloc (.cells zk25 25)).alloc (.cells zk25 25)) ∧ Ext w ((w.alloc (.cells zk25 25)).alloc (.cells zk25 25)) := by
  rw [zc25]
  refine ⟨(RowAt.new w 81 _ 25).alloc _, ?_, ((Below.refl _ _).alloc (Nat.le_refl _) _).alloc (by simp) _⟩
  have := RowAt.new (w.alloc (.cells (row 81 (slv false zF)).toArray 25)) 81 (slv false zF) 25
  simpa using this
set_option maxRecDepth 20000 in
set_option maxHeartbeats 2000000 in
theorem dcd_len (oa : Option Addr) (l cp : Nat) (hl : l ≠ 512) (w : World) :
    Calls Try.prog 24 #[.slice oa l cp, gS] w fun e w' => e = .returned (.tuple #[.agg (row 81 (slv false zF)).toArray, .int .i64 110]) ∧ Ext w w' := by
  have hl2 : ¬ (l : Int) = 512 := by omega
  obtain ⟨Q1, N1, hE1⟩ := two25 w
  replace Q1 := hideit Q1
  replace N1 := hideit N1
  replace hE1 := hideit hE1
  go_enter Try.func24, Try.ntmps24
  go_upto_region 0 with (fail)
  refine wp_region_lit ?_
  refine wpList_to rfl (.pointer (some ⟨w.heap.size, 0, none⟩)) (w.alloc (.cells zk25 25)) (alloc25 rfl) ?_
  simp only [Act.put, List.setIfInBounds_toArray, List.set_cons_zero, List.set_cons_succ]
  go_upto_region 1 with (fail)
  refine wp_region_lit ?_
  refine wpList_to rfl (.pointer (some ⟨w.heap.size + 1, 0, none⟩)) ((w.alloc (.cells zk25 25)).alloc (.cells zk25 25)) (by rw [← size1 w zk25 25]; exact alloc25 rfl) ?_
  simp only [Act.put, List.setIfInBounds_toArray, List.set_cons_zero, List.set_cons_succ]
  go_upto_region 2 with (fail)
  generalize (w.alloc (.cells zk25 25)).alloc (.cells zk25 25) = w1 at *
  obtain ⟨q, hq⟩ : ∃ q, q = w.heap.size := ⟨_, rfl⟩
  have hwq : Hid (w.heap.size ≤ q) := hideit (by omega)
  rw [← hq] at Q1 N1 ⊢
  clear hq
  go_upto_region 3 with (fail)
  refine wp_region_lit ?_
  refine wpList_load_mid rfl 25 (.tmp 6) rfl _ 0 rfl (row 81 (slv false zF)) _ N1.out.range Try.underlying25 rfl (by rw [row_length]; exact info25) ?_
  simp only [Act.put, List.setIfInBounds_toArray, List.set_cons_zero, List.set_cons_succ]
  refine wpList_store_mid rfl 25 (.tmp 4) (.tmp 13) rfl q 0 (row 81 (slv false zF)).toArray rfl rfl (by rw [row_size]; exact Q1.out.there) (by rw [row_size]; exact info25) (row_one (slv_one _ _)) ?_
  rw [show (row 81 (slv false zF)).toArray.toList = row 81 (slv false zF) from rfl]
  have h9 : Hid (RowAt q 81 (slv false zF) (w1.setCells q 0 (row 81 (slv false zF)))) := hideit Q1.out.cells
  have hE9 : Hid (Ext w (w1.setCells q 0 (row 81 (slv false zF)))) := hideit (below_setCells _ hwq.out _ _ _ hE1.out)
  clear N1 Q1 hE1
  generalize w1.setCells q 0 (row 81 (slv false zF)) = w9 at *
  simp only [Act.put]
  go_wp2
  exact bodyPost_ret (ret_row2 Try.results24 rfl h9.out Try.underlying25 rfl info25) rfl ⟨rfl, hE9.out⟩
set_option maxRecDepth 20000 in
set_option maxHeartbeats 2000000 in
theorem dcd_zero (v : Value) (b : Nat → BitVec 8) (w : World) (hv : BV v 512 b w) (hz : Hid (zB b 512 = true)) :
    Calls Try.prog 24 #[v, gS] w fun e w' => e = .returned (.tuple #[.agg (row 81 (slv false zF)).toArray, .int .i64 0]) ∧ Ext w w' := by
  obtain ⟨oa, cp, rfl⟩ := hv.form
  replace hv := hideit hv
  obtain ⟨Q1, N1, hE1⟩ := two25 w
  replace Q1 := hideit Q1
  replace N1 := hideit N1
  replace hE1 := hideit hE1
  go_enter Try.func24, Try.ntmps24
  go_upto_region 0 with (fail)
  refine wp_region_lit ?_
  refine wpList_to rfl (.pointer (some ⟨w.heap.size, 0, none⟩)) (w.alloc (.cells zk25 25)) (alloc25 rfl) ?_
  simp only [Act.put, List.setIfInBounds_toArray, List.set_cons_zero, List.set_cons_succ]
  go_upto_region 1 with (fail)
  refine wp_region_lit ?_
  refine wpList_to rfl (.pointer (some ⟨w.heap.size + 1, 0, none⟩)) ((w.alloc (.cells zk25 25)).alloc (.cells zk25 25)) (by rw [← size1 w zk25 25]; exact alloc25 rfl) ?_
  simp only [Act.put, List.setIfInBounds_toArray, List.set_cons_zero, List.set_cons_succ]
  go_upto_region 2 with (fail)
  generalize (w.alloc (.cells zk25 25)).alloc (.cells zk25 25) = w1 at *
  obtain ⟨q, hq⟩ : ∃ q, q = w.heap.size := ⟨_, rfl⟩
  have hwq : Hid (w.heap.size ≤ q) := hideit (by omega)
  rw [← hq] at Q1 N1 ⊢
  clear hq
  have hv1 := hideit (hv.out.ext hE1.out)
  go_upto_region 5 with (go_at_call 40; refine (newr_any _ 512 b _ hv1.out (by decide)).mono ?_; rintro e w2 ⟨r, rfl, hr2, hR2, hE2⟩; replace hR2 := hideit hR2; replace hE2 := hideit hE2)
  have Q2 := hideit (Q1.out.carry hE2.out)
  have N2 := hideit (N1.out.carry hE2.out)
  have hqr : Hid (q < r) := hideit (by have := Q1.out.2.2; omega)
  have hnr : Hid (q + 1 < r) := hideit (by have := N1.out.2.2; omega)
  have hE02 := hideit (Ext.trans hE1.out hE2.out)
  have hlo : Hid (w1.heap.size ≤ r) := hideit hr2
  have hwr : Hid (w.heap.size ≤ r) := hideit (Nat.le_trans (Below.size hE1.out) hr2)
  clear hv hv1 Q1 N1 hE1 hE2 hr2
  obtain ⟨lo, hlo1⟩ : ∃ lo, lo = w1.heap.size := ⟨_, rfl⟩
  rw [← hlo1] at hR2 hlo
  clear hlo1
  unfold gS
  refine wp_region_lit ?_
  refine wpList_run rfl (.func (.func 25) #[] #[]) (by simp [go_sem]) ?_
  simp only [Act.put, List.setIfInBounds_toArray, List.set_cons_zero, List.set_cons_succ]
  refine wpList_run rfl (.pointer (some ⟨r, 0, none⟩)) (by simp [go_sem]) ?_
  simp only [Act.put, List.setIfInBounds_toArray, List.set_cons_zero, List.set_cons_succ]
  refine wpList_call rfl (by simp [go_sem]; exact ⟨rfl, rfl⟩) ?_
  refine (body_zero lo r b _ hR2.out hz.out).mono ?_
  rintro e w3 ⟨rfl, hX⟩
  have Q3 := hideit (Q2.out.carry hX)
  have N3 := hideit (N2.out.carry hX)
  have hR3 := hideit (hR2.out.ext hX)
  have hE3 := hideit (Ext.trans hE02.out hX)
  clear Q2 N2 hR2 hE02 hX
  refine ⟨_, rfl, ?_⟩
  simp only [Act.put, List.setIfInBounds_toArray, List.set_cons_zero, List.set_cons_succ]
  refine wpList_run rfl (.tuple #[.agg (row 81 (slv false zF)).toArray, .bool true]) (by simp [go_sem]) ?_
  simp only [Act.put, List.setIfInBounds_toArray, List.set_cons_zero, List.set_cons_succ]
  refine wpList_run rfl (.agg (row 81 (slv false zF)).toArray) (by simp [go_sem]) ?_
  simp only [Act.put, List.setIfInBounds_toArray, List.set_cons_zero, List.set_cons_succ]
  refine wpList_run rfl (.bool true) (by simp [go_sem]) ?_
  simp only [Act.put, List.setIfInBounds_toArray, List.set_cons_zero, List.set_cons_succ]
  obtain ⟨H1, hA1, H2, hA2⟩ := made25 w3 (false) (zF)
  obtain ⟨s, hs⟩ : ∃ s, s = w3.heap.size := ⟨_, rfl⟩
  rw [← hs] at H1 H2 hA2
  refine wpList_to rfl (.pointer (some ⟨s, 0, none⟩)) (w3.alloc (.cells zk25 25)) (by rw [hs]; exact alloc25 rfl) ?_
  simp only [Act.put, List.setIfInBounds_toArray, List.set_cons_zero, List.set_cons_succ]
  refine wpList_store_mid rfl 25 (.tmp 8) (.tmp 20) rfl s 0 (row 81 (slv false zF)).toArray rfl rfl (by rw [row_size]; exact H1.there) (by rw [row_size]; exact info25) (row_one (slv_one _ _)) ?_
  rw [show (row 81 (slv false zF)).toArray.toList = row 81 (slv false zF) from rfl]
  have Q4 := hideit (Q3.out.carry hA2)
  have N4 := hideit (N3.out.carry hA2)
  have S4 := hideit H2
  have hR4 := hideit (hR3.out.ext hA2)
  have hE4 := hideit (Ext.trans hE3.out hA2)
  clear Q3 N3 H1 H2 hA1 hA2 hR3 hE3 hs
  generalize (w3.alloc (.cells zk25 25)).setCells s 0 (row 81 (slv false zF)) = w4 at *
  simp only [Act.put]
  have hD := rdone_any lo r 512 b false _ hR4.out (by decide)
  rw [hz.out, show dnI (false || !true) = 0 from rfl] at hD
  replace hD := hideit hD
  go_upto_region 8 with (go_at_call 26; refine hD.out.mono ?_; rintro e w9 ⟨rfl, hwd⟩; replace hwd := hwd.symm; subst hwd)
  clear hD hR4 N4
  refine wp_region_lit ?_
  refine wpList_load_mid rfl 25 (.tmp 8) rfl _ 0 rfl (row 81 (slv false zF)) _ S4.out.range Try.underlying25 rfl (by rw [row_length]; exact info25) ?_
  simp only [Act.put, List.setIfInBounds_toArray, List.set_cons_zero, List.set_cons_succ]
  refine wpList_store_mid rfl 25 (.tmp 4) (.tmp 30) rfl q 0 (row 81 (slv false zF)).toArray rfl rfl (by rw [row_size]; exact Q4.out.there) (by rw [row_size]; exact info25) (row_one (slv_one _ _)) ?_
  rw [show (row 81 (slv false zF)).toArray.toList = row 81 (slv false zF) from rfl]
  have h9 : Hid (RowAt q 81 (slv false zF) (w4.setCells q 0 (row 81 (slv false zF)))) := hideit Q4.out.cells
  have hE9 : Hid (Ext w (w4.setCells q 0 (row 81 (slv false zF)))) := hideit (below_setCells _ hwq.out _ _ _ hE4.out)
  clear S4 Q4 hE4
  generalize w4.setCells q 0 (row 81 (slv false zF)) = w9 at *
  simp only [Act.put]
  go_wp2
  exact bodyPost_ret (ret_row2 Try.results24 rfl h9.out Try.underlying25 rfl info25) rfl ⟨rfl, hE9.out⟩
set_option maxRecDepth 20000 in
set_option maxHeartbeats 2000000 in
theorem dcd_act (v : Value) (b : Nat → BitVec 8) (w : World) (hv : BV v 512 b w) (hz : Hid (zB b 512 = false)) (hB : Hid (eqN 4 b (bT [83, 76, 79, 84]) = true)) (hy : Hid (zB (fun j => b (84 + j)) 428 = true)) :
    Calls Try.prog 24 #[v, gS] w fun e w' => e = .returned (.tuple #[.agg (row 81 (slv true (fun j => b (4 + j)))).toArray, .int .i64 0]) ∧ Ext w w' := by
  obtain ⟨oa, cp, rfl⟩ := hv.form
  replace hv := hideit hv
  obtain ⟨Q1, N1, hE1⟩ := two25 w
  replace Q1 := hideit Q1
  replace N1 := hideit N1
  replace hE1 := hideit hE1
  go_enter Try.func24, Try.ntmps24
  go_upto_region 0 with (fail)
  refine wp_region_lit ?_
  refine wpList_to rfl (.pointer (some ⟨w.heap.size, 0, none⟩)) (w.alloc (.cells zk25 25)) (alloc25 rfl) ?_
  simp only [Act.put, List.setIfInBounds_toArray, List.set_cons_zero, List.set_cons_succ]
  go_upto_region 1 with (fail)
  refine wp_region_lit ?_
  refine wpList_to rfl (.pointer (some ⟨w.heap.size + 1, 0, none⟩)) ((w.alloc (.cells zk25 25)).alloc (.cells zk25 25)) (by rw [← size1 w zk25 25]; exact alloc25 rfl) ?_
  simp only [Act.put, List.setIfInBounds_toArray, List.set_cons_zero, List.set_cons_succ]
  go_upto_region 2 with (fail)
  generalize (w.alloc (.cells zk25 25)).alloc (.cells zk25 25) = w1 at *
  obtain ⟨q, hq⟩ : ∃ q, q = w.heap.size := ⟨_, rfl⟩
  have hwq : Hid (w.heap.size ≤ q) := hideit (by omega)
  rw [← hq] at Q1 N1 ⊢
  clear hq
  have hv1 := hideit (hv.out.ext hE1.out)
  go_upto_region 5 with (go_at_call 40; refine (newr_any _ 512 b _ hv1.out (by decide)).mono ?_; rintro e w2 ⟨r, rfl, hr2, hR2, hE2⟩; replace hR2 := hideit hR2; replace hE2 := hideit hE2)
  have Q2 := hideit (Q1.out.carry hE2.out)
  have N2 := hideit (N1.out.carry hE2.out)
  have hqr : Hid (q < r) := hideit (by have := Q1.out.2.2; omega)
  have hnr : Hid (q + 1 < r) := hideit (by have := N1.out.2.2; omega)
  have hE02 := hideit (Ext.trans hE1.out hE2.out)
  have hlo : Hid (w1.heap.size ≤ r) := hideit hr2
  have hwr : Hid (w.heap.size ≤ r) := hideit (Nat.le_trans (Below.size hE1.out) hr2)
  clear hv hv1 Q1 N1 hE1 hE2 hr2
  obtain ⟨lo, hlo1⟩ : ∃ lo, lo = w1.heap.size := ⟨_, rfl⟩
  rw [← hlo1] at hR2 hlo
  clear hlo1
  unfold gS
  refine wp_region_lit ?_
  refine wpList_run rfl (.func (.func 25) #[] #[]) (by simp [go_sem]) ?_
  simp only [Act.put, List.setIfInBounds_toArray, List.set_cons_zero, List.set_cons_succ]
  refine wpList_run rfl (.pointer (some ⟨r, 0, none⟩)) (by simp [go_sem]) ?_
  simp only [Act.put, List.setIfInBounds_toArray, List.set_cons_zero, List.set_cons_succ]
  refine wpList_call rfl (by simp [go_sem]; exact ⟨rfl, rfl⟩) ?_
  refine (body_act lo r b _ hR2.out hlo.out hz.out).mono ?_
  rw [hB.out]
  rintro e w3 ⟨rfl, hX1, hX2⟩
  have Q3 := hideit (Q2.out.but hX2 (by have := hqr.out; omega))
  have N3 := hideit (N2.out.but hX2 (by have := hnr.out; omega))
  have hR3 := hideit hX1
  have hE3 := hideit (Ext.but hE02.out hX2 hwr.out)
  clear Q2 N2 hR2 hE02 hX1 hX2
  refine ⟨_, rfl, ?_⟩
  simp only [Act.put, List.setIfInBounds_toArray, List.set_cons_zero, List.set_cons_succ]
  refine wpList_run rfl (.tuple #[.agg (row 81 (slv true (fun j => b (4 + j)))).toArray, .bool true]) (by simp [go_sem]) ?_
  simp only [Act.put, List.setIfInBounds_toArray, List.set_cons_zero, List.set_cons_succ]
  refine wpList_run rfl (.agg (row 81 (slv true (fun j => b (4 + j)))).toArray) (by simp [go_sem]) ?_
  simp only [Act.put, List.setIfInBounds_toArray, List.set_cons_zero, List.set_cons_succ]
  refine wpList_run rfl (.bool true) (by simp [go_sem]) ?_
  simp only [Act.put, List.setIfInBounds_toArray, List.set_cons_zero, List.set_cons_succ]
  obtain ⟨H1, hA1, H2, hA2⟩ := made25 w3 (true) ((fun j => b (4 + j)))
  obtain ⟨s, hs⟩ : ∃ s, s = w3.heap.size := ⟨_, rfl⟩
  rw [← hs] at H1 H2 hA2
  refine wpList_to rfl (.pointer (some ⟨s, 0, none⟩)) (w3.alloc (.cells zk25 25)) (by rw [hs]; exact alloc25 rfl) ?_
  simp only [Act.put, List.setIfInBounds_toArray, List.set_cons_zero, List.set_cons_succ]
  refine wpList_store_mid rfl 25 (.tmp 8) (.tmp 20) rfl s 0 (row 81 (slv true (fun j => b (4 + j)))).toArray rfl rfl (by rw [row_size]; exact H1.there) (by rw [row_size]; exact info25) (row_one (slv_one _ _)) ?_
  rw [show (row 81 (slv true (fun j => b (4 + j)))).toArray.toList = row 81 (slv true (fun j => b (4 + j))) from rfl]
  have Q4 := hideit (Q3.out.carry hA2)
  have N4 := hideit (N3.out.carry hA2)
  have S4 := hideit H2
  have hR4 := hideit (hR3.out.ext hA2)
  have hE4 := hideit (Ext.trans hE3.out hA2)
  clear Q3 N3 H1 H2 hA1 hA2 hR3 hE3 hs
  generalize (w3.alloc (.cells zk25 25)).setCells s 0 (row 81 (slv true (fun j => b (4 + j)))) = w4 at *
  simp only [Act.put]
  have hD := rdone_any lo r 428 (fun j => b (84 + j)) false _ hR4.out (by decide)
  rw [hy.out, show dnI (false || !true) = 0 from rfl] at hD
  replace hD := hideit hD
  go_upto_region 8 with (go_at_call 26; refine hD.out.mono ?_; rintro e w9 ⟨rfl, hwd⟩; replace hwd := hwd.symm; subst hwd)
  clear hD hR4 N4
  refine wp_region_lit ?_
  refine wpList_load_mid rfl 25 (.tmp 8) rfl _ 0 rfl (row 81 (slv true (fun j => b (4 + j)))) _ S4.out.range Try.underlying25 rfl (by rw [row_length]; exact info25) ?_
  simp only [Act.put, List.setIfInBounds_toArray, List.set_cons_zero, List.set_cons_succ]
  refine wpList_store_mid rfl 25 (.tmp 4) (.tmp 30) rfl q 0 (row 81 (slv true (fun j => b (4 + j)))).toArray rfl rfl (by rw [row_size]; exact Q4.out.there) (by rw [row_size]; exact info25) (row_one (slv_one _ _)) ?_
  rw [show (row 81 (slv true (fun j => b (4 + j)))).toArray.toList = row 81 (slv true (fun j => b (4 + j))) from rfl]
  have h9 : Hid (RowAt q 81 (slv true (fun j => b (4 + j))) (w4.setCells q 0 (row 81 (slv true (fun j => b (4 + j)))))) := hideit Q4.out.cells
  have hE9 : Hid (Ext w (w4.setCells q 0 (row 81 (slv true (fun j => b (4 + j)))))) := hideit (below_setCells _ hwq.out _ _ _ hE4.out)
  clear S4 Q4 hE4
  generalize w4.setCells q 0 (row 81 (slv true (fun j => b (4 + j)))) = w9 at *
  simp only [Act.put]
  go_wp2
  exact bodyPost_ret (ret_row2 Try.results24 rfl h9.out Try.underlying25 rfl info25) rfl ⟨rfl, hE9.out⟩
set_option maxRecDepth 20000 in
set_option maxHeartbeats 2000000 in
theorem dcd_tail (v : Value) (b : Nat → BitVec 8) (w : World) (hv : BV v 512 b w) (hz : Hid (zB b 512 = false)) (hB : Hid (eqN 4 b (bT [83, 76, 79, 84]) = true)) (hy : Hid (zB (fun j => b (84 + j)) 428 = false)) :
    Calls Try.prog 24 #[v, gS] w fun e w' => e = .returned (.tuple #[.agg (row 81 (slv false zF)).toArray, .int .i64 110]) ∧ Ext w w' := by
  obtain ⟨oa, cp, rfl⟩ := hv.form
  replace hv := hideit hv
  obtain ⟨Q1, N1, hE1⟩ := two25 w
  replace Q1 := hideit Q1
  replace N1 := hideit N1
  replace hE1 := hideit hE1
  go_enter Try.func24, Try.ntmps24
  go_upto_region 0 with (fail)
  refine wp_region_lit ?_
  refine wpList_to rfl (.pointer (some ⟨w.heap.size, 0, none⟩)) (w.alloc (.cells zk25 25)) (alloc25 rfl) ?_
  simp only [Act.put, List.setIfInBounds_toArray, List.set_cons_zero, List.set_cons_succ]
  go_upto_region 1 with (fail)
  refine wp_region_lit ?_
  refine wpList_to rfl (.pointer (some ⟨w.heap.size + 1, 0, none⟩)) ((w.alloc (.cells zk25 25)).alloc (.cells zk25 25)) (by rw [← size1 w zk25 25]; exact alloc25 rfl) ?_
  simp only [Act.put, List.setIfInBounds_toArray, List.set_cons_zero, List.set_cons_succ]
  go_upto_region 2 with (fail)
  generalize (w.alloc (.cells zk25 25)).alloc (.cells zk25 25) = w1 at *
  obtain ⟨q, hq⟩ : ∃ q, q = w.heap.size := ⟨_, rfl⟩
  have hwq : Hid (w.heap.size ≤ q) := hideit (by omega)
  rw [← hq] at Q1 N1 ⊢
  clear hq
  have hv1 := hideit (hv.out.ext hE1.out)
  go_upto_region 5 with (go_at_call 40; refine (newr_any _ 512 b _ hv1.out (by decide)).mono ?_; rintro e w2 ⟨r, rfl, hr2, hR2, hE2⟩; replace hR2 := hideit hR2; replace hE2 := hideit hE2)
  have Q2 := hideit (Q1.out.carry hE2.out)
  have N2 := hideit (N1.out.carry hE2.out)
  have hqr : Hid (q < r) := hideit (by have := Q1.out.2.2; omega)
  have hnr : Hid (q + 1 < r) := hideit (by have := N1.out.2.2; omega)
  have hE02 := hideit (Ext.trans hE1.out hE2.out)
  have hlo : Hid (w1.heap.size ≤ r) := hideit hr2
  have hwr : Hid (w.heap.size ≤ r) := hideit (Nat.le_trans (Below.size hE1.out) hr2)
  clear hv hv1 Q1 N1 hE1 hE2 hr2
  obtain ⟨lo, hlo1⟩ : ∃ lo, lo = w1.heap.size := ⟨_, rfl⟩
  rw [← hlo1] at hR2 hlo
  clear hlo1
  unfold gS
  refine wp_region_lit ?_
  refine wpList_run rfl (.func (.func 25) #[] #[]) (by simp [go_sem]) ?_
  simp only [Act.put, List.setIfInBounds_toArray, List.set_cons_zero, List.set_cons_succ]
  refine wpList_run rfl (.pointer (some ⟨r, 0, none⟩)) (by simp [go_sem]) ?_
  simp only [Act.put, List.setIfInBounds_toArray, List.set_cons_zero, List.set_cons_succ]
  refine wpList_call rfl (by simp [go_sem]; exact ⟨rfl, rfl⟩) ?_
  refine (body_act lo r b _ hR2.out hlo.out hz.out).mono ?_
  rw [hB.out]
  rintro e w3 ⟨rfl, hX1, hX2⟩
  have Q3 := hideit (Q2.out.but hX2 (by have := hqr.out; omega))
  have N3 := hideit (N2.out.but hX2 (by have := hnr.out; omega))
  have hR3 := hideit hX1
  have hE3 := hideit (Ext.but hE02.out hX2 hwr.out)
  clear Q2 N2 hR2 hE02 hX1 hX2
  refine ⟨_, rfl, ?_⟩
  simp only [Act.put, List.setIfInBounds_toArray, List.set_cons_zero, List.set_cons_succ]
  refine wpList_run rfl (.tuple #[.agg (row 81 (slv true (fun j => b (4 + j)))).toArray, .bool true]) (by simp [go_sem]) ?_
  simp only [Act.put, List.setIfInBounds_toArray, List.set_cons_zero, List.set_cons_succ]
  refine wpList_run rfl (.agg (row 81 (slv true (fun j => b (4 + j)))).toArray) (by simp [go_sem]) ?_
  simp only [Act.put, List.setIfInBounds_toArray, List.set_cons_zero, List.set_cons_succ]
  refine wpList_run rfl (.bool true) (by simp [go_sem]) ?_
  simp only [Act.put, List.setIfInBounds_toArray, List.set_cons_zero, List.set_cons_succ]
  obtain ⟨H1, hA1, H2, hA2⟩ := made25 w3 (true) ((fun j => b (4 + j)))
  obtain ⟨s, hs⟩ : ∃ s, s = w3.heap.size := ⟨_, rfl⟩
  rw [← hs] at H1 H2 hA2
  refine wpList_to rfl (.pointer (some ⟨s, 0, none⟩)) (w3.alloc (.cells zk25 25)) (by rw [hs]; exact alloc25 rfl) ?_
  simp only [Act.put, List.setIfInBounds_toArray, List.set_cons_zero, List.set_cons_succ]
  refine wpList_store_mid rfl 25 (.tmp 8) (.tmp 20) rfl s 0 (row 81 (slv true (fun j => b (4 + j)))).toArray rfl rfl (by rw [row_size]; exact H1.there) (by rw [row_size]; exact info25) (row_one (slv_one _ _)) ?_
  rw [show (row 81 (slv true (fun j => b (4 + j)))).toArray.toList = row 81 (slv true (fun j => b (4 + j))) from rfl]
  have Q4 := hideit (Q3.out.carry hA2)
  have N4 := hideit (N3.out.carry hA2)
  have S4 := hideit H2
  have hR4 := hideit (hR3.out.ext hA2)
  have hE4 := hideit (Ext.trans hE3.out hA2)
  clear Q3 N3 H1 H2 hA1 hA2 hR3 hE3 hs
  generalize (w3.alloc (.cells zk25 25)).setCells s 0 (row 81 (slv true (fun j => b (4 + j)))) = w4 at *
  simp only [Act.put]
  have hD := rdone_any lo r 428 (fun j => b (84 + j)) false _ hR4.out (by decide)
  rw [hy.out, show dnI (false || !false) = 90 from rfl] at hD
  replace hD := hideit hD
  go_upto_region 7 with (go_at_call 26; refine hD.out.mono ?_; rintro e w9 ⟨rfl, hwd⟩; replace hwd := hwd.symm; subst hwd)
  clear hD hR4 S4
  refine wp_region_lit ?_
  refine wpList_load_mid rfl 25 (.tmp 6) rfl _ 0 rfl (row 81 (slv false zF)) _ N4.out.range Try.underlying25 rfl (by rw [row_length]; exact info25) ?_
  simp only [Act.put, List.setIfInBounds_toArray, List.set_cons_zero, List.set_cons_succ]
  refine wpList_store_mid rfl 25 (.tmp 4) (.tmp 29) rfl q 0 (row 81 (slv false zF)).toArray rfl rfl (by rw [row_size]; exact Q4.out.there) (by rw [row_size]; exact info25) (row_one (slv_one _ _)) ?_
  rw [show (row 81 (slv false zF)).toArray.toList = row 81 (slv false zF) from rfl]
  have h9 : Hid (RowAt q 81 (slv false zF) (w4.setCells q 0 (row 81 (slv false zF)))) := hideit Q4.out.cells
  have hE9 : Hid (Ext w (w4.setCells q 0 (row 81 (slv false zF)))) := hideit (below_setCells _ hwq.out _ _ _ hE4.out)
  clear N4 Q4 hE4
  generalize w4.setCells q 0 (row 81 (slv false zF)) = w9 at *
  simp only [Act.put]
  go_wp2
  exact bodyPost_ret (ret_row2 Try.results24 rfl h9.out Try.underlying25 rfl info25) rfl ⟨rfl, hE9.out⟩
set_option maxRecDepth 20000 in
set_option maxHeartbeats 2000000 in
theorem dcd_mark (v : Value) (b : Nat → BitVec 8) (w : World) (hv : BV v 512 b w) (hz : Hid (zB b 512 = false)) (hB : Hid (eqN 4 b (bT [83, 76, 79, 84]) = false)) :
    Calls Try.prog 24 #[v, gS] w fun e w' => e = .returned (.tuple #[.agg (row 81 (slv false zF)).toArray, .int .i64 110]) ∧ Ext w w' := by
  obtain ⟨oa, cp, rfl⟩ := hv.form
  replace hv := hideit hv
  obtain ⟨Q1, N1, hE1⟩ := two25 w
  replace Q1 := hideit Q1
  replace N1 := hideit N1
  replace hE1 := hideit hE1
  go_enter Try.func24, Try.ntmps24
  go_upto_region 0 with (fail)
  refine wp_region_lit ?_
  refine wpList_to rfl (.pointer (some ⟨w.heap.size, 0, none⟩)) (w.alloc (.cells zk25 25)) (alloc25 rfl) ?_
  simp only [Act.put, List.setIfInBounds_toArray, List.set_cons_zero, List.set_cons_succ]
  go_upto_region 1 with (fail)
  refine wp_region_lit ?_
  refine wpList_to rfl (.pointer (some ⟨w.heap.size + 1, 0, none⟩)) ((w.alloc (.cells zk25 25)).alloc (.cells zk25 25)) (by rw [← size1 w zk25 25]; exact alloc25 rfl) ?_
  simp only [Act.put, List.setIfInBounds_toArray, List.set_cons_zero, List.set_cons_succ]
  go_upto_region 2 with (fail)
  generalize (w.alloc (.cells zk25 25)).alloc (.cells zk25 25) = w1 at *
  obtain ⟨q, hq⟩ : ∃ q, q = w.heap.size := ⟨_, rfl⟩
  have hwq : Hid (w.heap.size ≤ q) := hideit (by omega)
  rw [← hq] at Q1 N1 ⊢
  clear hq
  have hv1 := hideit (hv.out.ext hE1.out)
  go_upto_region 5 with (go_at_call 40; refine (newr_any _ 512 b _ hv1.out (by decide)).mono ?_; rintro e w2 ⟨r, rfl, hr2, hR2, hE2⟩; replace hR2 := hideit hR2; replace hE2 := hideit hE2)
  have Q2 := hideit (Q1.out.carry hE2.out)
  have N2 := hideit (N1.out.carry hE2.out)
  have hqr : Hid (q < r) := hideit (by have := Q1.out.2.2; omega)
  have hnr : Hid (q + 1 < r) := hideit (by have := N1.out.2.2; omega)
  have hE02 := hideit (Ext.trans hE1.out hE2.out)
  have hlo : Hid (w1.heap.size ≤ r) := hideit hr2
  have hwr : Hid (w.heap.size ≤ r) := hideit (Nat.le_trans (Below.size hE1.out) hr2)
  clear hv hv1 Q1 N1 hE1 hE2 hr2
  obtain ⟨lo, hlo1⟩ : ∃ lo, lo = w1.heap.size := ⟨_, rfl⟩
  rw [← hlo1] at hR2 hlo
  clear hlo1
  unfold gS
  refine wp_region_lit ?_
  refine wpList_run rfl (.func (.func 25) #[] #[]) (by simp [go_sem]) ?_
  simp only [Act.put, List.setIfInBounds_toArray, List.set_cons_zero, List.set_cons_succ]
  refine wpList_run rfl (.pointer (some ⟨r, 0, none⟩)) (by simp [go_sem]) ?_
  simp only [Act.put, List.setIfInBounds_toArray, List.set_cons_zero, List.set_cons_succ]
  refine wpList_call rfl (by simp [go_sem]; exact ⟨rfl, rfl⟩) ?_
  refine (body_act lo r b _ hR2.out hlo.out hz.out).mono ?_
  rw [hB.out]
  rintro e w3 ⟨rfl, hX1, hX2⟩
  have Q3 := hideit (Q2.out.but hX2 (by have := hqr.out; omega))
  have N3 := hideit (N2.out.but hX2 (by have := hnr.out; omega))
  have hR3 := hideit hX1
  have hE3 := hideit (Ext.but hE02.out hX2 hwr.out)
  clear Q2 N2 hR2 hE02 hX1 hX2
  refine ⟨_, rfl, ?_⟩
  simp only [Act.put, List.setIfInBounds_toArray, List.set_cons_zero, List.set_cons_succ]
  refine wpList_run rfl (.tuple #[.agg (row 81 (slv true (fun j => b (4 + j)))).toArray, .bool false]) (by simp [go_sem]) ?_
  simp only [Act.put, List.setIfInBounds_toArray, List.set_cons_zero, List.set_cons_succ]
  refine wpList_run rfl (.agg (row 81 (slv true (fun j => b (4 + j)))).toArray) (by simp [go_sem]) ?_
  simp only [Act.put, List.setIfInBounds_toArray, List.set_cons_zero, List.set_cons_succ]
  refine wpList_run rfl (.bool false) (by simp [go_sem]) ?_
  simp only [Act.put, List.setIfInBounds_toArray, List.set_cons_zero, List.set_cons_succ]
  obtain ⟨H1, hA1, H2, hA2⟩ := made25 w3 (true) ((fun j => b (4 + j)))
  obtain ⟨s, hs⟩ : ∃ s, s = w3.heap.size := ⟨_, rfl⟩
  rw [← hs] at H1 H2 hA2
  refine wpList_to rfl (.pointer (some ⟨s, 0, none⟩)) (w3.alloc (.cells zk25 25)) (by rw [hs]; exact alloc25 rfl) ?_
  simp only [Act.put, List.setIfInBounds_toArray, List.set_cons_zero, List.set_cons_succ]
  refine wpList_store_mid rfl 25 (.tmp 8) (.tmp 20) rfl s 0 (row 81 (slv true (fun j => b (4 + j)))).toArray rfl rfl (by rw [row_size]; exact H1.there) (by rw [row_size]; exact info25) (row_one (slv_one _ _)) ?_
  rw [show (row 81 (slv true (fun j => b (4 + j)))).toArray.toList = row 81 (slv true (fun j => b (4 + j))) from rfl]
  have Q4 := hideit (Q3.out.carry hA2)
  have N4 := hideit (N3.out.carry hA2)
  have S4 := hideit H2
  have hR4 := hideit (hR3.out.ext hA2)
  have hE4 := hideit (Ext.trans hE3.out hA2)
  clear Q3 N3 H1 H2 hA1 hA2 hR3 hE3 hs
  generalize (w3.alloc (.cells zk25 25)).setCells s 0 (row 81 (slv true (fun j => b (4 + j)))) = w4 at *
  simp only [Act.put]
  go_upto_region 7 with (fail)
  clear hR4 S4
  refine wp_region_lit ?_
  refine wpList_load_mid rfl 25 (.tmp 6) rfl _ 0 rfl (row 81 (slv false zF)) _ N4.out.range Try.underlying25 rfl (by rw [row_length]; exact info25) ?_
  simp only [Act.put, List.setIfInBounds_toArray, List.set_cons_zero, List.set_cons_succ]
  refine wpList_store_mid rfl 25 (.tmp 4) (.tmp 29) rfl q 0 (row 81 (slv false zF)).toArray rfl rfl (by rw [row_size]; exact Q4.out.there) (by rw [row_size]; exact info25) (row_one (slv_one _ _)) ?_
  rw [show (row 81 (slv false zF)).toArray.toList = row 81 (slv false zF) from rfl]
  have h9 : Hid (RowAt q 81 (slv false zF) (w4.setCells q 0 (row 81 (slv false zF)))) := hideit Q4.out.cells
  have hE9 : Hid (Ext w (w4.setCells q 0 (row 81 (slv false zF)))) := hideit (below_setCells _ hwq.out _ _ _ hE4.out)
  clear N4 Q4 hE4
  generalize w4.setCells q 0 (row 81 (slv false zF)) = w9 at *
  simp only [Act.put]
  go_wp2
  exact bodyPost_ret (ret_row2 Try.results24 rfl h9.out Try.underlying25 rfl info25) rfl ⟨rfl, hE9.out⟩
set_option maxRecDepth 20000 in
set_option maxHeartbeats 2000000 in
theorem decS (v : Value) (a : Bool) (f : Nat → BitVec 8) (n : Int) (w : World) (h : ∀ X, Ext w X → Calls Try.prog 24 #[v, gS] X fun e w' => e = .returned (.tuple #[.agg (row 81 (slv a f)).toArray, .int .i64 n]) ∧ Ext X w') :
    Calls Try.prog 11 #[v] w fun e w' => e = .returned (.tuple #[.agg (row 81 (slv a f)).toArray, .int .i64 n]) ∧ Ext w w' := by
  obtain ⟨Q1, hE1, _, _⟩ := made25 w false zF
  replace Q1 := hideit Q1
  replace h := hideit (h _ hE1)
  unfold gS at h
  replace hE1 := hideit hE1
  go_enter Try.func11, Try.ntmps11
  go_upto_region 0 with (fail)
  refine wp_region_lit ?_
  refine wpList_to rfl (.pointer (some ⟨w.heap.size, 0, none⟩)) (w.alloc (.cells zk25 25)) (alloc25 rfl) ?_
  simp only [Act.put, List.setIfInBounds_toArray, List.set_cons_zero, List.set_cons_succ]
  go_upto_region 1 with (fail)
  generalize w.alloc (.cells zk25 25) = w1 at *
  obtain ⟨q, hq⟩ : ∃ q, q = w.heap.size := ⟨_, rfl⟩
  have hwq : Hid (w.heap.size ≤ q) := hideit (by omega)
  rw [← hq] at Q1 ⊢
  clear hq
  refine wp_region_lit ?_
  refine wpList_run rfl (v) (by simp [go_sem]) ?_
  simp only [Act.put, List.setIfInBounds_toArray, List.set_cons_zero, List.set_cons_succ]
  refine wpList_call rfl (by simp [go_sem]; exact ⟨rfl, rfl⟩) ?_
  refine h.out.mono ?_
  rintro e w2 ⟨rfl, hX⟩
  have Q2 := hideit (Q1.out.carry hX)
  have hE2 := hideit (Ext.trans hE1.out hX)
  clear Q1 hE1 hX h
  refine ⟨_, rfl, ?_⟩
  simp only [Act.put, List.setIfInBounds_toArray, List.set_cons_zero, List.set_cons_succ]
  refine wpList_run rfl (.agg (row 81 (slv a f)).toArray) (by simp [go_sem]) ?_
  simp only [Act.put, List.setIfInBounds_toArray, List.set_cons_zero, List.set_cons_succ]
  refine wpList_run rfl (.int .i64 n) (by simp [go_sem]) ?_
  simp only [Act.put, List.setIfInBounds_toArray, List.set_cons_zero, List.set_cons_succ]
  refine wpList_store_mid rfl 25 (.tmp 2) (.tmp 6) rfl q 0 (row 81 (slv a f)).toArray rfl rfl (by rw [row_size]; exact Q2.out.there) (by rw [row_size]; exact info25) (row_one (slv_one _ _)) ?_
  rw [show (row 81 (slv a f)).toArray.toList = row 81 (slv a f) from rfl]
  have h9 : Hid (RowAt q 81 (slv a f) (w2.setCells q 0 (row 81 (slv a f)))) := hideit Q2.out.cells
  have hE9 : Hid (Ext w (w2.setCells q 0 (row 81 (slv a f)))) := hideit (below_setCells _ hwq.out _ _ _ hE2.out)
  clear Q2 hE2
  generalize w2.setCells q 0 (row 81 (slv a f)) = w9 at *
  simp only [Act.put]
  go_wp2
  exact bodyPost_ret (ret_row2 Try.results11 rfl h9.out Try.underlying25 rfl info25) rfl ⟨rfl, hE9.out⟩
theorem dec_len (v : Value) (l : Nat) (b : Nat → BitVec 8) (w : World) (hv : BV v l b w) (hl : l ≠ 512) : Calls Try.prog 11 #[v] w fun e w' => e = .returned (.tuple #[.agg (row 81 (slv false zF)).toArray, .int .i64 110]) ∧ Ext w w' := by
  obtain ⟨oa, cp, rfl⟩ := hv.form
  exact decS _ _ _ _ w fun X _ => dcd_len oa l cp hl X
theorem dec_zero (v : Value) (b : Nat → BitVec 8) (w : World) (hv : BV v 512 b w) (hz : zB b 512 = true) : Calls Try.prog 11 #[v] w fun e w' => e = .returned (.tuple #[.agg (row 81 (slv false zF)).toArray, .int .i64 0]) ∧ Ext w w' :=
  decS _ _ _ _ w fun X hX => dcd_zero v b X (hv.ext hX) hz
/-- is it the block of a slot that is taken? -/
def okS (b : Nat → BitVec 8) : Bool := eqN 4 b (bT [83, 76, 79, 84]) && zB (fun j => b (84 + j)) 428
theorem dec_act (v : Value) (b : Nat → BitVec 8) (w : World) (hv : BV v 512 b w) (hz : zB b 512 = false) (ho : okS b = true) : Calls Try.prog 11 #[v] w fun e w' => e = .returned (.tuple #[.agg (row 81 (slv true fun j => b (4 + j))).toArray, .int .i64 0]) ∧ Ext w w' := by
  unfold okS at ho
  rw [Bool.and_eq_true] at ho
  exact decS _ _ _ _ w fun X hX => dcd_act v b X (hv.ext hX) hz ho.1 ho.2
theorem dec_bad (v : Value) (b : Nat → BitVec 8) (w : World) (hv : BV v 512 b w) (hz : zB b 512 = false) (ho : okS b = false) : Calls Try.prog 11 #[v] w fun e w' => e = .returned (.tuple #[.agg (row 81 (slv false zF)).toArray, .int .i64 110]) ∧ Ext w w' := by
  unfold okS at ho
  cases hB : eqN 4 b (bT [83, 76, 79, 84]) with
  | false => exact decS _ _ _ _ w fun X hX => dcd_mark v b X (hv.ext hX) hz hB
  | true =>
    rw [hB, Bool.true_and] at ho
    exact decS _ _ _ _ w fun X hX => dcd_tail v b X (hv.ext hX) hz hB ho
end Go.Proofs.Ytomalmnpojcloaa
