/-
  What a Reader tells of an epoch; of a list of them.
-/
import Derived.Test.YtomalmnpojcloaaKy3
import Derived.Test.YtomalmnpojcloaaOwnK
namespace Go.Proofs.Ytomalmnpojcloaa
open Go.RowKit Go.BigFrame
theorem build51 (x : Int) (w : World) : (Instr.build 51 #[(0, .int .i64 x)]).run Try.prog w = .ok (.agg (row 65 (epv x zF)).toArray) w := run_build w 51 _ _ (by kernel_rfl)
theorem shF_two (f : Nat → BitVec 8) (a b : Nat) : shF (shF f a) b = shF f (a + b) := by
  funext j; unfold shF; rw [Nat.add_assoc]
theorem ep_fill (x : Int) (f : Nat → BitVec 8) (j : Nat) (hj : j < 65) : (if 1 ≤ j ∧ j < 1 + 64 then yv (shF f 4) (j - 1) else epv x zF j) = epv x (fun j => f (4 + j)) j := by
  unfold epv yv shF
  by_cases h0 : j = 0
  · rw [if_neg (by omega), if_pos h0, if_pos h0]
  · rw [if_pos (by omega), if_neg h0]
set_option maxRecDepth 20000 in
set_option maxHeartbeats 2000000 in
theorem get1_ok (lo r l : Nat) (f : Nat → BitVec 8) (w : World) (h : Rd lo r l f false w) (hlo : lo ≤ r) (hn : 68 ≤ l) (hl : l ≤ 140737488355328) :
    Calls Try.prog 38 #[.pointer (some ⟨r, 0, none⟩)] w fun e w' => e = .returned (.agg (row 65 (epv ((leN f 4).toNat : Int) (fun j => f (4 + j)))).toArray) ∧ Rd lo r (l - 68) (shF f 68) false w' ∧ But r w w' := by
  obtain ⟨y, hy⟩ : ∃ y, y = leN f 4 := ⟨_, rfl⟩
  have hy4 : y.toNat < 4294967296 := by
    rw [hy, (leN_nat f 4 (by decide)).1]
    exact (leN_nat f 4 (by decide)).2
  have hu : IntKind.i64.wrap (y.toNat : Int) = (y.toNat : Int) := by rw [IntKind.wrap_i64]; omega
  rw [← hy]
  replace hy := hideit hy
  have hrw := hideit h.lt
  obtain ⟨Q1, hE1, _, _⟩ := made51 w 0 zF
  replace Q1 := hideit Q1
  have R1 := hideit (h.ext hE1)
  replace hE1 := hideit hE1
  clear h
  go_enter Try.func38, Try.ntmps38
  go_upto_region 0 with (fail)
  refine wp_region_lit ?_
  refine wpList_to rfl (.pointer (some ⟨w.heap.size, 0, none⟩)) (w.alloc (.cells zk51 51)) (alloc51 rfl) ?_
  simp only [Act.put, List.setIfInBounds_toArray, List.set_cons_zero, List.set_cons_succ]
  go_upto_region 1 with (fail)
  generalize w.alloc (.cells zk51 51) = w1 at *
  obtain ⟨q, hq⟩ : ∃ q, q = w.heap.size := ⟨_, rfl⟩
  have hwq : Hid (w.heap.size ≤ q) := hideit (by omega)
  have hrq : Hid (r < q) := hideit (by have := hrw.out; omega)
  rw [← hq] at Q1 ⊢
  clear hq
  refine wp_region_lit ?_
  refine wpList_run rfl (.pointer (some ⟨r, 0, none⟩)) (by simp [go_sem]) ?_
  simp only [Act.put, List.setIfInBounds_toArray, List.set_cons_zero, List.set_cons_succ]
  refine wpList_call rfl (by simp [go_sem]; exact ⟨rfl, rfl⟩) ?_
  refine (ruint_ok lo r l 4 f _ R1.out (by omega) (by decide) (by decide)).mono ?_
  rintro e w2 ⟨he, hR2, hB2⟩
  rw [← hy.out] at he
  subst he
  refine ⟨_, rfl, ?_⟩
  simp only [Act.put, List.setIfInBounds_toArray, List.set_cons_zero, List.set_cons_succ]
  have Q2 := hideit (Q1.out.but hB2 (by have := hrq.out; omega))
  have hB02 := hideit ((But.of_ext (c := r) hE1.out).trans hB2)
  replace hR2 := hideit hR2
  clear Q1 R1 hE1 hB2
  refine wpList_run rfl (.int .i64 (y.toNat : Int)) (by simp [go_sem, hu]) ?_
  simp only [Act.put, List.setIfInBounds_toArray, List.set_cons_zero, List.set_cons_succ]
  refine wpList_build rfl 51 [(0, .tmp 6)] rfl (.agg (row 65 (epv (y.toNat : Int) zF)).toArray) (build51 _ _) ?_
  simp only [Act.put, List.setIfInBounds_toArray, List.set_cons_zero, List.set_cons_succ]
  obtain ⟨H1, hA1, H2, hA2⟩ := made51 w2 (y.toNat : Int) zF
  obtain ⟨s, hs⟩ : ∃ s, s = w2.heap.size := ⟨_, rfl⟩
  rw [← hs] at H1 H2 hA2
  have hqs : Hid (q < s) := hideit (by rw [hs]; exact Q2.out.2.2)
  have hrs : Hid (r < s) := hideit (by have := hrq.out; have := hqs.out; omega)
  have hws : Hid (w.heap.size ≤ s) := hideit (by have := hwq.out; have := hqs.out; omega)
  refine wpList_to rfl (.pointer (some ⟨s, 0, none⟩)) (w2.alloc (.cells zk51 51)) (by rw [hs]; exact alloc51 rfl) ?_
  simp only [Act.put, List.setIfInBounds_toArray, List.set_cons_zero, List.set_cons_succ]
  refine wpList_store_mid rfl 51 (.tmp 3) (.tmp 7) rfl s 0 (row 65 (epv (y.toNat : Int) zF)).toArray rfl rfl (by rw [row_size]; exact H1.there) (by rw [row_size]; exact info51) (row_one (epv_one _ _)) ?_
  rw [show (row 65 (epv (y.toNat : Int) zF)).toArray.toList = row 65 (epv (y.toNat : Int) zF) from rfl]
  have Q3 := hideit (Q2.out.carry hA2)
  have R3 := hideit (hR2.out.ext hA2)
  have S3 := hideit H2
  have hB03 := hideit (hB02.out.ext hA2)
  clear H1 hA1 H2 hA2 hs Q2 hR2 hB02
  generalize (w2.alloc (.cells zk51 51)).setCells s 0 (row 65 (epv (y.toNat : Int) zF)) = w3 at *
  simp only [Act.put]
  have kf := hideit (fill_ok lo r (l - 4) s 65 1 64 (shF f 4) (epv (y.toNat : Int) zF) w3 R3.out (by omega) (by omega) S3.out (by have := hrs.out; omega) (by decide) (by decide))
  go_upto_region 3 with (go_at_call 28; refine kf.out.mono ?_; rintro e w4 ⟨rfl, X, hX1, hX2, hX3⟩; replace hX1 := hideit hX1; replace hX2 := hideit hX2; replace hX3 := hideit hX3)
  have S4 : Hid (RowAt s 65 (epv (y.toNat : Int) (fun j => f (4 + j))) w4) := hideit (by rw [hX2.out]; exact ((S3.out.but hX1.out (by have := hrs.out; omega)).part 1 64 _ (by decide)).congr fun j hj => ep_fill _ f j hj)
  have Q4 : Hid (RowAt q 65 (epv 0 zF) w4) := hideit (by rw [hX2.out]; exact (Q3.out.but hX1.out (by have := hrq.out; omega)).cellsOther (by have := hqs.out; omega) _ _)
  have R4 : Hid (Rd lo r (l - 68) (shF f 68) false w4) := hideit (by rw [hX2.out]; have h9 := hX3.out; rw [shF_two] at h9; have := h9.set (o := 1) hrs.out hlo (row 64 (yv (shF f 4))); rwa [show l - 4 - 64 = l - 68 by omega] at this)
  have hB04 : Hid (But r w w4) := hideit (by rw [hX2.out]; exact but_new (hB03.out.trans hX1.out) hws.out _)
  clear hX1 hX2 hX3
  clear kf Q3 R3 S3 hB03
  refine wp_region_lit ?_
  refine wpList_load_mid rfl 51 (.tmp 3) rfl s 0 rfl (row 65 (epv (y.toNat : Int) (fun j => f (4 + j)))) _ S4.out.range Try.underlying51 rfl (by rw [row_length]; exact info51) ?_
  simp only [Act.put, List.setIfInBounds_toArray, List.set_cons_zero, List.set_cons_succ]
  refine wpList_store_mid rfl 51 (.tmp 2) (.tmp 12) rfl q 0 (row 65 (epv (y.toNat : Int) (fun j => f (4 + j)))).toArray rfl rfl (by rw [row_size]; exact Q4.out.there) (by rw [row_size]; exact info51) (row_one (epv_one _ _)) ?_
  rw [show (row 65 (epv (y.toNat : Int) (fun j => f (4 + j)))).toArray.toList = row 65 (epv (y.toNat : Int) (fun j => f (4 + j))) from rfl]
  have h9 : Hid (RowAt q 65 (epv (y.toNat : Int) (fun j => f (4 + j))) (w4.setCells q 0 (row 65 (epv (y.toNat : Int) (fun j => f (4 + j)))))) := hideit Q4.out.cells
  have R9 := hideit (R4.out.set (o := 0) hrq.out hlo (row 65 (epv (y.toNat : Int) (fun j => f (4 + j)))))
  have hB9 := hideit (but_new (o := 0) hB04.out hwq.out (row 65 (epv (y.toNat : Int) (fun j => f (4 + j)))))
  clear S4 Q4 R4 hB04
  generalize w4.setCells q 0 (row 65 (epv (y.toNat : Int) (fun j => f (4 + j)))) = w9 at *
  simp only [Act.put]
  go_wp2
  exact bodyPost_ret (ret_row Try.results38 rfl h9.out Try.underlying51 rfl info51) rfl ⟨rfl, R9.out, hB9.out⟩
set_option maxRecDepth 20000 in
set_option maxHeartbeats 2000000 in
theorem get1_mid (lo r l : Nat) (f : Nat → BitVec 8) (w : World) (h : Rd lo r l f false w) (hlo : lo ≤ r) (hn : l < 68) (hn4 : 4 ≤ l) :
    Calls Try.prog 38 #[.pointer (some ⟨r, 0, none⟩)] w fun e w' => ∃ x g k p, e = .returned (.agg (row 65 (epv x g)).toArray) ∧ Rd lo r k p true w' ∧ But r w w' := by
  obtain ⟨y, hy⟩ : ∃ y, y = leN f 4 := ⟨_, rfl⟩
  have hy4 : y.toNat < 4294967296 := by
    rw [hy, (leN_nat f 4 (by decide)).1]
    exact (leN_nat f 4 (by decide)).2
  have hu : IntKind.i64.wrap (y.toNat : Int) = (y.toNat : Int) := by rw [IntKind.wrap_i64]; omega
  replace hy := hideit hy
  have hrw := hideit h.lt
  obtain ⟨Q1, hE1, _, _⟩ := made51 w 0 zF
  replace Q1 := hideit Q1
  have R1 := hideit (h.ext hE1)
  replace hE1 := hideit hE1
  clear h
  go_enter Try.func38, Try.ntmps38
  go_upto_region 0 with (fail)
  refine wp_region_lit ?_
  refine wpList_to rfl (.pointer (some ⟨w.heap.size, 0, none⟩)) (w.alloc (.cells zk51 51)) (alloc51 rfl) ?_
  simp only [Act.put, List.setIfInBounds_toArray, List.set_cons_zero, List.set_cons_succ]
  go_upto_region 1 with (fail)
  generalize w.alloc (.cells zk51 51) = w1 at *
  obtain ⟨q, hq⟩ : ∃ q, q = w.heap.size := ⟨_, rfl⟩
  have hwq : Hid (w.heap.size ≤ q) := hideit (by omega)
  have hrq : Hid (r < q) := hideit (by have := hrw.out; omega)
  rw [← hq] at Q1 ⊢
  clear hq
  refine wp_region_lit ?_
  refine wpList_run rfl (.pointer (some ⟨r, 0, none⟩)) (by simp [go_sem]) ?_
  simp only [Act.put, List.setIfInBounds_toArray, List.set_cons_zero, List.set_cons_succ]
  refine wpList_call rfl (by simp [go_sem]; exact ⟨rfl, rfl⟩) ?_
  refine (ruint_ok lo r l 4 f _ R1.out (by omega) (by decide) (by decide)).mono ?_
  rintro e w2 ⟨he, hR2, hB2⟩
  rw [← hy.out] at he
  subst he
  refine ⟨_, rfl, ?_⟩
  simp only [Act.put, List.setIfInBounds_toArray, List.set_cons_zero, List.set_cons_succ]
  have Q2 := hideit (Q1.out.but hB2 (by have := hrq.out; omega))
  have hB02 := hideit ((But.of_ext (c := r) hE1.out).trans hB2)
  replace hR2 := hideit hR2
  clear Q1 R1 hE1 hB2
  refine wpList_run rfl (.int .i64 (y.toNat : Int)) (by simp [go_sem, hu]) ?_
  simp only [Act.put, List.setIfInBounds_toArray, List.set_cons_zero, List.set_cons_succ]
  refine wpList_build rfl 51 [(0, .tmp 6)] rfl (.agg (row 65 (epv (y.toNat : Int) zF)).toArray) (build51 _ _) ?_
  simp only [Act.put, List.setIfInBounds_toArray, List.set_cons_zero, List.set_cons_succ]
  obtain ⟨H1, hA1, H2, hA2⟩ := made51 w2 (y.toNat : Int) zF
  obtain ⟨s, hs⟩ : ∃ s, s = w2.heap.size := ⟨_, rfl⟩
  rw [← hs] at H1 H2 hA2
  have hqs : Hid (q < s) := hideit (by rw [hs]; exact Q2.out.2.2)
  have hrs : Hid (r < s) := hideit (by have := hrq.out; have := hqs.out; omega)
  have hws : Hid (w.heap.size ≤ s) := hideit (by have := hwq.out; have := hqs.out; omega)
  refine wpList_to rfl (.pointer (some ⟨s, 0, none⟩)) (w2.alloc (.cells zk51 51)) (by rw [hs]; exact alloc51 rfl) ?_
  simp only [Act.put, List.setIfInBounds_toArray, List.set_cons_zero, List.set_cons_succ]
  refine wpList_store_mid rfl 51 (.tmp 3) (.tmp 7) rfl s 0 (row 65 (epv (y.toNat : Int) zF)).toArray rfl rfl (by rw [row_size]; exact H1.there) (by rw [row_size]; exact info51) (row_one (epv_one _ _)) ?_
  rw [show (row 65 (epv (y.toNat : Int) zF)).toArray.toList = row 65 (epv (y.toNat : Int) zF) from rfl]
  have Q3 := hideit (Q2.out.carry hA2)
  have R3 := hideit (hR2.out.ext hA2)
  have S3 := hideit H2
  have hB03 := hideit (hB02.out.ext hA2)
  clear H1 hA1 H2 hA2 hs Q2 hR2 hB02
  generalize (w2.alloc (.cells zk51 51)).setCells s 0 (row 65 (epv (y.toNat : Int) zF)) = w3 at *
  simp only [Act.put]
  have kf := hideit (fill_not lo r (l - 4) 64 (shF f 4) false (some ⟨s, 1, none⟩) w3 R3.out (by unfold okN; rw [decide_eq_false (by omega)]; simp))
  go_upto_region 3 with (go_at_call 28; refine kf.out.mono ?_; rintro e w4 ⟨rfl, hX1, hX2⟩; replace hX1 := hideit hX1; replace hX2 := hideit hX2)
  have S4 := hideit (S3.out.but hX1.out (by have := hrs.out; omega))
  have Q4 := hideit (Q3.out.but hX1.out (by have := hrq.out; omega))
  have R4 := hideit hX2.out
  have hB04 := hideit (hB03.out.trans hX1.out)
  clear hX1 hX2
  clear kf Q3 R3 S3 hB03
  refine wp_region_lit ?_
  refine wpList_load_mid rfl 51 (.tmp 3) rfl s 0 rfl (row 65 (epv (y.toNat : Int) (zF))) _ S4.out.range Try.underlying51 rfl (by rw [row_length]; exact info51) ?_
  simp only [Act.put, List.setIfInBounds_toArray, List.set_cons_zero, List.set_cons_succ]
  refine wpList_store_mid rfl 51 (.tmp 2) (.tmp 12) rfl q 0 (row 65 (epv (y.toNat : Int) (zF))).toArray rfl rfl (by rw [row_size]; exact Q4.out.there) (by rw [row_size]; exact info51) (row_one (epv_one _ _)) ?_
  rw [show (row 65 (epv (y.toNat : Int) (zF))).toArray.toList = row 65 (epv (y.toNat : Int) (zF)) from rfl]
  have h9 : Hid (RowAt q 65 (epv (y.toNat : Int) (zF)) (w4.setCells q 0 (row 65 (epv (y.toNat : Int) (zF))))) := hideit Q4.out.cells
  have R9 := hideit (R4.out.set (o := 0) hrq.out hlo (row 65 (epv (y.toNat : Int) (zF))))
  have hB9 := hideit (but_new (o := 0) hB04.out hwq.out (row 65 (epv (y.toNat : Int) (zF))))
  clear S4 Q4 R4 hB04
  generalize w4.setCells q 0 (row 65 (epv (y.toNat : Int) (zF))) = w9 at *
  simp only [Act.put]
  go_wp2
  exact bodyPost_ret (ret_row Try.results38 rfl h9.out Try.underlying51 rfl info51) rfl ⟨_, _, _, _, rfl, R9.out, hB9.out⟩
set_option maxRecDepth 20000 in
set_option maxHeartbeats 2000000 in
theorem get1_few (lo r l : Nat) (f : Nat → BitVec 8) (w : World) (h : Rd lo r l f false w) (hlo : lo ≤ r) (hn4 : l < 4) :
    Calls Try.prog 38 #[.pointer (some ⟨r, 0, none⟩)] w fun e w' => ∃ x g k p, e = .returned (.agg (row 65 (epv x g)).toArray) ∧ Rd lo r k p true w' ∧ But r w w' := by
  have hrw := hideit h.lt
  obtain ⟨Q1, hE1, _, _⟩ := made51 w 0 zF
  replace Q1 := hideit Q1
  have R1 := hideit (h.ext hE1)
  replace hE1 := hideit hE1
  clear h
  go_enter Try.func38, Try.ntmps38
  go_upto_region 0 with (fail)
  refine wp_region_lit ?_
  refine wpList_to rfl (.pointer (some ⟨w.heap.size, 0, none⟩)) (w.alloc (.cells zk51 51)) (alloc51 rfl) ?_
  simp only [Act.put, List.setIfInBounds_toArray, List.set_cons_zero, List.set_cons_succ]
  go_upto_region 1 with (fail)
  generalize w.alloc (.cells zk51 51) = w1 at *
  obtain ⟨q, hq⟩ : ∃ q, q = w.heap.size := ⟨_, rfl⟩
  have hwq : Hid (w.heap.size ≤ q) := hideit (by omega)
  have hrq : Hid (r < q) := hideit (by have := hrw.out; omega)
  rw [← hq] at Q1 ⊢
  clear hq
  refine wp_region_lit ?_
  refine wpList_run rfl (.pointer (some ⟨r, 0, none⟩)) (by simp [go_sem]) ?_
  simp only [Act.put, List.setIfInBounds_toArray, List.set_cons_zero, List.set_cons_succ]
  refine wpList_call rfl (by simp [go_sem]; exact ⟨rfl, rfl⟩) ?_
  refine (ruint_not lo r l 4 f false _ R1.out (by unfold okN; rw [decide_eq_false (by omega)]; simp)).mono ?_
  rintro e w2 ⟨rfl, hR2, hB2⟩
  refine ⟨_, rfl, ?_⟩
  simp only [Act.put, List.setIfInBounds_toArray, List.set_cons_zero, List.set_cons_succ]
  have Q2 := hideit (Q1.out.but hB2 (by have := hrq.out; omega))
  have hB02 := hideit ((But.of_ext (c := r) hE1.out).trans hB2)
  replace hR2 := hideit hR2
  clear Q1 R1 hE1 hB2
  refine wpList_run rfl (.int .i64 (0)) (by simp [go_sem]; decide) ?_
  simp only [Act.put, List.setIfInBounds_toArray, List.set_cons_zero, List.set_cons_succ]
  refine wpList_build rfl 51 [(0, .tmp 6)] rfl (.agg (row 65 (epv (0) zF)).toArray) (build51 _ _) ?_
  simp only [Act.put, List.setIfInBounds_toArray, List.set_cons_zero, List.set_cons_succ]
  obtain ⟨H1, hA1, H2, hA2⟩ := made51 w2 (0) zF
  obtain ⟨s, hs⟩ : ∃ s, s = w2.heap.size := ⟨_, rfl⟩
  rw [← hs] at H1 H2 hA2
  have hqs : Hid (q < s) := hideit (by rw [hs]; exact Q2.out.2.2)
  have hrs : Hid (r < s) := hideit (by have := hrq.out; have := hqs.out; omega)
  have hws : Hid (w.heap.size ≤ s) := hideit (by have := hwq.out; have := hqs.out; omega)
  refine wpList_to rfl (.pointer (some ⟨s, 0, none⟩)) (w2.alloc (.cells zk51 51)) (by rw [hs]; exact alloc51 rfl) ?_
  simp only [Act.put, List.setIfInBounds_toArray, List.set_cons_zero, List.set_cons_succ]
  refine wpList_store_mid rfl 51 (.tmp 3) (.tmp 7) rfl s 0 (row 65 (epv (0) zF)).toArray rfl rfl (by rw [row_size]; exact H1.there) (by rw [row_size]; exact info51) (row_one (epv_one _ _)) ?_
  rw [show (row 65 (epv (0) zF)).toArray.toList = row 65 (epv (0) zF) from rfl]
  have Q3 := hideit (Q2.out.carry hA2)
  have R3 := hideit (hR2.out.ext hA2)
  have S3 := hideit H2
  have hB03 := hideit (hB02.out.ext hA2)
  clear H1 hA1 H2 hA2 hs Q2 hR2 hB02
  generalize (w2.alloc (.cells zk51 51)).setCells s 0 (row 65 (epv (0) zF)) = w3 at *
  simp only [Act.put]
  have kf := hideit (fill_not lo r l 64 f true (some ⟨s, 1, none⟩) w3 R3.out (by simp))
  go_upto_region 3 with (go_at_call 28; refine kf.out.mono ?_; rintro e w4 ⟨rfl, hX1, hX2⟩; replace hX1 := hideit hX1; replace hX2 := hideit hX2)
  have S4 := hideit (S3.out.but hX1.out (by have := hrs.out; omega))
  have Q4 := hideit (Q3.out.but hX1.out (by have := hrq.out; omega))
  have R4 := hideit hX2.out
  have hB04 := hideit (hB03.out.trans hX1.out)
  clear hX1 hX2
  clear kf Q3 R3 S3 hB03
  refine wp_region_lit ?_
  refine wpList_load_mid rfl 51 (.tmp 3) rfl s 0 rfl (row 65 (epv (0) (zF))) _ S4.out.range Try.underlying51 rfl (by rw [row_length]; exact info51) ?_
  simp only [Act.put, List.setIfInBounds_toArray, List.set_cons_zero, List.set_cons_succ]
  refine wpList_store_mid rfl 51 (.tmp 2) (.tmp 12) rfl q 0 (row 65 (epv (0) (zF))).toArray rfl rfl (by rw [row_size]; exact Q4.out.there) (by rw [row_size]; exact info51) (row_one (epv_one _ _)) ?_
  rw [show (row 65 (epv (0) (zF))).toArray.toList = row 65 (epv (0) (zF)) from rfl]
  have h9 : Hid (RowAt q 65 (epv (0) (zF)) (w4.setCells q 0 (row 65 (epv (0) (zF))))) := hideit Q4.out.cells
  have R9 := hideit (R4.out.set (o := 0) hrq.out hlo (row 65 (epv (0) (zF))))
  have hB9 := hideit (but_new (o := 0) hB04.out hwq.out (row 65 (epv (0) (zF))))
  clear S4 Q4 R4 hB04
  generalize w4.setCells q 0 (row 65 (epv (0) (zF))) = w9 at *
  simp only [Act.put]
  go_wp2
  exact bodyPost_ret (ret_row Try.results38 rfl h9.out Try.underlying51 rfl info51) rfl ⟨_, _, _, _, rfl, R9.out, hB9.out⟩
theorem get1_not (lo r l : Nat) (f : Nat → BitVec 8) (w : World) (h : Rd lo r l f false w) (hlo : lo ≤ r) (hn : l < 68) :
    Calls Try.prog 38 #[.pointer (some ⟨r, 0, none⟩)] w fun e w' => ∃ x g k p, e = .returned (.agg (row 65 (epv x g)).toArray) ∧ Rd lo r k p true w' ∧ But r w w' := by
  by_cases h4 : 4 ≤ l
  · exact get1_mid lo r l f w h hlo hn h4
  · exact get1_few lo r l f w h hlo (by omega)
end Go.Proofs.Ytomalmnpojcloaa
