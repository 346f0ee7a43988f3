/-
  The document's block of a slot that is not taken; what any bytes are as a slot, by the document.
-/
import Derived.Test.YtomalmnpojcloaaRs
namespace Go.Proofs.Ytomalmnpojcloaa
open Go.RowKit Go.BigFrame
set_option maxRecDepth 20000 in
set_option maxHeartbeats 2000000 in
theorem renc_zero (f : Nat → BitVec 8) (hz : ∀ j, j < 80 → f j = 0#8) (w : World) :
    Calls Try.prog 9 #[.agg (row 81 (slv false f)).toArray] w fun e w' => ∃ v, e = .returned (.tuple #[v, .int .i64 0]) ∧ BV v 512 zF w' ∧ Ext w w' := by
  have H0 : Hid (RowAt w.heap.size 81 (slv false f) (w.alloc (.cells (row 81 (slv false f)).toArray 25))) := RowAt.new w 81 _ 25
  have hE0 : Hid (Ext w (w.alloc (.cells (row 81 (slv false f)).toArray 25))) := (Below.refl _ _).alloc (Nat.le_refl _) _
  have hq : Hid (eqN 80 f zF = true) := hideit (eqN_iff.2 hz)
  clear hz
  go_enter Try.func9, Try.ntmps9
  go_upto_region 1 with (fail)
  obtain ⟨w1, hw1⟩ : ∃ w1, w1 = w.alloc (.cells (row 81 (slv false f)).toArray 25) := ⟨_, rfl⟩
  rw [← hw1] at H0 hE0 ⊢
  clear hw1
  obtain ⟨c, hc⟩ : ∃ c, c = w.heap.size := ⟨_, rfl⟩
  rw [← hc] at H0 ⊢
  clear hc
  have e0 : w1.cell? ⟨c, 0, none⟩ = some (.bool false) := H0.out.1 0 (by decide)
  have hn := neq25 false false f zF w1
  rw [hq.out, show (!((false == false) && true)) = false from rfl] at hn
  go_upto_region 2 with (fail)
  refine wp_region_lit ?_
  refine wpList_load_mid rfl 25 (.tmp 1) rfl c 0 rfl (row 81 (slv false f)) _ H0.out.range Try.underlying25 rfl (by rw [row_length]; exact info25) ?_
  simp only [Act.put, List.setIfInBounds_toArray, List.set_cons_zero, List.set_cons_succ]
  refine wpList_build rfl 25 [] rfl (.agg (row 81 (slv false zF)).toArray) (build25 _) ?_
  simp only [Act.put, List.setIfInBounds_toArray, List.set_cons_zero, List.set_cons_succ]
  refine wpList_cmp rfl .neq 25 25 (.tmp 8) (.tmp 9) rfl _ _ rfl rfl (by kernel_rfl) false hn ?_
  simp only [Act.put, List.setIfInBounds_toArray, List.set_cons_zero, List.set_cons_succ]
  clear hn
  go_upto_region 4 with (fail)
  refine wp_region_lit ?_
  refine wpList_made w1 Try.underlying26 (by kernel_rfl) rfl (.const (.int .i64 512)) (.const (.int .i64 512)) rfl 512 rfl rfl (by decide) ?_
  intro w2 hO2 hX2
  have hB : Hid (BV (.slice (some ⟨w1.heap.size, 0, none⟩) 512 512) 512 zF w2) := hideit (OwnB.bv (hO2.congr (g' := yv zF) fun j _ => rfl))
  have hE2 := hideit (Ext.trans hE0.out hX2)
  clear H0 hE0 hO2 hX2 e0
  simp only [Act.put, List.setIfInBounds_toArray, List.set_cons_zero, List.set_cons_succ]
  go_wp2
  go_ret2
  exact ⟨_, rfl, hB.out, hE2.out⟩
set_option maxRecDepth 20000 in
set_option maxHeartbeats 2000000 in
theorem renc_bad (f : Nat → BitVec 8) (hz : ¬ ∀ j, j < 80 → f j = 0#8) (w : World) :
    Calls Try.prog 9 #[.agg (row 81 (slv false f)).toArray] w fun e w' => e = .returned (.tuple #[.slice none 0 0, .int .i64 1]) ∧ Ext w w' := by
  have H0 : Hid (RowAt w.heap.size 81 (slv false f) (w.alloc (.cells (row 81 (slv false f)).toArray 25))) := RowAt.new w 81 _ 25
  have hE0 : Hid (Ext w (w.alloc (.cells (row 81 (slv false f)).toArray 25))) := (Below.refl _ _).alloc (Nat.le_refl _) _
  have hq : Hid (eqN 80 f zF = false) := hideit (by rw [Bool.eq_false_iff]; exact fun hh => hz (eqN_iff.1 hh))
  clear hz
  go_enter Try.func9, Try.ntmps9
  go_upto_region 1 with (fail)
  obtain ⟨w1, hw1⟩ : ∃ w1, w1 = w.alloc (.cells (row 81 (slv false f)).toArray 25) := ⟨_, rfl⟩
  rw [← hw1] at H0 hE0 ⊢
  clear hw1
  obtain ⟨c, hc⟩ : ∃ c, c = w.heap.size := ⟨_, rfl⟩
  rw [← hc] at H0 ⊢
  clear hc
  have e0 : w1.cell? ⟨c, 0, none⟩ = some (.bool false) := H0.out.1 0 (by decide)
  have hn := neq25 false false f zF w1
  rw [hq.out, show (!((false == false) && false)) = true from rfl] at hn
  go_upto_region 2 with (fail)
  refine wp_region_lit ?_
  refine wpList_load_mid rfl 25 (.tmp 1) rfl c 0 rfl (row 81 (slv false f)) _ H0.out.range Try.underlying25 rfl (by rw [row_length]; exact info25) ?_
  simp only [Act.put, List.setIfInBounds_toArray, List.set_cons_zero, List.set_cons_succ]
  refine wpList_build rfl 25 [] rfl (.agg (row 81 (slv false zF)).toArray) (build25 _) ?_
  simp only [Act.put, List.setIfInBounds_toArray, List.set_cons_zero, List.set_cons_succ]
  refine wpList_cmp rfl .neq 25 25 (.tmp 8) (.tmp 9) rfl _ _ rfl rfl (by kernel_rfl) true hn ?_
  simp only [Act.put, List.setIfInBounds_toArray, List.set_cons_zero, List.set_cons_succ]
  clear hn
  go_wp2
  go_ret2
  exact ⟨rfl, hE0.out⟩
theorem renc_ok (a : Bool) (f : Nat → BitVec 8) (h : okSl a f) (w : World) :
    Calls Try.prog 9 #[.agg (row 81 (slv a f)).toArray] w fun e w' => ∃ v, e = .returned (.tuple #[v, .int .i64 0]) ∧ BV v 512 (slB a f) w' ∧ Ext w w' := by
  cases a with
  | true => exact renc_act f w
  | false => exact renc_zero f (h.resolve_left (by decide)) w
theorem renc_no (a : Bool) (f : Nat → BitVec 8) (h : ¬ okSl a f) (w : World) :
    Calls Try.prog 9 #[.agg (row 81 (slv a f)).toArray] w fun e w' => e = .returned (.tuple #[.slice none 0 0, .int .i64 1]) ∧ Ext w w' := by
  cases a with
  | true => exact absurd (.inl rfl) h
  | false => exact renc_bad f (fun hh => h (.inr hh)) w
set_option maxRecDepth 20000 in
set_option maxHeartbeats 2000000 in
theorem rdcd_len (oa : Option Addr) (l cp : Nat) (hl : l ≠ 512) (w : World) :
    Calls Try.prog 12 #[.slice oa l cp] w fun e w' => e = .returned (.tuple #[.agg (row 81 (slv false zF)).toArray, .int .i64 110]) ∧ Ext w w' := by
  have hl2 : ¬ (l : Int) = 512 := by omega
  obtain ⟨Q1, hE1, _, _⟩ := made25 w false zF
  replace Q1 := hideit Q1
  replace hE1 := hideit hE1
  go_enter Try.func12, Try.ntmps12
  go_upto_region 0 with (fail)
  refine wp_region_lit ?_
  refine wpList_to rfl (.pointer (some ⟨w.heap.size, 0, none⟩)) (w.alloc (.cells zk25 25)) (alloc25 rfl) ?_
  simp only [Act.put, List.setIfInBounds_toArray, List.set_cons_zero, List.set_cons_succ]
  generalize w.alloc (.cells zk25 25) = w1 at *
  obtain ⟨q, hq⟩ : ∃ q, q = w.heap.size := ⟨_, rfl⟩
  have hwq : Hid (w.heap.size ≤ q) := hideit (by omega)
  rw [← hq] at Q1 ⊢
  clear hq
  go_upto_region 2 with (fail)
  refine wp_region_lit ?_
  refine wpList_build rfl 25 [] rfl (.agg (row 81 (slv false zF)).toArray) (build25 _) ?_
  simp only [Act.put, List.setIfInBounds_toArray, List.set_cons_zero, List.set_cons_succ]
  refine wpList_store_mid rfl 25 (.tmp 2) (.tmp 12) rfl q 0 (row 81 (slv false zF)).toArray rfl rfl (by rw [row_size]; exact Q1.out.there) (by rw [row_size]; exact info25) (row_one (slv_one _ _)) ?_
  rw [show (row 81 (slv false zF)).toArray.toList = row 81 (slv false zF) from rfl]
  have h9 : Hid (RowAt q 81 (slv false zF) (w1.setCells q 0 (row 81 (slv false zF)))) := hideit Q1.out.cells
  have hE9 : Hid (Ext w (w1.setCells q 0 (row 81 (slv false zF)))) := hideit (below_setCells _ hwq.out _ _ _ hE1.out)
  clear Q1 hE1
  generalize w1.setCells q 0 (row 81 (slv false zF)) = w9 at *
  simp only [Act.put]
  go_wp2
  exact bodyPost_ret (ret_row2 Try.results12 rfl h9.out Try.underlying25 rfl info25) rfl ⟨rfl, hE9.out⟩
set_option maxRecDepth 20000 in
set_option maxHeartbeats 2000000 in
theorem rdcd_0 (ad : Addr) (cp : Nat) (b : Nat → BitVec 8) (w : World) (hL : Hid (LieAt ad 512 (yv b) w)) (hcp : 512 ≤ cp) (h0 : b 0 = 0#8) (R : Bool) (hR : Hid (eqN 512 (slB false zF) b = R)) :
    Calls Try.prog 12 #[.slice (some ad) 512 cp] w fun e w' => e = .returned (if R then .tuple #[.agg (row 81 (slv false (zF))).toArray, .int .i64 0] else .tuple #[.agg (row 81 (slv false zF)).toArray, .int .i64 110]) ∧ Ext w w' := by
  obtain ⟨Q1, hE1, _, _⟩ := made25 w false zF
  replace Q1 := hideit Q1
  replace hE1 := hideit hE1
  go_enter Try.func12, Try.ntmps12
  go_upto_region 0 with (fail)
  refine wp_region_lit ?_
  refine wpList_to rfl (.pointer (some ⟨w.heap.size, 0, none⟩)) (w.alloc (.cells zk25 25)) (alloc25 rfl) ?_
  simp only [Act.put, List.setIfInBounds_toArray, List.set_cons_zero, List.set_cons_succ]
  generalize w.alloc (.cells zk25 25) = w1 at *
  obtain ⟨q, hq⟩ : ∃ q, q = w.heap.size := ⟨_, rfl⟩
  have hwq : Hid (w.heap.size ≤ q) := hideit (by omega)
  rw [← hq] at Q1 ⊢
  have haq : Hid (ad.block < q) := hideit (by have := hL.out.2; omega)
  clear hq
  have L1 := hideit (hL.out.carry hE1.out)
  obtain ⟨H1, hA1, H2, hA2⟩ := made25 w1 false zF
  obtain ⟨s, hs⟩ : ∃ s, s = w1.heap.size := ⟨_, rfl⟩
  have hqs : Hid (q < s) := hideit (by rw [hs]; exact Q1.out.2.2)
  have has : Hid (ad.block < s) := hideit (by have := haq.out; have := hqs.out; omega)
  rw [← hs] at H1 H2 hA2
  go_upto_region 3 with (fail)
  refine wp_region_lit ?_
  refine wpList_build rfl 25 [] rfl (.agg (row 81 (slv false zF)).toArray) (build25 _) ?_
  simp only [Act.put, List.setIfInBounds_toArray, List.set_cons_zero, List.set_cons_succ]
  refine wpList_to rfl (.pointer (some ⟨s, 0, none⟩)) (w1.alloc (.cells zk25 25)) (by rw [hs]; exact alloc25 rfl) ?_
  simp only [Act.put, List.setIfInBounds_toArray, List.set_cons_zero, List.set_cons_succ]
  refine wpList_store_mid rfl 25 (.tmp 4) (.tmp 13) rfl s 0 (row 81 (slv false zF)).toArray rfl rfl (by rw [row_size]; exact H1.there) (by rw [row_size]; exact info25) (row_one (slv_one _ _)) ?_
  rw [show (row 81 (slv false zF)).toArray.toList = row 81 (slv false zF) from rfl]
  have Q2 := hideit (Q1.out.carry hA2)
  have S2 := hideit H2
  have L2 := hideit (L1.out.carry hA2)
  have hE2 := hideit (Ext.trans hE1.out hA2)
  have hws : Hid (w.heap.size ≤ s) := hideit (by have := hwq.out; have := hqs.out; omega)
  clear H1 hA1 H2 hA2 hs Q1 L1 hE1
  generalize (w1.alloc (.cells zk25 25)).setCells s 0 (row 81 (slv false zF)) = w2 at *
  simp only [Act.put]
  have e0 : w2.cell? ad = some (.int .u8 ((b 0).toNat : Int)) := L2.out.1 0 (by decide)
  rw [h0] at e0
  clear h0
  have Q3 := Q2
  have S3 := S2
  have L3 := L2
  have hE3 := hE2
  clear Q2 S2 L2 hE2
  go_upto_region 14 with (fail)
  refine wp_region_lit ?_
  refine wpList_load_mid rfl 25 (.tmp 4) rfl s 0 rfl (row 81 (slv false (zF))) _ S3.out.range Try.underlying25 rfl (by rw [row_length]; exact info25) ?_
  simp only [Act.put, List.setIfInBounds_toArray, List.set_cons_zero, List.set_cons_succ]
  refine wpList_call rfl (by simp [go_sem]; exact ⟨rfl, rfl⟩) ?_
  refine (renc_ok false (zF) (.inr fun _ _ => rfl) w2).mono ?_
  rintro e w4 ⟨v4, rfl, hV4, hX⟩
  refine ⟨_, rfl, ?_⟩
  simp only [Act.put, List.setIfInBounds_toArray, List.set_cons_zero, List.set_cons_succ]
  have Q4 := hideit (Q3.out.carry hX)
  have S4 := hideit (S3.out.carry hX)
  have L4 := hideit (L3.out.carry hX)
  have hE4 := hideit (Ext.trans hE3.out hX)
  have V4 := hideit hV4
  clear Q3 S3 L3 hE3 hX hV4
  go_upto_region 15 with (fail)
  have hc1 := convV v4 512 _ w4 V4.out
  have hc2 := convV (.slice (some ad) 512 cp) 512 b w4 (.inr ⟨_, _, rfl, hcp, L4.out⟩)
  have hst := str_beq 512 (slB false (zF)) b
  rw [hR.out] at hst
  obtain ⟨s1, hs1⟩ : ∃ s1, s1 = bstr 512 (fun j => ((slB false (zF) j).toNat : Int)) := ⟨_, rfl⟩
  obtain ⟨s2, hs2⟩ : ∃ s2, s2 = bstr 512 (fun j => ((b j).toNat : Int)) := ⟨_, rfl⟩
  rw [← hs1] at hc1 hst
  rw [← hs2] at hc2 hst
  clear hs1 hs2
  refine wp_region_lit ?_
  refine wpList_run rfl (v4) (by simp [go_sem]) ?_
  simp only [Act.put, List.setIfInBounds_toArray, List.set_cons_zero, List.set_cons_succ]
  refine wpList_run rfl (.string s1) (by simp [go_sem, hc1]) ?_
  simp only [Act.put, List.setIfInBounds_toArray, List.set_cons_zero, List.set_cons_succ]
  refine wpList_run rfl (.slice (some ad) 512 cp) (by simp [go_sem]) ?_
  simp only [Act.put, List.setIfInBounds_toArray, List.set_cons_zero, List.set_cons_succ]
  refine wpList_run rfl (.string s2) (by simp [go_sem, hc2]) ?_
  simp only [Act.put, List.setIfInBounds_toArray, List.set_cons_zero, List.set_cons_succ]
  refine wpList_run rfl (.bool (!R)) (by simp only [← hst]; simp [go_sem]) ?_
  simp only [Act.put, List.setIfInBounds_toArray, List.set_cons_zero, List.set_cons_succ]
  clear hc1 hc2 hst V4 L4
  cases R with
  | true =>
    go_upto_region 17 with (fail)
    refine wp_region_lit ?_
    refine wpList_load_mid rfl 25 (.tmp 4) rfl s 0 rfl (row 81 (slv false (zF))) _ S4.out.range Try.underlying25 rfl (by rw [row_length]; exact info25) ?_
    simp only [Act.put, List.setIfInBounds_toArray, List.set_cons_zero, List.set_cons_succ]
    refine wpList_store_mid rfl 25 (.tmp 2) (.tmp 62) rfl q 0 (row 81 (slv false (zF))).toArray rfl rfl (by rw [row_size]; exact Q4.out.there) (by rw [row_size]; exact info25) (row_one (slv_one _ _)) ?_
    rw [show (row 81 (slv false (zF))).toArray.toList = row 81 (slv false (zF)) from rfl]
    have h9 : Hid (RowAt q 81 (slv false (zF)) (w4.setCells q 0 (row 81 (slv false (zF))))) := hideit Q4.out.cells
    have hE9 : Hid (Ext w (w4.setCells q 0 (row 81 (slv false (zF))))) := hideit (below_setCells _ hwq.out _ _ _ hE4.out)
    clear Q4 S4 hE4
    generalize w4.setCells q 0 (row 81 (slv false (zF))) = w9 at *
    simp only [Act.put]
    go_wp2
    exact bodyPost_ret (ret_row2 Try.results12 rfl h9.out Try.underlying25 rfl info25) rfl ⟨rfl, hE9.out⟩
  | false =>
    go_upto_region 16 with (fail)
    refine wp_region_lit ?_
    refine wpList_build rfl 25 [] rfl (.agg (row 81 (slv false zF)).toArray) (build25 _) ?_
    simp only [Act.put, List.setIfInBounds_toArray, List.set_cons_zero, List.set_cons_succ]
    refine wpList_store_mid rfl 25 (.tmp 2) (.tmp 61) rfl q 0 (row 81 (slv false zF)).toArray rfl rfl (by rw [row_size]; exact Q4.out.there) (by rw [row_size]; exact info25) (row_one (slv_one _ _)) ?_
    rw [show (row 81 (slv false zF)).toArray.toList = row 81 (slv false zF) from rfl]
    have h9 : Hid (RowAt q 81 (slv false zF) (w4.setCells q 0 (row 81 (slv false zF)))) := hideit Q4.out.cells
    have hE9 : Hid (Ext w (w4.setCells q 0 (row 81 (slv false zF)))) := hideit (below_setCells _ hwq.out _ _ _ hE4.out)
    clear Q4 hE4 S4
    generalize w4.setCells q 0 (row 81 (slv false zF)) = w9 at *
    simp only [Act.put]
    go_wp2
    exact bodyPost_ret (ret_row2 Try.results12 rfl h9.out Try.underlying25 rfl info25) rfl ⟨rfl, hE9.out⟩
def upG (b : Nat → BitVec 8) (i k : Nat) : BitVec 8 := if k < 16 + i ∨ (48 ≤ k ∧ k < 48 + i) then b (4 + k) else 0#8
theorem up_g0 (b : Nat → BitVec 8) (j : Nat) : slv true (upF b 16) j = slv true (upG b 0) j := by
  unfold slv upF upG
  by_cases h : j = 0
  · rw [if_pos h, if_pos h]
  · rw [if_neg h, if_neg h]
    by_cases h1 : j - 1 < 16
    · rw [if_pos h1, if_pos (by omega)]
    · rw [if_neg h1, if_neg (by omega)]
theorem up_g1 (b : Nat → BitVec 8) (j : Nat) (hj : j < 81) : slv true (upG b 32) j = slv true (fun j => b (4 + j)) j := by
  unfold slv upG
  by_cases h : j = 0
  · rw [if_pos h, if_pos h]
  · rw [if_neg h, if_neg h, if_pos (by omega)]
theorem up_gs (b : Nat → BitVec 8) (i j : Nat) (hj : j < 81) (hi : i < 32) : (if j = 49 + i then Value.int .u8 ((b (52 + i)).toNat : Int) else if j = 17 + i then Value.int .u8 ((b (20 + i)).toNat : Int) else slv true (upG b i) j) = slv true (upG b (i + 1)) j := by
  unfold slv upG
  by_cases h1 : j = 49 + i
  · rw [if_pos h1, if_neg (by omega), if_pos (by omega), show 52 + i = 4 + (j - 1) by omega]
  · rw [if_neg h1]
    by_cases h2 : j = 17 + i
    · rw [if_pos h2, if_neg (by omega), if_pos (by omega), show 20 + i = 4 + (j - 1) by omega]
    · rw [if_neg h2]
      by_cases h3 : j = 0
      · rw [if_pos h3, if_pos h3]
      · rw [if_neg h3, if_neg h3]
        by_cases h4 : j - 1 < 16 + i ∨ (48 ≤ j - 1 ∧ j - 1 < 48 + i)
        · rw [if_pos h4, if_pos (by omega)]
        · rw [if_neg h4, if_neg (by omega)]
set_option maxRecDepth 20000 in
set_option maxHeartbeats 2000000 in
theorem rdcd_1 (ad : Addr) (cp : Nat) (b : Nat → BitVec 8) (w : World) (hL : Hid (LieAt ad 512 (yv b) w)) (hcp : 512 ≤ cp) (h0 : ¬ b 0 = 0#8) (R : Bool) (hR : Hid (eqN 512 (slB true fun j => b (4 + j)) b = R)) :
    Calls Try.prog 12 #[.slice (some ad) 512 cp] w fun e w' => e = .returned (if R then .tuple #[.agg (row 81 (slv true (fun j => b (4 + j)))).toArray, .int .i64 0] else .tuple #[.agg (row 81 (slv false zF)).toArray, .int .i64 110]) ∧ Ext w w' := by
  obtain ⟨Q1, hE1, _, _⟩ := made25 w false zF
  replace Q1 := hideit Q1
  replace hE1 := hideit hE1
  go_enter Try.func12, Try.ntmps12
  go_upto_region 0 with (fail)
  refine wp_region_lit ?_
  refine wpList_to rfl (.pointer (some ⟨w.heap.size, 0, none⟩)) (w.alloc (.cells zk25 25)) (alloc25 rfl) ?_
  simp only [Act.put, List.setIfInBounds_toArray, List.set_cons_zero, List.set_cons_succ]
  generalize w.alloc (.cells zk25 25) = w1 at *
  obtain ⟨q, hq⟩ : ∃ q, q = w.heap.size := ⟨_, rfl⟩
  have hwq : Hid (w.heap.size ≤ q) := hideit (by omega)
  rw [← hq] at Q1 ⊢
  have haq : Hid (ad.block < q) := hideit (by have := hL.out.2; omega)
  clear hq
  have L1 := hideit (hL.out.carry hE1.out)
  obtain ⟨H1, hA1, H2, hA2⟩ := made25 w1 false zF
  obtain ⟨s, hs⟩ : ∃ s, s = w1.heap.size := ⟨_, rfl⟩
  have hqs : Hid (q < s) := hideit (by rw [hs]; exact Q1.out.2.2)
  have has : Hid (ad.block < s) := hideit (by have := haq.out; have := hqs.out; omega)
  rw [← hs] at H1 H2 hA2
  go_upto_region 3 with (fail)
  refine wp_region_lit ?_
  refine wpList_build rfl 25 [] rfl (.agg (row 81 (slv false zF)).toArray) (build25 _) ?_
  simp only [Act.put, List.setIfInBounds_toArray, List.set_cons_zero, List.set_cons_succ]
  refine wpList_to rfl (.pointer (some ⟨s, 0, none⟩)) (w1.alloc (.cells zk25 25)) (by rw [hs]; exact alloc25 rfl) ?_
  simp only [Act.put, List.setIfInBounds_toArray, List.set_cons_zero, List.set_cons_succ]
  refine wpList_store_mid rfl 25 (.tmp 4) (.tmp 13) rfl s 0 (row 81 (slv false zF)).toArray rfl rfl (by rw [row_size]; exact H1.there) (by rw [row_size]; exact info25) (row_one (slv_one _ _)) ?_
  rw [show (row 81 (slv false zF)).toArray.toList = row 81 (slv false zF) from rfl]
  have Q2 := hideit (Q1.out.carry hA2)
  have S2 := hideit H2
  have L2 := hideit (L1.out.carry hA2)
  have hE2 := hideit (Ext.trans hE1.out hA2)
  have hws : Hid (w.heap.size ≤ s) := hideit (by have := hwq.out; have := hqs.out; omega)
  clear H1 hA1 H2 hA2 hs Q1 L1 hE1
  generalize (w1.alloc (.cells zk25 25)).setCells s 0 (row 81 (slv false zF)) = w2 at *
  simp only [Act.put]
  have e0 : w2.cell? ad = some (.int .u8 ((b 0).toNat : Int)) := L2.out.1 0 (by decide)
  have hb0 : Hid (¬ ((b 0).toNat : Int) = 0) := hideit (fun hh => h0 (by rw [← BitVec.toNat_inj]; simpa using hh))
  have hb1 := hb0.out
  have es := S2.out.1 0 (by decide)
  have gs := S2.out.2.1 0 (by decide)
  go_upto_region 6 with (fail)
  have S3 : Hid (RowAt s 81 (slv true (upF b 0)) (w2.setCell ⟨s, 0, none⟩ (.bool true))) := hideit ((S2.out.set 0 (.bool true)).congr fun j _ => by
    unfold slv
    by_cases h : j = 0
    · rw [if_pos h, if_pos h]
    · rw [if_neg h, if_neg h, if_neg h]; rfl)
  have Q3 := hideit (Q2.out.other ⟨s, 0, none⟩ (.bool true) (by show s ≠ q; have := hqs.out; omega))
  have L3 := hideit (L2.out.but (but_setCell w2 s 0 (.bool true)) (by have := has.out; omega))
  have hE3 : Hid (Ext w (w2.setCell ⟨s, 0, none⟩ (.bool true))) := hideit (Below.setCell hE2.out (by show w.heap.size ≤ s; exact hws.out) _)
  clear S2 Q2 L2 hE2 e0 es gs hb1
  generalize w2.setCell ⟨s, 0, none⟩ (.bool true) = w3 at *
  go_wp2
  go_loopw [5] (fun iv wr => ∃ i : Nat, i ≤ 16 ∧ iv = .int .i64 (i : Int) ∧ RowAt s 81 (slv true (upF b i)) wr ∧ RowAt q 81 (slv false zF) wr ∧ LieAt ad 512 (yv b) wr ∧ Ext w wr) (fun iv _ => 16 - (intOf iv).toNat)
  case atStart => exact ⟨0, by omega, rfl, S3.out, Q3.out, L3.out, hE3.out⟩
  case round =>
    clear S3 Q3 L3 hE3
    obtain ⟨i, hi, rfl, hS, hQ, hL3, hE⟩ := hrel
    have S3 := hideit hS
    have Q3 := hideit hQ
    have L3 := hideit hL3
    have hE3 := hideit hE
    clear hS hQ hL3 hE
    by_cases hlt : i < 16
    · have i0 : (0 : Int) ≤ (i : Int) := by omega
      have i1 : (i : Int) < 16 := by omega
      have ec : wr.cell? (ad.add (4 + i)) = some (.int .u8 ((b (4 + i)).toNat : Int)) := L3.out.1 (4 + i) (by omega)
      have es := S3.out.1 (1 + i) (by omega)
      have gs := S3.out.2.1 (1 + i) (by omega)
      go_wp2
      refine ⟨⟨i + 1, by omega, by go_num, ?_, Q3.out.other _ _ (by show s ≠ q; have := hqs.out; omega), L3.out.but (but_setCell _ _ _ _) (by have := has.out; omega), Below.setCell hE3.out (by show w.heap.size ≤ s; exact hws.out) _⟩, by simp [intOf]; omega⟩
      refine (S3.out.set (1 + i) _).congr fun j _ => ?_
      unfold slv upF
      by_cases h1 : j = 1 + i
      · rw [if_pos h1, if_neg (by omega), if_pos (by omega), show j - 1 = i by omega]
      · rw [if_neg h1]
        by_cases h2 : j = 0
        · rw [if_pos h2, if_pos h2]
        · rw [if_neg h2, if_neg h2]
          by_cases h3 : j - 1 < i
          · rw [if_pos h3, if_pos (by omega)]
          · rw [if_neg h3, if_neg (by omega)]
    · obtain rfl : i = 16 := by omega
      have i1 : ¬ ((16 : Nat) : Int) < 16 := by decide
      go_wp2
      go_loopw [6] (fun iv wr => ∃ i : Nat, i ≤ 32 ∧ iv = .int .i64 (i : Int) ∧ RowAt s 81 (slv true (upG b i)) wr ∧ RowAt q 81 (slv false zF) wr ∧ LieAt ad 512 (yv b) wr ∧ Ext w wr) (fun iv _ => 32 - (intOf iv).toNat)
      case atStart => exact ⟨0, by omega, rfl, S3.out.congr fun j _ => up_g0 b j, Q3.out, L3.out, hE3.out⟩
      case round =>
        clear S3 Q3 L3 hE3
        obtain ⟨i, hi, rfl, hS, hQ, hL3, hE⟩ := hrel
        have S3 := hideit hS
        have Q3 := hideit hQ
        have L3 := hideit hL3
        have hE3 := hideit hE
        clear hS hQ hL3 hE
        by_cases hlt : i < 32
        · have i0 : (0 : Int) ≤ (i : Int) := by omega
          have i1 : (i : Int) < 32 := by omega
          have w20 : IntKind.i64.wrap ((20 : Int) + (i : Int)) = 20 + (i : Int) := by rw [IntKind.wrap_i64]; omega
          have w52 : IntKind.i64.wrap ((52 : Int) + (i : Int)) = 52 + (i : Int) := by rw [IntKind.wrap_i64]; omega
          have n20 : (0 : Int) ≤ 20 + (i : Int) := by omega
          have n52 : (0 : Int) ≤ 52 + (i : Int) := by omega
          have m20 : (20 : Int) + (i : Int) < 512 := by omega
          have m52 : (52 : Int) + (i : Int) < 512 := by omega
          have t20 : ((20 : Int) + (i : Int)).toNat = 20 + i := by omega
          have t52 : ((52 : Int) + (i : Int)).toNat = 52 + i := by omega
          go_upto_region 13 with (fail)
          have hC0 : LieAt ad 512 (yv b) wr.drew := L3.out.below (Nat.lt_of_lt_of_le has.out (Nat.le_of_lt S3.out.2.2)) ((Below.refl _ _).drew)
          refine wp_region_lad (fun X => LieAt ad 512 (yv b) X) [(false, 0), (false, 1), (false, 2), (false, 3), (false, 4), (false, 5), (false, 6), (false, 7), (false, 8), (false, 9), (false, 10), (false, 11), (false, 12), (false, 13), (false, 15), (true, 14), (false, 16), (true, 17)] (by kernel_rfl) (by kernel_rfl) (by decide +kernel) (by decide +kernel) (by decide +kernel) (by decide +kernel) hC0 ?_
          refine wpX_f _ (.int .i64 (i : Int)) rfl rfl (fun X _ => by simp [go_sem]) ?_
          simp only [List.getElem_toArray, List.getElem_cons_zero, Act.put, List.setIfInBounds_toArray, List.set_cons_zero, List.set_cons_succ]
          refine wpX_f _ (.int .i64 (i : Int)) rfl rfl (fun X _ => by simp [go_sem]) ?_
          simp only [List.getElem_toArray, List.getElem_cons_zero, List.getElem_cons_succ, Act.put, List.setIfInBounds_toArray, List.set_cons_zero, List.set_cons_succ]
          refine wpX_f _ (.slice (some ad) 512 cp) rfl rfl (fun X _ => by simp [go_sem]) ?_
          simp only [List.getElem_toArray, List.getElem_cons_zero, List.getElem_cons_succ, Act.put, List.setIfInBounds_toArray, List.set_cons_zero, List.set_cons_succ]
          refine wpX_f _ (.int .i64 (i : Int)) rfl rfl (fun X _ => by simp [go_sem]) ?_
          simp only [List.getElem_toArray, List.getElem_cons_zero, List.getElem_cons_succ, Act.put, List.setIfInBounds_toArray, List.set_cons_zero, List.set_cons_succ]
          refine wpX_f _ (.int .i64 (20 + (i : Int))) rfl rfl (fun X _ => by simp [go_sem, w20]) ?_
          simp only [List.getElem_toArray, List.getElem_cons_zero, List.getElem_cons_succ, Act.put, List.setIfInBounds_toArray, List.set_cons_zero, List.set_cons_succ]
          refine wpX_f _ (.pointer (some (ad.add (20 + i)))) rfl rfl (fun X _ => by simp [go_sem, n20, m20, t20]) ?_
          simp only [List.getElem_toArray, List.getElem_cons_zero, List.getElem_cons_succ, Act.put, List.setIfInBounds_toArray, List.set_cons_zero, List.set_cons_succ]
          refine wpX_f _ (.int .u8 ((b (20 + i)).toNat : Int)) rfl rfl (fun X hX => by simp [go_sem, show X.cell? (ad.add (20 + i)) = some (.int .u8 ((b (20 + i)).toNat : Int)) from hX.1 (20 + i) (by omega)]) ?_
          simp only [List.getElem_toArray, List.getElem_cons_zero, List.getElem_cons_succ, Act.put, List.setIfInBounds_toArray, List.set_cons_zero, List.set_cons_succ]
          refine wpX_f _ (.slice (some ad) 512 cp) rfl rfl (fun X _ => by simp [go_sem]) ?_
          simp only [List.getElem_toArray, List.getElem_cons_zero, List.getElem_cons_succ, Act.put, List.setIfInBounds_toArray, List.set_cons_zero, List.set_cons_succ]
          refine wpX_f _ (.int .i64 (i : Int)) rfl rfl (fun X _ => by simp [go_sem]) ?_
          simp only [List.getElem_toArray, List.getElem_cons_zero, List.getElem_cons_succ, Act.put, List.setIfInBounds_toArray, List.set_cons_zero, List.set_cons_succ]
          refine wpX_f _ (.int .i64 (52 + (i : Int))) rfl rfl (fun X _ => by simp [go_sem, w52]) ?_
          simp only [List.getElem_toArray, List.getElem_cons_zero, List.getElem_cons_succ, Act.put, List.setIfInBounds_toArray, List.set_cons_zero, List.set_cons_succ]
          refine wpX_f _ (.pointer (some (ad.add (52 + i)))) rfl rfl (fun X _ => by simp [go_sem, n52, m52, t52]) ?_
          simp only [List.getElem_toArray, List.getElem_cons_zero, List.getElem_cons_succ, Act.put, List.setIfInBounds_toArray, List.set_cons_zero, List.set_cons_succ]
          refine wpX_f _ (.int .u8 ((b (52 + i)).toNat : Int)) rfl rfl (fun X hX => by simp [go_sem, show X.cell? (ad.add (52 + i)) = some (.int .u8 ((b (52 + i)).toNat : Int)) from hX.1 (52 + i) (by omega)]) ?_
          simp only [List.getElem_toArray, List.getElem_cons_zero, List.getElem_cons_succ, Act.put, List.setIfInBounds_toArray, List.set_cons_zero, List.set_cons_succ]
          refine wpX_f _ (.pointer (some ⟨s, 17, none⟩)) rfl rfl (fun X _ => by simp [go_sem]) ?_
          simp only [List.getElem_toArray, List.getElem_cons_zero, List.getElem_cons_succ, Act.put, List.setIfInBounds_toArray, List.set_cons_zero, List.set_cons_succ]
          refine wpX_f _ (.pointer (some ⟨s, 17 + i, none⟩)) rfl rfl (fun X _ => by simp [go_sem, i0, i1]) ?_
          simp only [List.getElem_toArray, List.getElem_cons_zero, List.getElem_cons_succ, Act.put, List.setIfInBounds_toArray, List.set_cons_zero, List.set_cons_succ]
          refine wpX_f _ (.pointer (some ⟨s, 49, none⟩)) rfl rfl (fun X _ => by simp [go_sem]) ?_
          simp only [List.getElem_toArray, List.getElem_cons_zero, List.getElem_cons_succ, Act.put, List.setIfInBounds_toArray, List.set_cons_zero, List.set_cons_succ]
          have S3' := hideit (S3.out.drew)
          have Q3' := hideit (Q3.out.drew)
          have hE3' := hideit (hE3.out.draw)
          have L3' := hideit hC0
          clear S3 Q3 hE3 L3 hC0
          have es := S3'.out.1 (17 + i) (by omega)
          have gs := S3'.out.2.1 (17 + i) (by omega)
          have S4 := hideit (S3'.out.set (17 + i) (.int .u8 ((b (20 + i)).toNat : Int)))
          have Q4 := hideit (Q3'.out.other ⟨s, 17 + i, none⟩ (.int .u8 ((b (20 + i)).toNat : Int)) (by show s ≠ q; have := hqs.out; omega))
          have L4 := hideit (L3'.out.but (but_setCell wr.drew s (17 + i) (.int .u8 ((b (20 + i)).toNat : Int))) (by have := has.out; omega))
          have hE4 : Hid (Ext w (wr.drew.setCell ⟨s, 17 + i, none⟩ (.int .u8 ((b (20 + i)).toNat : Int)))) := hideit (Below.setCell hE3'.out (by show w.heap.size ≤ s; exact hws.out) _)
          refine wpX_st _ (wr.drew.setCell ⟨s, 17 + i, none⟩ (.int .u8 ((b (20 + i)).toNat : Int))) rfl rfl (by simp [go_sem, es, gs]) (fun X => LieAt ad 512 (yv b) X) (fun _ h => h) L4.out ?_
          simp only [List.getElem_toArray, List.getElem_cons_zero, List.getElem_cons_succ, Act.put]
          clear S3' Q3' hE3' L3' es gs
          generalize wr.drew.setCell ⟨s, 17 + i, none⟩ (.int .u8 ((b (20 + i)).toNat : Int)) = w4 at *
          refine wpX_f _ (.pointer (some ⟨s, 49 + i, none⟩)) rfl rfl (fun X _ => by simp [go_sem, i0, i1]) ?_
          simp only [List.getElem_toArray, List.getElem_cons_zero, List.getElem_cons_succ, Act.put, List.setIfInBounds_toArray, List.set_cons_zero, List.set_cons_succ]
          have es := S4.out.1 (49 + i) (by omega)
          have gs := S4.out.2.1 (49 + i) (by omega)
          have S5 : Hid (RowAt s 81 (slv true (upG b (i + 1))) (w4.setCell ⟨s, 49 + i, none⟩ (.int .u8 ((b (52 + i)).toNat : Int)))) := hideit ((S4.out.set (49 + i) (.int .u8 ((b (52 + i)).toNat : Int))).congr fun j hj => up_gs b i j hj hlt)
          have Q5 := hideit (Q4.out.other ⟨s, 49 + i, none⟩ (.int .u8 ((b (52 + i)).toNat : Int)) (by show s ≠ q; have := hqs.out; omega))
          have L5 := hideit (L4.out.but (but_setCell w4 s (49 + i) (.int .u8 ((b (52 + i)).toNat : Int))) (by have := has.out; omega))
          have hE5 : Hid (Ext w (w4.setCell ⟨s, 49 + i, none⟩ (.int .u8 ((b (52 + i)).toNat : Int)))) := hideit (Below.setCell hE4.out (by show w.heap.size ≤ s; exact hws.out) _)
          refine wpX_st _ (w4.setCell ⟨s, 49 + i, none⟩ (.int .u8 ((b (52 + i)).toNat : Int))) rfl rfl (by simp [go_sem, es, gs]) (fun X => LieAt ad 512 (yv b) X) (fun _ h => h) L5.out ?_
          simp only [List.getElem_toArray, List.getElem_cons_zero, List.getElem_cons_succ, Act.put]
          clear S4 Q4 L4 hE4 es gs
          generalize w4.setCell ⟨s, 49 + i, none⟩ (.int .u8 ((b (52 + i)).toNat : Int)) = w5 at *
          refine wpX_nil ?_
          go_wp2
          refine ⟨⟨i + 1, by omega, by go_num, S5.out, Q5.out, L5.out, hE5.out⟩, by simp [intOf]; omega⟩
        · obtain rfl : i = 32 := by omega
          have i1 : ¬ ((32 : Nat) : Int) < 32 := by decide
          have S4 : Hid (RowAt s 81 (slv true (fun j => b (4 + j))) wr) := hideit (S3.out.congr fun j hj => up_g1 b j hj)
          clear S3
          have S3 := S4
          clear S4
          go_upto_region 14 with (fail)
          refine wp_region_lit ?_
          refine wpList_load_mid rfl 25 (.tmp 4) rfl s 0 rfl (row 81 (slv true (fun j => b (4 + j)))) _ S3.out.range Try.underlying25 rfl (by rw [row_length]; exact info25) ?_
          simp only [Act.put, List.setIfInBounds_toArray, List.set_cons_zero, List.set_cons_succ]
          refine wpList_call rfl (by simp [go_sem]; exact ⟨rfl, rfl⟩) ?_
          refine (renc_ok true (fun j => b (4 + j)) (.inl rfl) wr).mono ?_
          rintro e w4 ⟨v4, rfl, hV4, hX⟩
          refine ⟨_, rfl, ?_⟩
          simp only [Act.put, List.setIfInBounds_toArray, List.set_cons_zero, List.set_cons_succ]
          have Q4 := hideit (Q3.out.carry hX)
          have S4 := hideit (S3.out.carry hX)
          have L4 := hideit (L3.out.carry hX)
          have hE4 := hideit (Ext.trans hE3.out hX)
          have V4 := hideit hV4
          clear Q3 S3 L3 hE3 hX hV4
          go_upto_region 15 with (fail)
          have hc1 := convV v4 512 _ w4 V4.out
          have hc2 := convV (.slice (some ad) 512 cp) 512 b w4 (.inr ⟨_, _, rfl, hcp, L4.out⟩)
          have hst := str_beq 512 (slB true (fun j => b (4 + j))) b
          rw [hR.out] at hst
          obtain ⟨s1, hs1⟩ : ∃ s1, s1 = bstr 512 (fun j => ((slB true (fun j => b (4 + j)) j).toNat : Int)) := ⟨_, rfl⟩
          obtain ⟨s2, hs2⟩ : ∃ s2, s2 = bstr 512 (fun j => ((b j).toNat : Int)) := ⟨_, rfl⟩
          rw [← hs1] at hc1 hst
          rw [← hs2] at hc2 hst
          clear hs1 hs2
          refine wp_region_lit ?_
          refine wpList_run rfl (v4) (by simp [go_sem]) ?_
          simp only [Act.put, List.setIfInBounds_toArray, List.set_cons_zero, List.set_cons_succ]
          refine wpList_run rfl (.string s1) (by simp [go_sem, hc1]) ?_
          simp only [Act.put, List.setIfInBounds_toArray, List.set_cons_zero, List.set_cons_succ]
          refine wpList_run rfl (.slice (some ad) 512 cp) (by simp [go_sem]) ?_
          simp only [Act.put, List.setIfInBounds_toArray, List.set_cons_zero, List.set_cons_succ]
          refine wpList_run rfl (.string s2) (by simp [go_sem, hc2]) ?_
          simp only [Act.put, List.setIfInBounds_toArray, List.set_cons_zero, List.set_cons_succ]
          refine wpList_run rfl (.bool (!R)) (by simp only [← hst]; simp [go_sem]) ?_
          simp only [Act.put, List.setIfInBounds_toArray, List.set_cons_zero, List.set_cons_succ]
          clear hc1 hc2 hst V4 L4
          cases R with
          | true =>
            go_upto_region 17 with (fail)
            refine wp_region_lit ?_
            refine wpList_load_mid rfl 25 (.tmp 4) rfl s 0 rfl (row 81 (slv true (fun j => b (4 + j)))) _ S4.out.range Try.underlying25 rfl (by rw [row_length]; exact info25) ?_
            simp only [Act.put, List.setIfInBounds_toArray, List.set_cons_zero, List.set_cons_succ]
            refine wpList_store_mid rfl 25 (.tmp 2) (.tmp 62) rfl q 0 (row 81 (slv true (fun j => b (4 + j)))).toArray rfl rfl (by rw [row_size]; exact Q4.out.there) (by rw [row_size]; exact info25) (row_one (slv_one _ _)) ?_
            rw [show (row 81 (slv true (fun j => b (4 + j)))).toArray.toList = row 81 (slv true (fun j => b (4 + j))) from rfl]
            have h9 : Hid (RowAt q 81 (slv true (fun j => b (4 + j))) (w4.setCells q 0 (row 81 (slv true (fun j => b (4 + j)))))) := hideit Q4.out.cells
            have hE9 : Hid (Ext w (w4.setCells q 0 (row 81 (slv true (fun j => b (4 + j)))))) := hideit (below_setCells _ hwq.out _ _ _ hE4.out)
            clear Q4 S4 hE4
            generalize w4.setCells q 0 (row 81 (slv true (fun j => b (4 + j)))) = w9 at *
            simp only [Act.put]
            go_wp2
            exact bodyPost_ret (ret_row2 Try.results12 rfl h9.out Try.underlying25 rfl info25) rfl ⟨rfl, hE9.out⟩
          | false =>
            go_upto_region 16 with (fail)
            refine wp_region_lit ?_
            refine wpList_build rfl 25 [] rfl (.agg (row 81 (slv false zF)).toArray) (build25 _) ?_
            simp only [Act.put, List.setIfInBounds_toArray, List.set_cons_zero, List.set_cons_succ]
            refine wpList_store_mid rfl 25 (.tmp 2) (.tmp 61) rfl q 0 (row 81 (slv false zF)).toArray rfl rfl (by rw [row_size]; exact Q4.out.there) (by rw [row_size]; exact info25) (row_one (slv_one _ _)) ?_
            rw [show (row 81 (slv false zF)).toArray.toList = row 81 (slv false zF) from rfl]
            have h9 : Hid (RowAt q 81 (slv false zF) (w4.setCells q 0 (row 81 (slv false zF)))) := hideit Q4.out.cells
            have hE9 : Hid (Ext w (w4.setCells q 0 (row 81 (slv false zF)))) := hideit (below_setCells _ hwq.out _ _ _ hE4.out)
            clear Q4 hE4 S4
            generalize w4.setCells q 0 (row 81 (slv false zF)) = w9 at *
            simp only [Act.put]
            go_wp2
            exact bodyPost_ret (ret_row2 Try.results12 rfl h9.out Try.underlying25 rfl info25) rfl ⟨rfl, hE9.out⟩
end Go.Proofs.Ytomalmnpojcloaa
