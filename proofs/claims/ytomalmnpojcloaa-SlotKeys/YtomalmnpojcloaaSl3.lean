/-
  What a Reader of a block tells of a slot; what any bytes are as a slot.
-/
import Derived.Test.YtomalmnpojcloaaSl2
namespace Go.Proofs.Ytomalmnpojcloaa
open Go.RowKit Go.BigFrame
theorem zc25 : zk25 = (row 81 (slv false zF)).toArray := rfl
theorem but_new {r c o : Nat} {w X : World} (h : But r w X) (hc : w.heap.size ≤ c) (vs : List Value) : But r w (X.setCells c o vs) := by
  have k := below_setCells (B := c) c (Nat.le_refl _) vs o X (Below.refl c X)
  exact ⟨(Below.os k).trans h.os, (Below.tape k).trans h.tape, (Below.output k).trans h.output, Nat.le_trans h.size (Below.size k), fun i hi hne => (Below.block k i (Nat.lt_of_lt_of_le hi hc)).trans (h.block i hi hne)⟩
theorem build25t (w : World) : (Instr.build 25 #[(0, .bool true)]).run Try.prog w = .ok (.agg (row 81 (slv true zF)).toArray) w := run_build w 25 _ _ (by kernel_rfl)
/-- a row of zeros just made, and filled -/
theorem made25 (w : World) (a : Bool) (f : Nat → BitVec 8) : RowAt w.heap.size 81 (slv false zF) (w.alloc (.cells zk25 25)) ∧ Ext w (w.alloc (.cells zk25 25)) ∧ RowAt w.heap.size 81 (slv a f) ((w.alloc (.cells zk25 25)).setCells w.heap.size 0 (row 81 (slv a f))) ∧ Ext w ((w.alloc (.cells zk25 25)).setCells w.heap.size 0 (row 81 (slv a f))) := by
  rw [zc25]
  have h1 := RowAt.new w 81 (slv false zF) 25
  have h2 : Ext w (w.alloc (.cells (row 81 (slv false zF)).toArray 25)) := (Below.refl _ _).alloc (Nat.le_refl _) _
  exact ⟨h1, h2, h1.cells, below_setCells _ (Nat.le_refl _) _ _ _ h2⟩
set_option maxRecDepth 20000 in
set_option maxHeartbeats 2000000 in
theorem body_zero (lo r : Nat) (b : Nat → BitVec 8) (w : World) (h : Rd lo r 512 b false w) (hz : zB b 512 = true) :
    Calls Try.prog 25 #[.pointer (some ⟨r, 0, none⟩)] w fun e w' => e = .returned (.tuple #[.agg (row 81 (slv false zF)).toArray, .bool true]) ∧ Ext w w' := by
  obtain ⟨H0, hE0, _, _⟩ := made25 w false zF
  have hD := rdone_any lo r 512 b false _ (h.ext hE0) (by decide)
  rw [hz, show dnI (false || !true) = 0 from rfl] at hD
  replace hD := hideit hD
  replace H0 := hideit H0
  replace hE0 := hideit hE0
  clear hz h
  go_enter Try.func25, Try.ntmps25
  go_upto_region 0 with (fail)
  refine wp_region_lit ?_
  refine wpList_to rfl (.pointer (some ⟨w.heap.size, 0, none⟩)) (w.alloc (.cells zk25 25)) (alloc25 rfl) ?_
  simp only [Act.put, List.setIfInBounds_toArray, List.set_cons_zero, List.set_cons_succ]
  go_upto_region 2 with (go_at_call 26; refine hD.out.mono ?_; rintro e w9 ⟨rfl, rfl⟩)
  clear hD
  generalize w.alloc (.cells zk25 25) = w1 at *
  refine wp_region_lit ?_
  refine wpList_build rfl 25 [] rfl (.agg (row 81 (slv false zF)).toArray) (build25 _) ?_
  simp only [Act.put, List.setIfInBounds_toArray, List.set_cons_zero, List.set_cons_succ]
  refine wpList_store_mid rfl 25 (.tmp 2) (.tmp 9) rfl w.heap.size 0 (row 81 (slv false zF)).toArray rfl rfl (by rw [row_size]; exact H0.out.there) (by rw [row_size]; exact info25) (row_one (slv_one _ _)) ?_
  have h9 : Hid (RowAt w.heap.size 81 (slv false zF) (w1.setCells w.heap.size 0 (row 81 (slv false zF)))) := H0.out.cells
  have hE9 : Hid (Ext w (w1.setCells w.heap.size 0 (row 81 (slv false zF)))) := below_setCells _ (Nat.le_refl _) _ _ _ hE0.out
  rw [show (row 81 (slv false zF)).toArray.toList = row 81 (slv false zF) from rfl]
  generalize w1.setCells w.heap.size 0 (row 81 (slv false zF)) = w9 at *
  simp only [Act.put]
  clear H0 hE0
  go_wp2
  exact bodyPost_ret (ret_row2 Try.results25 rfl h9.out Try.underlying25 rfl info25) rfl ⟨rfl, hE9.out⟩
/-- so many bytes behind the mark, then zeros -/
def upF (b : Nat → BitVec 8) (k : Nat) (j : Nat) : BitVec 8 := if j < k then b (4 + j) else 0#8
theorem up_fill (b : Nat → BitVec 8) (o m j : Nat) : (if 1 + o ≤ j ∧ j < 1 + o + m then yv (fun i => b (4 + o + i)) (j - (1 + o)) else slv true (upF b o) j) = slv true (upF b (o + m)) j := by
  unfold slv upF yv
  by_cases h0 : j = 0
  · rw [if_neg (by omega), if_pos h0, if_pos h0]
  · rw [if_neg h0, if_neg h0]
    by_cases h1 : 1 + o ≤ j ∧ j < 1 + o + m
    · rw [if_pos h1, if_pos (by omega)]
      show Value.int .u8 ((b (4 + o + (j - (1 + o)))).toNat : Int) = _
      rw [show 4 + o + (j - (1 + o)) = 4 + (j - 1) by omega]
    · rw [if_neg h1]
      by_cases h2 : j - 1 < o
      · rw [if_pos h2, if_pos (by omega)]
      · rw [if_neg h2, if_neg (by omega)]
theorem sh_sh (b : Nat → BitVec 8) (k m : Nat) : shF (fun j => b (k + j)) m = fun j => b (k + m + j) := funext fun j => by
  show b (k + (m + j)) = _
  rw [Nat.add_assoc]
theorem slot_mark : (⟨#[83, 76, 79, 84]⟩ : ByteArray).toList = lst 4 (bT [83, 76, 79, 84]) := by
  rw [ByteArray.toList_eq]; decide +kernel
theorem Rd.set {lo c d l o : Nat} {f : Nat → BitVec 8} {bad : Bool} {w : World} (h : Rd lo c l f bad w) (hd : c < d) (hlo : lo ≤ c) (vs : List Value) : Rd lo c l f bad (w.setCells d o vs) :=
  h.but (But.sets vs o w (But.refl d w)) (.inr hd) hlo
set_option maxRecDepth 20000 in
set_option maxHeartbeats 2000000 in
theorem body_act (lo r : Nat) (b : Nat → BitVec 8) (w : World) (h : Rd lo r 512 b false w) (hlo : lo ≤ r) (hz : zB b 512 = false) :
    Calls Try.prog 25 #[.pointer (some ⟨r, 0, none⟩)] w fun e w' => e = .returned (.tuple #[.agg (row 81 (slv true fun j => b (4 + j))).toArray, .bool (eqN 4 b (bT [83, 76, 79, 84]))]) ∧ Rd lo r 428 (fun j => b (84 + j)) false w' ∧ But r w w' := by
  obtain ⟨B, hB⟩ : ∃ B, B = eqN 4 b (bT [83, 76, 79, 84]) := ⟨_, rfl⟩
  rw [← hB]
  replace hB := hideit hB
  have hrw := hideit h.lt
  obtain ⟨H0, hE0, _, _⟩ := made25 w false zF
  have hR0 := hideit (h.ext hE0)
  have hD := rdone_any lo r 512 b false _ hR0.out (by decide)
  rw [hz, show dnI (false || !false) = 90 from rfl] at hD
  replace hD := hideit hD
  replace H0 := hideit H0
  replace hE0 := hideit hE0
  clear hz h
  go_enter Try.func25, Try.ntmps25
  go_upto_region 0 with (fail)
  refine wp_region_lit ?_
  refine wpList_to rfl (.pointer (some ⟨w.heap.size, 0, none⟩)) (w.alloc (.cells zk25 25)) (alloc25 rfl) ?_
  simp only [Act.put, List.setIfInBounds_toArray, List.set_cons_zero, List.set_cons_succ]
  go_upto_region 3 with (go_at_call 26; refine hD.out.mono ?_; rintro e w9 ⟨rfl, rfl⟩)
  clear hD
  generalize w.alloc (.cells zk25 25) = w1 at *
  obtain ⟨q, hq⟩ : ∃ q, q = w.heap.size := ⟨_, rfl⟩
  have hwq : Hid (w.heap.size ≤ q) := hideit (by omega)
  have hrq : Hid (r < q) := hideit (by have := hrw.out; omega)
  rw [← hq] at H0 ⊢
  clear hq
  obtain ⟨H1, hE1, H2, hE2⟩ := made25 w1 true zF
  obtain ⟨s, hs⟩ : ∃ s, s = w1.heap.size := ⟨_, rfl⟩
  have hqs : Hid (q < s) := hideit (by rw [hs]; exact H0.out.2.2)
  rw [← hs] at H1 H2 hE2
  refine wp_region_lit ?_
  refine wpList_build rfl 25 [(0, .const (.bool true))] rfl (.agg (row 81 (slv true zF)).toArray) (build25t _) ?_
  simp only [Act.put, List.setIfInBounds_toArray, List.set_cons_zero, List.set_cons_succ]
  refine wpList_to rfl (.pointer (some ⟨s, 0, none⟩)) (w1.alloc (.cells zk25 25)) (by rw [hs]; exact alloc25 rfl) ?_
  simp only [Act.put, List.setIfInBounds_toArray, List.set_cons_zero, List.set_cons_succ]
  refine wpList_store_mid rfl 25 (.tmp 4) (.tmp 10) rfl s 0 (row 81 (slv true zF)).toArray rfl rfl (by rw [row_size]; exact H1.there) (by rw [row_size]; exact info25) (row_one (slv_one _ _)) ?_
  rw [show (row 81 (slv true zF)).toArray.toList = row 81 (slv true zF) from rfl]
  have Q2 := hideit (H0.out.carry hE2)
  have hR2 := hideit (hR0.out.ext hE2)
  have hB2 := hideit (But.of_ext (c := r) (Ext.trans hE0.out hE2))
  have S2 : Hid (RowAt s 81 (slv true (upF b 0)) ((w1.alloc (.cells zk25 25)).setCells s 0 (row 81 (slv true zF)))) := hideit (H2.congr fun j _ => rfl)
  have hr2 : Hid (r < s) := hideit (by have := hrq.out; have := hqs.out; omega)
  have hw2 : Hid (w.heap.size ≤ s) := hideit (by have := hwq.out; have := hqs.out; omega)
  clear H0 H1 H2 hE1 hE2 hE0 hR0 hs
  generalize (w1.alloc (.cells zk25 25)).setCells s 0 (row 81 (slv true zF)) = w2 at *
  simp only [Act.put]
  have hN := next_ok lo r 512 b ⟨#[83, 76, 79, 84]⟩ [83, 76, 79, 84] w2 hR2.out slot_mark rfl (by decide) (by decide)
  rw [← hB.out] at hN
  replace hN := hideit hN
  go_upto_region 5 with (go_at_call 27; refine hN.out.mono ?_; rintro e w3 ⟨rfl, hR3, hK3⟩; replace hR3 := hideit hR3; replace hK3 := hideit hK3)
  have Q3 := hideit (Q2.out.but hK3.out (by have := hrq.out; omega))
  have S3 := hideit (S2.out.but hK3.out (by have := hr2.out; omega))
  have hB3 := hideit (hB2.out.trans hK3.out)
  have hR3' : Hid (Rd lo r (508 - 0) (fun j => b (4 + 0 + j)) false w3) := hideit hR3.out
  clear hN hR2 hR3 hK3 Q2 S2 hB2
  have hf := hideit (fill_ok lo r (508 - 0) s 81 (1 + 0) 16 (fun j => b (4 + 0 + j)) (slv true (upF b 0)) w3 hR3'.out (by decide) (by decide) S3.out (by have := hr2.out; omega) (by decide) (by decide))
  go_upto_region 6 with (go_at_call 28; refine hf.out.mono ?_; rintro e w4 ⟨rfl, X, hX1, hX2, hX3⟩; replace hX2 := hideit hX2; replace hX3 := hideit hX3; replace hX1 := hideit hX1)
  have S4 : Hid (RowAt s 81 (slv true (upF b 16)) w4) := hideit (by rw [hX2.out]; exact ((S3.out.but hX1.out (by have := hr2.out; omega)).part (1 + 0) 16 _ (by decide)).congr fun j _ => up_fill b 0 16 j)
  have Q4 : Hid (RowAt q 81 (slv false zF) w4) := hideit (by rw [hX2.out]; exact (Q3.out.but hX1.out (by have := hrq.out; omega)).cellsOther (by have := hqs.out; omega) _ _)
  have hR4' : Hid (Rd lo r (508 - 16) (fun j => b (4 + 16 + j)) false w4) := hideit (by rw [hX2.out]; have := hX3.out; rw [sh_sh] at this; exact this.set hr2.out hlo _)
  have hB4 : Hid (But r w w4) := hideit (by rw [hX2.out]; exact but_new (hB3.out.trans hX1.out) hw2.out _)
  clear hf hX1 hX2 hX3 S3 Q3 hR3' hB3
  have hf := hideit (fill_ok lo r (508 - 16) s 81 (1 + 16) 32 (fun j => b (4 + 16 + j)) (slv true (upF b 16)) w4 hR4'.out (by decide) (by decide) S4.out (by have := hr2.out; omega) (by decide) (by decide))
  go_upto_region 7 with (go_at_call 28; refine hf.out.mono ?_; rintro e w5 ⟨rfl, X, hX1, hX2, hX3⟩; replace hX2 := hideit hX2; replace hX3 := hideit hX3; replace hX1 := hideit hX1)
  have S5 : Hid (RowAt s 81 (slv true (upF b 48)) w5) := hideit (by rw [hX2.out]; exact ((S4.out.but hX1.out (by have := hr2.out; omega)).part (1 + 16) 32 _ (by decide)).congr fun j _ => up_fill b 16 32 j)
  have Q5 : Hid (RowAt q 81 (slv false zF) w5) := hideit (by rw [hX2.out]; exact (Q4.out.but hX1.out (by have := hrq.out; omega)).cellsOther (by have := hqs.out; omega) _ _)
  have hR5' : Hid (Rd lo r (508 - 48) (fun j => b (4 + 48 + j)) false w5) := hideit (by rw [hX2.out]; have := hX3.out; rw [sh_sh] at this; exact this.set hr2.out hlo _)
  have hB5 : Hid (But r w w5) := hideit (by rw [hX2.out]; exact but_new (hB4.out.trans hX1.out) hw2.out _)
  clear hf hX1 hX2 hX3 S4 Q4 hR4' hB4
  have hf := hideit (fill_ok lo r (508 - 48) s 81 (1 + 48) 32 (fun j => b (4 + 48 + j)) (slv true (upF b 48)) w5 hR5'.out (by decide) (by decide) S5.out (by have := hr2.out; omega) (by decide) (by decide))
  go_upto_region 8 with (go_at_call 28; refine hf.out.mono ?_; rintro e w6 ⟨rfl, X, hX1, hX2, hX3⟩; replace hX2 := hideit hX2; replace hX3 := hideit hX3; replace hX1 := hideit hX1)
  have S6 : Hid (RowAt s 81 (slv true (upF b 80)) w6) := hideit (by rw [hX2.out]; exact ((S5.out.but hX1.out (by have := hr2.out; omega)).part (1 + 48) 32 _ (by decide)).congr fun j _ => up_fill b 48 32 j)
  have Q6 : Hid (RowAt q 81 (slv false zF) w6) := hideit (by rw [hX2.out]; exact (Q5.out.but hX1.out (by have := hrq.out; omega)).cellsOther (by have := hqs.out; omega) _ _)
  have hR6' : Hid (Rd lo r (508 - 80) (fun j => b (4 + 80 + j)) false w6) := hideit (by rw [hX2.out]; have := hX3.out; rw [sh_sh] at this; exact this.set hr2.out hlo _)
  have hB6 : Hid (But r w w6) := hideit (by rw [hX2.out]; exact but_new (hB5.out.trans hX1.out) hw2.out _)
  clear hf hX1 hX2 hX3 S5 Q5 hR5' hB5
  refine wp_region_lit ?_
  refine wpList_load_mid rfl 25 (.tmp 4) rfl s 0 rfl (row 81 (slv true (upF b 80))) _ S6.out.range Try.underlying25 rfl (by rw [row_length]; exact info25) ?_
  simp only [Act.put, List.setIfInBounds_toArray, List.set_cons_zero, List.set_cons_succ]
  refine wpList_run rfl (.bool B) (by simp [go_sem]) ?_
  simp only [Act.put, List.setIfInBounds_toArray, List.set_cons_zero, List.set_cons_succ]
  refine wpList_store_mid rfl 25 (.tmp 2) (.tmp 25) rfl q 0 (row 81 (slv true (upF b 80))).toArray rfl rfl (by rw [row_size]; exact Q6.out.there) (by rw [row_size]; exact info25) (row_one (slv_one _ _)) ?_
  rw [show (row 81 (slv true (upF b 80))).toArray.toList = row 81 (slv true (upF b 80)) from rfl]
  have h9 : Hid (RowAt q 81 (slv true (upF b 80)) (w6.setCells q 0 (row 81 (slv true (upF b 80))))) := hideit Q6.out.cells
  have hR9 := hideit (hR6'.out.set (o := 0) hrq.out hlo (row 81 (slv true (upF b 80))))
  have hB9 := hideit (but_new (o := 0) hB6.out hwq.out (row 81 (slv true (upF b 80))))
  clear S6 Q6 hR6' hB6
  generalize w6.setCells q 0 (row 81 (slv true (upF b 80))) = w9 at *
  simp only [Act.put]
  go_wp2
  have hc : row 81 (slv true (upF b 80)) = row 81 (slv true fun j => b (4 + j)) := slv_congr fun j hj => by unfold upF; rw [if_pos hj]
  rw [← hc]
  exact bodyPost_ret (ret_row2 Try.results25 rfl h9.out Try.underlying25 rfl info25) rfl ⟨rfl, hR9.out, hB9.out⟩
end Go.Proofs.Ytomalmnpojcloaa
