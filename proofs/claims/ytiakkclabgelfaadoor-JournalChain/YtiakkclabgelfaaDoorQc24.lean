/-
  A plan as it is written; a seal; a mark; a redo's bytes as they stand. A plan as it is written.
-/
import Derived.Test.YtiakkclabgelfaaDoorQc1
import Derived.Test.YtiakkclabgelfaaDoorQc23
namespace Go.Proofs.YtiakkclabgelfaaDoor
set_option maxRecDepth 20000
open Go.RowKit Go.BigFrame
def lsT (p q : Nat) (i : Nat) : Nat := if i = 0 then p else q
def fsT (f g : Nat → BitVec 8) (i : Nat) : Nat → BitVec 8 := if i = 0 then f else g
theorem all_two (p q : Nat) (f g : Nat → BitVec 8) (j : Nat) : allF (lsT p q) (fsT f g) 2 j = catF f p g j := by
  rw [allF_succ, allF_succ]
  show catF (catF _ 0 f) (0 + p) g j = _
  unfold catF
  rw [Nat.zero_add]
  by_cases h : j < p
  · rw [if_pos h, if_pos h, if_neg (Nat.not_lt_zero _)]
    rfl
  · rw [if_neg h, if_neg h]
theorem sum_two (p q : Nat) : sumL (lsT p q) 2 = p + q := by
  rw [sumL_succ, sumL_succ]
  show 0 + p + q = p + q
  omega
theorem parts_two {w : World} {u0 u1 : Value} {p q : Nat} {f g : Nat → BitVec 8} (h0 : BV u0 p f w) (h1 : BV u1 q g w) : Parts (.slice (some ⟨w.heap.size, 0, none⟩) 2 2) 2 (fun i => if i = 0 then u0 else u1) (lsT p q) (fsT f g) (w.alloc (.cells #[u0, u1] 39)) := by
  have hX : Ext w (w.alloc (.cells #[u0, u1] 39)) := (Below.refl _ _).alloc (Nat.le_refl _) _
  refine ⟨.inr ⟨_, 2, rfl, Nat.le_refl _, RowAt.lie (RowAt.newOf w 2 _ 39 _ fun j hj => by rcases (by omega : j = 0 ∨ j = 1) with rfl | rfl <;> rfl) 2 (Nat.le_refl _)⟩, fun i hi => ?_⟩
  rcases (by omega : i = 0 ∨ i = 1) with rfl | rfl
  · exact h0.ext hX
  · exact h1.ext hX
theorem bv_row {g n : Nat} {f : Nat → BitVec 8} {w : World} (h : RowAt g n (yv f) w) : BV (.slice (some ⟨g, 0, none⟩) n n) n f w := .inr ⟨_, n, rfl, Nat.le_refl _, h.lie n (Nat.le_refl _)⟩
theorem pad_two {p q m : Nat} {f g : Nat → BitVec 8} (h : m = p + q) : padF (allF (lsT p q) (fsT f g) 2) (sumL (lsT p q) 2) = padF (catF f p g) m := by
  rw [sum_two, h]
  funext j
  unfold padF
  by_cases e : j < p + q
  · rw [if_pos e, if_pos e, all_two]
  · rw [if_neg e, if_neg e]
theorem block_two {w : World} {g1 g2 : Nat} {f g : Nat → BitVec 8} {q m : Nat} (h0 : RowAt g1 12 (yv f) w) (h1 : RowAt g2 q (yv g) w) (hm : m = 12 + q) (h5 : m ≤ 512) : Calls Tryd.prog 53 #[.slice (some ⟨w.heap.size, 0, none⟩) 2 2] (w.alloc (.cells #[.slice (some ⟨g1, 0, none⟩) 12 12, .slice (some ⟨g2, 0, none⟩) q q] 39)) fun e w' => ∃ z, e = .returned (.slice (some ⟨z, 0, none⟩) 512 512) ∧ w.heap.size ≤ z ∧ RowAt z 512 (yv (padF (catF f 12 g) m)) w' ∧ Ext w w' := by
  have hX : Ext w (w.alloc (.cells #[.slice (some ⟨g1, 0, none⟩) 12 12, .slice (some ⟨g2, 0, none⟩) q q] 39)) := (Below.refl _ _).alloc (Nat.le_refl _) _
  refine (blk_any (parts_two (bv_row h0) (bv_row h1)) (by decide) (by rw [sum_two]; omega)).mono ?_
  rintro e w' ⟨z, rfl, h2, h3, h4⟩
  rw [pad_two hm] at h3
  exact ⟨z, rfl, Nat.le_trans (Below.size hX) h2, h3, Ext.trans hX h4⟩
def sPL : ByteArray := ⟨#[80, 76, 65, 78]⟩
def sDN : ByteArray := ⟨#[68, 79, 78, 69]⟩
def sMK : ByteArray := ⟨#[77, 65, 82, 75]⟩
def sealF (x : BitVec 64) (F : Nat → BitVec 8) (L : Nat) : Nat → BitVec 8 := padF (catF (begF sDN x) 12 (shaF F L)) 44
set_option maxRecDepth 20000 in
set_option maxHeartbeats 4000000 in
theorem seal_any (x : BitVec 64) {v : Value} {n : Nat} {us : Nat → Value} {ls : Nat → Nat} {bs : Nat → Nat → BitVec 8} {w : World} (hP : Parts v n us ls bs w) (hT : TabC w) (hn : n ≤ 4398046511104) (hs : sumL ls n ≤ 1000000000000) : Calls Tryd.prog 46 #[.int .u64 (x.toNat : Int), v] w fun e w' => ∃ z, e = .returned (.slice (some ⟨z, 0, none⟩) 512 512) ∧ w.heap.size ≤ z ∧ RowAt z 512 (yv (sealF x (allF ls bs n) (sumL ls n))) w' ∧ Ext w w' := by
  have kb := hideit (begin_any sDN rfl x w)
  replace hP := hideit hP
  replace hT := hideit hT
  unfold sDN at kb
  go_enter Tryd.func46, Tryd.ntmps46
  go_upto_region 1 with (fail)
  refine wp_region_lit ?_
  refine wpList_run rfl (.int .u64 (x.toNat : Int)) (by simp [go_sem]) ?_
  simp only [zp0, zp1, zp2, zp3]
  refine wpList_call rfl (by simp [go_sem]) ((kb.out).mono ?_)
  rintro e w1 ⟨g1, rfl, _, hR1, hX1⟩
  refine ⟨_, rfl, ?_⟩
  simp only [zp0, zp1, zp2, zp3]
  refine wpList_run rfl (v) (by simp [go_sem]) ?_
  simp only [zp0, zp1, zp2, zp3]
  have kd := hideit (digest_of (hP.out.ext hX1) (TabC.ext hT.out hX1) hn hs)
  refine wpList_call rfl (by simp [go_sem]) ((kd.out).mono ?_)
  rintro e w2 ⟨g2, rfl, _, hR2, hX2⟩
  refine ⟨_, rfl, ?_⟩
  simp only [zp0, zp1, zp2, zp3]
  have kb2 := hideit (block_two (hR1.carry hX2) hR2 (m := 44) rfl (by decide))
  have hE2 := hideit (Ext.trans hX1 hX2)
  clear kb kd hR1 hR2 hX1 hX2
  refine wpList_to rfl (.slice (some ⟨w2.heap.size, 0, none⟩) 2 2) (w2.alloc (.cells #[.slice (some ⟨g1, 0, none⟩) 12 12, .slice (some ⟨g2, 0, none⟩) 32 32] 39)) (by simp [go_sem]) ?_
  simp only [zp0, zp1, zp2, zp3]
  generalize w2.alloc (.cells #[.slice (some ⟨g1, 0, none⟩) 12 12, .slice (some ⟨g2, 0, none⟩) 32 32] 39) = w3 at *
  refine wpList_call rfl (by simp [go_sem]) ((kb2.out).mono ?_)
  rintro e w4 ⟨z, rfl, hz, hR4, hX4⟩
  refine ⟨_, rfl, ?_⟩
  simp only [zp0, zp1, zp2, zp3]
  refine wpList_run rfl (.slice (some ⟨z, 0, none⟩) 512 512) (by simp [go_sem]) ?_
  simp only [zp0, zp1, zp2, zp3]
  have hE4 := hideit (Ext.trans hE2.out hX4)
  have hz4 : Hid (w.heap.size ≤ z) := Nat.le_trans (Below.size hE2.out) hz
  replace hR4 := hideit hR4
  clear kb2 hX4 hE2 hz
  go_wp2
  go_ret
  exact ⟨z, rfl, hz4.out, hR4.out, hE4.out⟩
def markF (x : BitVec 64) : Nat → BitVec 8 := padF (catF (begF sMK x) 12 (shaF (begF sMK x) 12)) 44
theorem all_one {ls : Nat → Nat} {bs : Nat → Nat → BitVec 8} : shaF (allF ls bs 1) (sumL ls 1) = shaF (bs 0) (ls 0) := by
  have h1 : sumL ls 1 = ls 0 := by rw [sumL_succ]; show 0 + ls 0 = _; omega
  rw [h1]
  refine shaF_congr _ _ _ fun j hj => ?_
  rw [allF_succ]
  show catF _ 0 (bs 0) j = _
  unfold catF
  rw [if_neg (Nat.not_lt_zero _)]
  rfl
theorem parts_one {w : World} {u0 : Value} {p : Nat} {f : Nat → BitVec 8} (h0 : BV u0 p f w) : Parts (.slice (some ⟨w.heap.size, 0, none⟩) 1 1) 1 (fun _ => u0) (fun _ => p) (fun _ => f) (w.alloc (.cells #[u0] 39)) := by
  have hX : Ext w (w.alloc (.cells #[u0] 39)) := (Below.refl _ _).alloc (Nat.le_refl _) _
  exact ⟨.inr ⟨_, 1, rfl, Nat.le_refl _, RowAt.lie (row_new1 w u0 39) 1 (Nat.le_refl _)⟩, fun i hi => h0.ext hX⟩
theorem mark_no (w : World) : Calls Tryd.prog 29 #[.int .u64 ((0#64).toNat : Int)] w fun e w' => e = .returned (.tuple #[.slice none 0 0, .int .i64 1]) ∧ w' = w := by
  go_enter Tryd.func29, Tryd.ntmps29
  go_wp2
  go_ret2
  exact ⟨rfl, rfl⟩
set_option maxRecDepth 20000 in
set_option maxHeartbeats 4000000 in
theorem mark_any (x : BitVec 64) (hx : x ≠ 0#64) (w : World) (hT : TabC w) : Calls Tryd.prog 29 #[.int .u64 (x.toNat : Int)] w fun e w' => ∃ z, e = .returned (.tuple #[.slice (some ⟨z, 0, none⟩) 512 512, .int .i64 0]) ∧ w.heap.size ≤ z ∧ RowAt z 512 (yv (markF x)) w' ∧ Ext w w' := by
  have kb := hideit (begin_any sMK rfl x w)
  have hx0 : ¬ x.toNat = 0 := fun h => hx (u0.1 h)
  replace hT := hideit hT
  unfold sMK at kb
  clear hx
  go_enter Tryd.func29, Tryd.ntmps29
  go_upto_region 1 with (fail)
  refine wp_region_lit ?_
  refine wpList_run rfl (.int .u64 (x.toNat : Int)) (by simp [go_sem]) ?_
  simp only [zp0, zp1, zp2, zp3]
  refine wpList_run rfl (.bool false) (by simp [go_sem, hx0]) ?_
  simp only [zp0, zp1, zp2, zp3]
  go_upto_region 3 with (fail)
  refine wp_region_lit ?_
  refine wpList_run rfl (.int .u64 (x.toNat : Int)) (by simp [go_sem]) ?_
  simp only [zp0, zp1, zp2, zp3]
  refine wpList_call rfl (by simp [go_sem]) ((kb.out).mono ?_)
  rintro e w1 ⟨g1, rfl, _, hR1, hX1⟩
  refine ⟨_, rfl, ?_⟩
  simp only [zp0, zp1, zp2, zp3]
  refine wpList_run rfl (.slice (some ⟨g1, 0, none⟩) 12 12) (by simp [go_sem]) ?_
  simp only [zp0, zp1, zp2, zp3]
  have hX2 : Ext w1 (w1.alloc (.cells #[.slice (some ⟨g1, 0, none⟩) 12 12] 39)) := (Below.refl _ _).alloc (Nat.le_refl _) _
  have kd := digest_of (parts_one (bv_row hR1)) (TabC.ext (TabC.ext hT.out hX1) hX2) (by decide) (by decide)
  rw [all_one] at kd
  replace kd := hideit kd
  go_upto_region 4 with (fail)
  refine wp_region_lit ?_
  refine wpList_run rfl (.slice (some ⟨g1, 0, none⟩) 12 12) (by simp [go_sem]) ?_
  simp only [zp0, zp1, zp2, zp3]
  refine wpList_run rfl (.slice (some ⟨g1, 0, none⟩) 12 12) (by simp [go_sem]) ?_
  simp only [zp0, zp1, zp2, zp3]
  refine wpList_to rfl (.slice (some ⟨w1.heap.size, 0, none⟩) 1 1) (w1.alloc (.cells #[.slice (some ⟨g1, 0, none⟩) 12 12] 39)) (by simp [go_sem]) ?_
  simp only [zp0, zp1, zp2, zp3]
  have hR1b := hR1.carry hX2
  generalize w1.alloc (.cells #[.slice (some ⟨g1, 0, none⟩) 12 12] 39) = w2 at *
  refine wpList_call rfl (by simp [go_sem]) ((kd.out).mono ?_)
  rintro e w3 ⟨g2, rfl, _, hR3, hX3⟩
  refine ⟨_, rfl, ?_⟩
  simp only [zp0, zp1, zp2, zp3]
  have kb2 := hideit (block_two (hR1b.carry hX3) hR3 (m := 44) rfl (by decide))
  have hE3 := hideit (Ext.trans hX1 (Ext.trans hX2 hX3))
  clear kb kd hR1 hR1b hR3 hX1 hX2 hX3
  refine wpList_to rfl (.slice (some ⟨w3.heap.size, 0, none⟩) 2 2) (w3.alloc (.cells #[.slice (some ⟨g1, 0, none⟩) 12 12, .slice (some ⟨g2, 0, none⟩) 32 32] 39)) (by simp [go_sem]) ?_
  simp only [zp0, zp1, zp2, zp3]
  generalize w3.alloc (.cells #[.slice (some ⟨g1, 0, none⟩) 12 12, .slice (some ⟨g2, 0, none⟩) 32 32] 39) = w4 at *
  refine wpList_call rfl (by simp [go_sem]) ((kb2.out).mono ?_)
  rintro e w5 ⟨z, rfl, hz, hR5, hX5⟩
  refine ⟨_, rfl, ?_⟩
  simp only [zp0, zp1, zp2, zp3]
  refine wpList_run rfl (.slice (some ⟨z, 0, none⟩) 512 512) (by simp [go_sem]) ?_
  simp only [zp0, zp1, zp2, zp3]
  refine wpList_run rfl (.int .i64 0) (by simp [go_sem]) ?_
  simp only [zp0, zp1, zp2, zp3]
  have hE5 := hideit (Ext.trans hE3.out hX5)
  have hz5 : Hid (w.heap.size ≤ z) := Nat.le_trans (Below.size hE3.out) hz
  replace hR5 := hideit hR5
  clear kb2 hX5 hE3 hz
  go_wp2
  go_ret2
  exact ⟨z, rfl, hz5.out, hR5.out, hE5.out⟩
end Go.Proofs.YtiakkclabgelfaaDoor
namespace Go.Proofs.YtiakkclabgelfaaDoor
set_option maxRecDepth 20000
open Go.RowKit Go.BigFrame
def plB (t : BitVec 64) (n : Nat) (bs : Nat → Int) : Nat → BitVec 8 := catF (catF (byB (BitVec.ofNat 64 n)) 2 (byB t)) 10 (bsF bs)
def planF (x t : BitVec 64) (n : Nat) (bs : Nat → Int) : Nat → BitVec 8 := padF (catF (begF sPL x) 12 (plB t n bs)) (22 + 4 * n)
theorem pad_cat {f g g' : Nat → BitVec 8} {p q m : Nat} (hm : m = p + q) (h : ∀ j, j < q → g j = g' j) : padF (catF f p g) m = padF (catF f p g') m := by
  funext j
  unfold padF catF
  by_cases e : j < m
  · rw [if_pos e, if_pos e]
    by_cases e2 : j < p
    · rw [if_pos e2, if_pos e2]
    · rw [if_neg e2, if_neg e2, h _ (by omega)]
  · rw [if_neg e, if_neg e]
set_option maxRecDepth 20000 in
set_option maxHeartbeats 4000000 in
theorem plblock_any (x t : BitVec 64) (v0 : Value) (n : Nat) (bs : Nat → Int) (w : World) (hL : IL v0 n bs w) (hn : n ≤ 64) (hb : ∀ j, j < n → okB (bs j)) : Calls Tryd.prog 44 #[plA x t v0] w fun e w' => ∃ z, e = .returned (.slice (some ⟨z, 0, none⟩) 512 512) ∧ w.heap.size ≤ z ∧ RowAt z 512 (yv (planF x t n bs)) w' ∧ Ext w w' := by
  obtain ⟨o, cap, rfl⟩ := hL.form
  have hR1 : RowAt w.heap.size 3 (plV x t (.slice o n cap)) (w.alloc (.cells #[.int .u64 (x.toNat : Int), .int .u64 (t.toNat : Int), .slice o n cap] 76)) := RowAt.newOf w 3 _ 76 _ fun j hj => by rcases (by omega : j = 0 ∨ j = 1 ∨ j = 2) with rfl | rfl | rfl <;> rfl
  have hX1 : Ext w (w.alloc (.cells #[.int .u64 (x.toNat : Int), .int .u64 (t.toNat : Int), .slice o n cap] 76)) := (Below.refl _ _).alloc (Nat.le_refl _) _
  replace hL := hideit hL
  replace hb := hideit hb
  have h4 : IntKind.i64.wrap (4 * (n : Int)) = 4 * (n : Int) := by rw [IntKind.wrap_i64]; omega
  have h10 : IntKind.i64.wrap (10 + 4 * (n : Int)) = ((10 + 4 * n : Nat) : Int) := by rw [IntKind.wrap_i64]; omega
  have hnw : IntKind.u64.wrap (n : Int) = ((BitVec.ofNat 64 n).toNat : Int) := by rw [IntKind.wrap_u64, BitVec.toNat_ofNat]; omega
  have hns : (BitVec.ofNat 64 n).toNat / 2 ^ (8 * 2) = 0 := by rw [BitVec.toNat_ofNat]; omega
  unfold plA
  go_enter Tryd.func44, Tryd.ntmps44
  go_upto_region 0 with (fail)
  refine wp_region_lit ?_
  refine wpList_to rfl (.pointer (some ⟨w.heap.size, 0, none⟩)) (w.alloc (.cells #[.int .u64 (x.toNat : Int), .int .u64 (t.toNat : Int), .slice o n cap] 76)) (by simp [go_sem]) ?_
  simp only [zp0, zp1, zp2, zp3]
  refine wpList_run rfl (.slice none 0 0) (by simp [go_sem]) ?_
  simp only [zp0, zp1, zp2, zp3]
  generalize w.alloc (.cells #[.int .u64 (x.toNat : Int), .int .u64 (t.toNat : Int), .slice o n cap] 76) = w1 at *
  generalize hcc : w.heap.size = q at hR1 ⊢
  clear hcc
  have kn := hideit (neww_any (10 + 4 * n) (fun _ => 0#8) w1 (by omega))
  have e2 : ∀ X, Ext w1 X → X.cell? ⟨q, 2, none⟩ = some (.slice o n cap) := fun X hX => (hR1.carry hX).1 2 (by decide)
  have e1 : ∀ X, Ext w1 X → X.cell? ⟨q, 1, none⟩ = some (.int .u64 (t.toNat : Int)) := fun X hX => (hR1.carry hX).1 1 (by decide)
  have e0 : ∀ X, Ext w1 X → X.cell? ⟨q, 0, none⟩ = some (.int .u64 (x.toNat : Int)) := fun X hX => (hR1.carry hX).1 0 (by decide)
  have f2 := e2 _ (Ext.refl _)
  go_upto_region 1 with (fail)
  refine wp_region_lit ?_
  refine wpList_run rfl (.pointer (some ⟨q, 2, none⟩)) (by simp [go_sem]) ?_
  simp only [zp0, zp1, zp2, zp3]
  refine wpList_run rfl (.slice o n cap) (by simp [go_sem, f2]) ?_
  simp only [zp0, zp1, zp2, zp3]
  refine wpList_run rfl (.int .i64 (n : Int)) (by simp [go_sem]) ?_
  simp only [zp0, zp1, zp2, zp3]
  refine wpList_run rfl (.int .i64 (4 * (n : Int))) (by simp [go_sem, h4]) ?_
  simp only [zp0, zp1, zp2, zp3]
  refine wpList_run rfl (.int .i64 ((10 + 4 * n : Nat) : Int)) (by simp [go_sem, h10]) ?_
  simp only [zp0, zp1, zp2, zp3]
  refine wpList_call rfl (by simp [go_sem]) ((kn.out).mono ?_)
  rintro e w2 ⟨rfl, hW2, hX2⟩
  refine ⟨_, rfl, ?_⟩
  simp only [zp0, zp1, zp2, zp3]
  refine wpList_run rfl (.pointer (some ⟨w1.heap.size, 0, none⟩)) (by simp [go_sem]) ?_
  simp only [zp0, zp1, zp2, zp3]
  obtain ⟨c, hc⟩ : ∃ c, c = w1.heap.size := ⟨_, rfl⟩
  rw [← hc] at hW2 ⊢
  have hcle : w1.heap.size ≤ c := by omega
  replace hc := hideit hc
  have ku := hideit (wuint_ok c (10 + 4 * n) 0 2 _ false (BitVec.ofNat 64 n) w2 hW2 (by omega) (by omega) (by decide) (by decide) hns)
  have f2 := e2 _ hX2
  clear kn h4 h10
  go_upto_region 2 with (fail)
  refine wp_region_lit ?_
  refine wpList_run rfl (.pointer (some ⟨c, 0, none⟩)) (by simp [go_sem]) ?_
  simp only [zp0, zp1, zp2, zp3]
  refine wpList_run rfl (.pointer (some ⟨q, 2, none⟩)) (by simp [go_sem]) ?_
  simp only [zp0, zp1, zp2, zp3]
  refine wpList_run rfl (.slice o n cap) (by simp [go_sem, f2]) ?_
  simp only [zp0, zp1, zp2, zp3]
  refine wpList_run rfl (.int .i64 (n : Int)) (by simp [go_sem]) ?_
  simp only [zp0, zp1, zp2, zp3]
  refine wpList_run rfl (.int .u64 ((BitVec.ofNat 64 n).toNat : Int)) (by simp [go_sem, hnw, -BitVec.toNat_ofNat]) ?_
  simp only [zp0, zp1, zp2, zp3]
  refine wpList_call rfl (by simp [go_sem]) ((ku.out).mono ?_)
  rintro e w3 ⟨rfl, hW3, hB3⟩
  refine ⟨_, rfl, ?_⟩
  simp only [zp0, zp1, zp2, zp3]
  have hE3 : Ext w1 w3 := below_ext hX2 hcle hB3
  have hW3' : Wr c (10 + 4 * n) 2 (byB (BitVec.ofNat 64 n)) false w3 := hW3.congr fun j hj => by unfold catF; rw [if_neg (Nat.not_lt_zero _)]; rfl
  have ku8 := hideit (wuint_ok c (10 + 4 * n) 2 8 _ false t w3 hW3' (by omega) (by omega) (by decide) (by decide) (u64_small t))
  have f1 := e1 _ hE3
  clear ku hW3 hW3' hB3 hX2 hW2 hnw hns
  go_upto_region 3 with (fail)
  refine wp_region_lit ?_
  refine wpList_run rfl (.pointer (some ⟨c, 0, none⟩)) (by simp [go_sem]) ?_
  simp only [zp0, zp1, zp2, zp3]
  refine wpList_run rfl (.pointer (some ⟨q, 1, none⟩)) (by simp [go_sem]) ?_
  simp only [zp0, zp1, zp2, zp3]
  refine wpList_run rfl (.int .u64 (t.toNat : Int)) (by simp [go_sem, f1]) ?_
  simp only [zp0, zp1, zp2, zp3]
  refine wpList_call rfl (by simp [go_sem]) ((ku8.out).mono ?_)
  rintro e w4 ⟨rfl, hW4, hB4⟩
  refine ⟨_, rfl, ?_⟩
  simp only [zp0, zp1, zp2, zp3]
  have hE4 : Ext w1 w4 := below_ext hE3 hcle hB4
  have kp := hideit (put53 c (10 + 4 * n) 10 _ (.slice o n cap) n bs w1 w4 hW4 (hL.out.ext hX1) hE4 hcle (by omega) (by omega) hb.out)
  have f2 := e2 _ hE4
  clear ku8 hW4 hB4 hE3
  go_upto_region 4 with (fail)
  refine wp_region_lit ?_
  refine wpList_run rfl (.pointer (some ⟨c, 0, none⟩)) (by simp [go_sem]) ?_
  simp only [zp0, zp1, zp2, zp3]
  refine wpList_run rfl (.pointer (some ⟨q, 2, none⟩)) (by simp [go_sem]) ?_
  simp only [zp0, zp1, zp2, zp3]
  refine wpList_run rfl (.slice o n cap) (by simp [go_sem, f2]) ?_
  simp only [zp0, zp1, zp2, zp3]
  refine wpList_call rfl (by simp [go_sem]) ((kp.out).mono ?_)
  rintro e w5 ⟨rfl, hW5, hE5⟩
  refine ⟨_, rfl, ?_⟩
  simp only [zp0, zp1, zp2, zp3]
  have kd := hideit (wdone_ok c (10 + 4 * n) (10 + 4 * n) _ w5 hW5 (Nat.le_refl _) (by omega))
  clear kp hW5 hE4
  go_upto_region 5 with (fail)
  refine wp_region_lit ?_
  refine wpList_run rfl (.pointer (some ⟨c, 0, none⟩)) (by simp [go_sem]) ?_
  simp only [zp0, zp1, zp2, zp3]
  refine wpList_call rfl (by simp [go_sem]) ((kd.out).mono ?_)
  rintro e w6 ⟨g2, rfl, _, hR6, hX6⟩
  refine ⟨_, rfl, ?_⟩
  simp only [zp0, zp1, zp2, zp3]
  refine wpList_run rfl (.tuple #[.slice (some ⟨g2, 0, none⟩) (10 + 4 * n) (10 + 4 * n), .int .i64 0]) (by simp [go_sem]) ?_
  simp only [zp0, zp1, zp2, zp3]
  refine wpList_run rfl (.slice (some ⟨g2, 0, none⟩) (10 + 4 * n) (10 + 4 * n)) (by simp [go_sem]) ?_
  simp only [zp0, zp1, zp2, zp3]
  refine wpList_run rfl (.int .i64 0) (by simp [go_sem]) ?_
  simp only [zp0, zp1, zp2, zp3]
  refine wpList_run rfl (.slice (some ⟨g2, 0, none⟩) (10 + 4 * n) (10 + 4 * n)) (by simp [go_sem]) ?_
  simp only [zp0, zp1, zp2, zp3]
  refine wpList_run rfl (.int .i64 0) (by simp [go_sem]) ?_
  simp only [zp0, zp1, zp2, zp3]
  have hE6 := Ext.trans hE5 hX6
  have kb := hideit (begin_any sPL rfl x w6)
  unfold sPL at kb
  have f0 := e0 _ hE6
  clear kd hX6 hE5
  go_upto_region 6 with (fail)
  refine wp_region_lit ?_
  refine wpList_run rfl (.pointer (some ⟨q, 0, none⟩)) (by simp [go_sem]) ?_
  simp only [zp0, zp1, zp2, zp3]
  refine wpList_run rfl (.int .u64 (x.toNat : Int)) (by simp [go_sem, f0]) ?_
  simp only [zp0, zp1, zp2, zp3]
  refine wpList_call rfl (by simp [go_sem]) ((kb.out).mono ?_)
  rintro e w7 ⟨g1, rfl, _, hR7, hX7⟩
  refine ⟨_, rfl, ?_⟩
  simp only [zp0, zp1, zp2, zp3]
  refine wpList_run rfl (.slice (some ⟨g2, 0, none⟩) (10 + 4 * n) (10 + 4 * n)) (by simp [go_sem]) ?_
  simp only [zp0, zp1, zp2, zp3]
  have kb2 := block_two hR7 (hR6.carry hX7) (m := 22 + 4 * n) (by omega) (by omega)
  rw [show padF (catF (begF { data := #[80, 76, 65, 78] } x) 12 (padF (catF (catF (byB (BitVec.ofNat 64 n)) 2 (byB t)) 10 (bsF bs)) (10 + 4 * n))) (22 + 4 * n) = planF x t n bs from pad_cat (q := 10 + 4 * n) (by omega) (fun j hj => by unfold padF; rw [if_pos hj]; rfl)] at kb2
  replace kb2 := hideit kb2
  have hE7 := hideit (Ext.trans hX1 (Ext.trans hE6 hX7))
  clear kb hR6 hR7 hX7 hE6 hX1 e0 e1 e2 f0 f1 f2 hR1
  refine wpList_to rfl (.slice (some ⟨w7.heap.size, 0, none⟩) 2 2) (w7.alloc (.cells #[.slice (some ⟨g1, 0, none⟩) 12 12, .slice (some ⟨g2, 0, none⟩) (10 + 4 * n) (10 + 4 * n)] 39)) (by simp [go_sem]) ?_
  simp only [zp0, zp1, zp2, zp3]
  generalize w7.alloc (.cells #[.slice (some ⟨g1, 0, none⟩) 12 12, .slice (some ⟨g2, 0, none⟩) (10 + 4 * n) (10 + 4 * n)] 39) = w8 at *
  refine wpList_call rfl (by simp [go_sem]) ((kb2.out).mono ?_)
  rintro e w9 ⟨z, rfl, hz, hR9, hX9⟩
  refine ⟨_, rfl, ?_⟩
  simp only [zp0, zp1, zp2, zp3]
  refine wpList_run rfl (.slice (some ⟨z, 0, none⟩) 512 512) (by simp [go_sem]) ?_
  simp only [zp0, zp1, zp2, zp3]
  have hE9 := hideit (Ext.trans hE7.out hX9)
  have hz9 : Hid (w.heap.size ≤ z) := Nat.le_trans (Below.size hE7.out) hz
  replace hR9 := hideit hR9
  clear kb2 hX9 hE7 hz
  go_wp2
  go_ret
  exact ⟨z, rfl, hz9.out, hR9.out, hE9.out⟩
end Go.Proofs.YtiakkclabgelfaaDoor
