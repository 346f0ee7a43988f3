/-
  A plan as it is written. A redo's bytes as they stand; whether one has not the bytes of a block.
-/
import Derived.Test.YtedgopionpdfeaaDoorQ25
namespace Go.Proofs.YtedgopionpdfeaaDoor
open Go.RowKit Go.BigFrame
/-- what a plan says behind its number -/
def plB (t : BitVec 64) (n : Nat) (bs : Nat → Int) : Nat → BitVec 8 := catF (catF (byB (BitVec.ofNat 64 n)) 2 (byB t)) 10 (bsF bs)
def planF (x t : BitVec 64) (n : Nat) (bs : Nat → Int) : Nat → BitVec 8 := padF (catF (begF sPL x) 12 (plB t n bs)) (22 + 4 * n)
theorem pad_cat {f g g' : Nat → BitVec 8} {p q m : Nat} (hm : m = p + q) (h : ∀ j, j < q → g j = g' j) : padF (catF f p g) m = padF (catF f p g') m := by
  funext j
  unfold padF catF
  by_cases e : j < m
  · rw [if_pos e, if_pos e]
    by_cases e2 : j < p
    · rw [if_pos e2, if_pos e2]
    · rw [if_neg e2, if_neg e2, h _ (by omega)]
  · rw [if_neg e, if_neg e]
set_option maxRecDepth 20000 in
set_option maxHeartbeats 4000000 in
theorem plblock_any (x t : BitVec 64) (v0 : Value) (n : Nat) (bs : Nat → Int) (w : World) (hL : IL v0 n bs w) (hn : n ≤ 64) (hb : ∀ j, j < n → okB (bs j)) : Calls Tryd.prog 25 #[plA x t v0] w fun e w' => ∃ z, e = .returned (.slice (some ⟨z, 0, none⟩) 512 512) ∧ w.heap.size ≤ z ∧ RowAt z 512 (yv (planF x t n bs)) w' ∧ Ext w w' := by
  obtain ⟨o, cap, rfl⟩ := hL.form
  have hR1 : RowAt w.heap.size 3 (plV x t (.slice o n cap)) (w.alloc (.cells #[.int .u64 (x.toNat : Int), .int .u64 (t.toNat : Int), .slice o n cap] 47)) := RowAt.newOf w 3 _ 47 _ fun j hj => by rcases (by omega : j = 0 ∨ j = 1 ∨ j = 2) with rfl | rfl | rfl <;> rfl
  have hX1 : Ext w (w.alloc (.cells #[.int .u64 (x.toNat : Int), .int .u64 (t.toNat : Int), .slice o n cap] 47)) := (Below.refl _ _).alloc (Nat.le_refl _) _
  replace hL := hideit hL
  replace hb := hideit hb
  have h4 : IntKind.i64.wrap (4 * (n : Int)) = 4 * (n : Int) := by rw [IntKind.wrap_i64]; omega
  have h10 : IntKind.i64.wrap (10 + 4 * (n : Int)) = ((10 + 4 * n : Nat) : Int) := by rw [IntKind.wrap_i64]; omega
  have hnw : IntKind.u64.wrap (n : Int) = ((BitVec.ofNat 64 n).toNat : Int) := by rw [IntKind.wrap_u64, BitVec.toNat_ofNat]; omega
  have hns : (BitVec.ofNat 64 n).toNat / 2 ^ (8 * 2) = 0 := by rw [BitVec.toNat_ofNat]; omega
  unfold plA
  go_enter Tryd.func25, Tryd.ntmps25
  go_upto_region 0 with (fail)
  refine wp_region_lit ?_
  refine wpList_to rfl (.pointer (some ⟨w.heap.size, 0, none⟩)) (w.alloc (.cells #[.int .u64 (x.toNat : Int), .int .u64 (t.toNat : Int), .slice o n cap] 47)) (by simp [go_sem]) ?_
  simp only [Act.put, List.setIfInBounds_toArray, List.set_cons_zero, List.set_cons_succ]
  refine wpList_run rfl (.slice none 0 0) (by simp [go_sem]) ?_
  simp only [Act.put, List.setIfInBounds_toArray, List.set_cons_zero, List.set_cons_succ]
  generalize w.alloc (.cells #[.int .u64 (x.toNat : Int), .int .u64 (t.toNat : Int), .slice o n cap] 47) = w1 at *
  generalize hcc : w.heap.size = q at hR1 ⊢
  clear hcc
  have kn := hideit (neww_any (10 + 4 * n) (fun _ => 0#8) w1 (by omega))
  have e2 : ∀ X, Ext w1 X → X.cell? ⟨q, 2, none⟩ = some (.slice o n cap) := fun X hX => (hR1.carry hX).1 2 (by decide)
  have e1 : ∀ X, Ext w1 X → X.cell? ⟨q, 1, none⟩ = some (.int .u64 (t.toNat : Int)) := fun X hX => (hR1.carry hX).1 1 (by decide)
  have e0 : ∀ X, Ext w1 X → X.cell? ⟨q, 0, none⟩ = some (.int .u64 (x.toNat : Int)) := fun X hX => (hR1.carry hX).1 0 (by decide)
  have f2 := e2 _ (Ext.refl _)
  go_upto_region 1 with (fail)
  refine wp_region_lit ?_
  refine wpList_run rfl (.pointer (some ⟨q, 2, none⟩)) (by simp [go_sem]) ?_
  simp only [Act.put, List.setIfInBounds_toArray, List.set_cons_zero, List.set_cons_succ]
  refine wpList_run rfl (.slice o n cap) (by simp [go_sem, f2]) ?_
  simp only [Act.put, List.setIfInBounds_toArray, List.set_cons_zero, List.set_cons_succ]
  refine wpList_run rfl (.int .i64 (n : Int)) (by simp [go_sem]) ?_
  simp only [Act.put, List.setIfInBounds_toArray, List.set_cons_zero, List.set_cons_succ]
  refine wpList_run rfl (.int .i64 (4 * (n : Int))) (by simp [go_sem, h4]) ?_
  simp only [Act.put, List.setIfInBounds_toArray, List.set_cons_zero, List.set_cons_succ]
  refine wpList_run rfl (.int .i64 ((10 + 4 * n : Nat) : Int)) (by simp [go_sem, h10]) ?_
  simp only [Act.put, List.setIfInBounds_toArray, List.set_cons_zero, List.set_cons_succ]
  refine wpList_call rfl (by simp [go_sem]) ((kn.out).mono ?_)
  rintro e w2 ⟨rfl, hW2, hX2⟩
  refine ⟨_, rfl, ?_⟩
  simp only [Act.put, List.setIfInBounds_toArray, List.set_cons_zero, List.set_cons_succ]
  refine wpList_run rfl (.pointer (some ⟨w1.heap.size, 0, none⟩)) (by simp [go_sem]) ?_
  simp only [Act.put, List.setIfInBounds_toArray, List.set_cons_zero, List.set_cons_succ]
  obtain ⟨c, hc⟩ : ∃ c, c = w1.heap.size := ⟨_, rfl⟩
  rw [← hc] at hW2 ⊢
  have hcle : w1.heap.size ≤ c := by omega
  replace hc := hideit hc
  have ku := hideit (wuint_ok c (10 + 4 * n) 0 2 _ false (BitVec.ofNat 64 n) w2 hW2 (by omega) (by omega) (by decide) (by decide) hns)
  have f2 := e2 _ hX2
  clear kn h4 h10
  go_upto_region 2 with (fail)
  refine wp_region_lit ?_
  refine wpList_run rfl (.pointer (some ⟨c, 0, none⟩)) (by simp [go_sem]) ?_
  simp only [Act.put, List.setIfInBounds_toArray, List.set_cons_zero, List.set_cons_succ]
  refine wpList_run rfl (.pointer (some ⟨q, 2, none⟩)) (by simp [go_sem]) ?_
  simp only [Act.put, List.setIfInBounds_toArray, List.set_cons_zero, List.set_cons_succ]
  refine wpList_run rfl (.slice o n cap) (by simp [go_sem, f2]) ?_
  simp only [Act.put, List.setIfInBounds_toArray, List.set_cons_zero, List.set_cons_succ]
  refine wpList_run rfl (.int .i64 (n : Int)) (by simp [go_sem]) ?_
  simp only [Act.put, List.setIfInBounds_toArray, List.set_cons_zero, List.set_cons_succ]
  refine wpList_run rfl (.int .u64 ((BitVec.ofNat 64 n).toNat : Int)) (by simp [go_sem, hnw, -BitVec.toNat_ofNat]) ?_
  simp only [Act.put, List.setIfInBounds_toArray, List.set_cons_zero, List.set_cons_succ]
  refine wpList_call rfl (by simp [go_sem]) ((ku.out).mono ?_)
  rintro e w3 ⟨rfl, hW3, hB3⟩
  refine ⟨_, rfl, ?_⟩
  simp only [Act.put, List.setIfInBounds_toArray, List.set_cons_zero, List.set_cons_succ]
  have hE3 : Ext w1 w3 := below_ext hX2 hcle hB3
  have hW3' : Wr c (10 + 4 * n) 2 (byB (BitVec.ofNat 64 n)) false w3 := hW3.congr fun j hj => by unfold catF; rw [if_neg (Nat.not_lt_zero _)]; rfl
  have ku8 := hideit (wuint_ok c (10 + 4 * n) 2 8 _ false t w3 hW3' (by omega) (by omega) (by decide) (by decide) (u64_small t))
  have f1 := e1 _ hE3
  clear ku hW3 hW3' hB3 hX2 hW2 hnw hns
  go_upto_region 3 with (fail)
  refine wp_region_lit ?_
  refine wpList_run rfl (.pointer (some ⟨c, 0, none⟩)) (by simp [go_sem]) ?_
  simp only [Act.put, List.setIfInBounds_toArray, List.set_cons_zero, List.set_cons_succ]
  refine wpList_run rfl (.pointer (some ⟨q, 1, none⟩)) (by simp [go_sem]) ?_
  simp only [Act.put, List.setIfInBounds_toArray, List.set_cons_zero, List.set_cons_succ]
  refine wpList_run rfl (.int .u64 (t.toNat : Int)) (by simp [go_sem, f1]) ?_
  simp only [Act.put, List.setIfInBounds_toArray, List.set_cons_zero, List.set_cons_succ]
  refine wpList_call rfl (by simp [go_sem]) ((ku8.out).mono ?_)
  rintro e w4 ⟨rfl, hW4, hB4⟩
  refine ⟨_, rfl, ?_⟩
  simp only [Act.put, List.setIfInBounds_toArray, List.set_cons_zero, List.set_cons_succ]
  have hE4 : Ext w1 w4 := below_ext hE3 hcle hB4
  have kp := hideit (put53 c (10 + 4 * n) 10 _ (.slice o n cap) n bs w1 w4 hW4 (hL.out.ext hX1) hE4 hcle (by omega) (by omega) hb.out)
  have f2 := e2 _ hE4
  clear ku8 hW4 hB4 hE3
  go_upto_region 4 with (fail)
  refine wp_region_lit ?_
  refine wpList_run rfl (.pointer (some ⟨c, 0, none⟩)) (by simp [go_sem]) ?_
  simp only [Act.put, List.setIfInBounds_toArray, List.set_cons_zero, List.set_cons_succ]
  refine wpList_run rfl (.pointer (some ⟨q, 2, none⟩)) (by simp [go_sem]) ?_
  simp only [Act.put, List.setIfInBounds_toArray, List.set_cons_zero, List.set_cons_succ]
  refine wpList_run rfl (.slice o n cap) (by simp [go_sem, f2]) ?_
  simp only [Act.put, List.setIfInBounds_toArray, List.set_cons_zero, List.set_cons_succ]
  refine wpList_call rfl (by simp [go_sem]) ((kp.out).mono ?_)
  rintro e w5 ⟨rfl, hW5, hE5⟩
  refine ⟨_, rfl, ?_⟩
  simp only [Act.put, List.setIfInBounds_toArray, List.set_cons_zero, List.set_cons_succ]
  have kd := hideit (wdone_ok c (10 + 4 * n) (10 + 4 * n) _ w5 hW5 (Nat.le_refl _) (by omega))
  clear kp hW5 hE4
  go_upto_region 5 with (fail)
  refine wp_region_lit ?_
  refine wpList_run rfl (.pointer (some ⟨c, 0, none⟩)) (by simp [go_sem]) ?_
  simp only [Act.put, List.setIfInBounds_toArray, List.set_cons_zero, List.set_cons_succ]
  refine wpList_call rfl (by simp [go_sem]) ((kd.out).mono ?_)
  rintro e w6 ⟨g2, rfl, _, hR6, hX6⟩
  refine ⟨_, rfl, ?_⟩
  simp only [Act.put, List.setIfInBounds_toArray, List.set_cons_zero, List.set_cons_succ]
  refine wpList_run rfl (.tuple #[.slice (some ⟨g2, 0, none⟩) (10 + 4 * n) (10 + 4 * n), .int .i64 0]) (by simp [go_sem]) ?_
  simp only [Act.put, List.setIfInBounds_toArray, List.set_cons_zero, List.set_cons_succ]
  refine wpList_run rfl (.slice (some ⟨g2, 0, none⟩) (10 + 4 * n) (10 + 4 * n)) (by simp [go_sem]) ?_
  simp only [Act.put, List.setIfInBounds_toArray, List.set_cons_zero, List.set_cons_succ]
  refine wpList_run rfl (.int .i64 0) (by simp [go_sem]) ?_
  simp only [Act.put, List.setIfInBounds_toArray, List.set_cons_zero, List.set_cons_succ]
  refine wpList_run rfl (.slice (some ⟨g2, 0, none⟩) (10 + 4 * n) (10 + 4 * n)) (by simp [go_sem]) ?_
  simp only [Act.put, List.setIfInBounds_toArray, List.set_cons_zero, List.set_cons_succ]
  refine wpList_run rfl (.int .i64 0) (by simp [go_sem]) ?_
  simp only [Act.put, List.setIfInBounds_toArray, List.set_cons_zero, List.set_cons_succ]
  have hE6 := Ext.trans hE5 hX6
  have kb := hideit (begin_any sPL rfl x w6)
  unfold sPL at kb
  have f0 := e0 _ hE6
  clear kd hX6 hE5
  go_upto_region 6 with (fail)
  refine wp_region_lit ?_
  refine wpList_run rfl (.pointer (some ⟨q, 0, none⟩)) (by simp [go_sem]) ?_
  simp only [Act.put, List.setIfInBounds_toArray, List.set_cons_zero, List.set_cons_succ]
  refine wpList_run rfl (.int .u64 (x.toNat : Int)) (by simp [go_sem, f0]) ?_
  simp only [Act.put, List.setIfInBounds_toArray, List.set_cons_zero, List.set_cons_succ]
  refine wpList_call rfl (by simp [go_sem]) ((kb.out).mono ?_)
  rintro e w7 ⟨g1, rfl, _, hR7, hX7⟩
  refine ⟨_, rfl, ?_⟩
  simp only [Act.put, List.setIfInBounds_toArray, List.set_cons_zero, List.set_cons_succ]
  refine wpList_run rfl (.slice (some ⟨g2, 0, none⟩) (10 + 4 * n) (10 + 4 * n)) (by simp [go_sem]) ?_
  simp only [Act.put, List.setIfInBounds_toArray, List.set_cons_zero, List.set_cons_succ]
  have kb2 := block_two hR7 (hR6.carry hX7) (m := 22 + 4 * n) (by omega) (by omega)
  rw [show padF (catF (begF { data := #[80, 76, 65, 78] } x) 12 (padF (catF (catF (byB (BitVec.ofNat 64 n)) 2 (byB t)) 10 (bsF bs)) (10 + 4 * n))) (22 + 4 * n) = planF x t n bs from pad_cat (q := 10 + 4 * n) (by omega) (fun j hj => by unfold padF; rw [if_pos hj]; rfl)] at kb2
  replace kb2 := hideit kb2
  have hE7 := hideit (Ext.trans hX1 (Ext.trans hE6 hX7))
  clear kb hR6 hR7 hX7 hE6 hX1 e0 e1 e2 f0 f1 f2 hR1
  refine wpList_to rfl (.slice (some ⟨w7.heap.size, 0, none⟩) 2 2) (w7.alloc (.cells #[.slice (some ⟨g1, 0, none⟩) 12 12, .slice (some ⟨g2, 0, none⟩) (10 + 4 * n) (10 + 4 * n)] 34)) (by simp [go_sem]) ?_
  simp only [Act.put, List.setIfInBounds_toArray, List.set_cons_zero, List.set_cons_succ]
  generalize w7.alloc (.cells #[.slice (some ⟨g1, 0, none⟩) 12 12, .slice (some ⟨g2, 0, none⟩) (10 + 4 * n) (10 + 4 * n)] 34) = w8 at *
  refine wpList_call rfl (by simp [go_sem]) ((kb2.out).mono ?_)
  rintro e w9 ⟨z, rfl, hz, hR9, hX9⟩
  refine ⟨_, rfl, ?_⟩
  simp only [Act.put, List.setIfInBounds_toArray, List.set_cons_zero, List.set_cons_succ]
  refine wpList_run rfl (.slice (some ⟨z, 0, none⟩) 512 512) (by simp [go_sem]) ?_
  simp only [Act.put, List.setIfInBounds_toArray, List.set_cons_zero, List.set_cons_succ]
  have hE9 := hideit (Ext.trans hE7.out hX9)
  have hz9 : Hid (w.heap.size ≤ z) := Nat.le_trans (Below.size hE7.out) hz
  replace hR9 := hideit hR9
  clear kb2 hX9 hE7 hz
  go_wp2
  go_ret
  exact ⟨z, rfl, hz9.out, hR9.out, hE9.out⟩
end Go.Proofs.YtedgopionpdfeaaDoor
namespace Go.Proofs.YtedgopionpdfeaaDoor
open Go.RowKit Go.BigFrame
/-- a redo's bytes in the journal -/
def stF (l : Nat) (f : Nat → BitVec 8) : Nat → BitVec 8 := if like l f = true then fun j => if j = 0 then f 0 ||| 128#8 else f j else f
theorem like_len {l : Nat} {f : Nat → BitVec 8} (h : like l f = true) : 4 ≤ l := by
  unfold like pre4 at h
  by_cases e : 4 ≤ l
  · exact e
  · simp [e] at h
theorem or128 (a : BitVec 8) : bits .or .u8 (a.toNat : Int) 128 = ((a ||| 128#8).toNat : Int) := by
  have h := u8_or_nat a.toNat 128 a.isLt (by decide)
  rw [BitVec.toNat_or]
  exact h
set_option maxRecDepth 20000 in
set_option maxHeartbeats 4000000 in
theorem standing_any (u : Value) (l : Nat) (f : Nat → BitVec 8) (w : World) (hu : BV u l f w) (hl : l ≤ 140737488355328) : Calls Tryd.prog 26 #[u] w fun e w' => ∃ v, e = .returned v ∧ OwnB w.heap.size 5 v l (yv (stF l f)) w' ∧ Ext w w' := by
  have kc := hideit (clone_any u l f w hu hl)
  replace hu := hideit hu
  go_enter Tryd.func26, Tryd.ntmps26
  go_upto_region 1 with (fail)
  refine wp_region_lit ?_
  refine wpList_run rfl (u) (by simp [go_sem]) ?_
  simp only [Act.put, List.setIfInBounds_toArray, List.set_cons_zero, List.set_cons_succ]
  refine wpList_call rfl (by simp [go_sem]) ((kc.out).mono ?_)
  rintro e w1 ⟨v, rfl, hO1, hX1⟩
  refine ⟨_, rfl, ?_⟩
  simp only [Act.put, List.setIfInBounds_toArray, List.set_cons_zero, List.set_cons_succ]
  refine wpList_run rfl (v) (by simp [go_sem]) ?_
  simp only [Act.put, List.setIfInBounds_toArray, List.set_cons_zero, List.set_cons_succ]
  have kj := hideit (isJ_any u l f w1 (hu.out.ext hX1).pv hl)
  clear kc
  go_upto_region 2 with (fail)
  refine wp_region_lit ?_
  refine wpList_run rfl (u) (by simp [go_sem]) ?_
  simp only [Act.put, List.setIfInBounds_toArray, List.set_cons_zero, List.set_cons_succ]
  refine wpList_call rfl (by simp [go_sem]) ((kj.out).mono ?_)
  rintro e w2 ⟨rfl, hX2⟩
  refine ⟨_, rfl, ?_⟩
  simp only [Act.put, List.setIfInBounds_toArray, List.set_cons_zero, List.set_cons_succ]
  have hO2 := hO1.ext hX2
  have hE2 := Ext.trans hX1 hX2
  clear kj hO1 hX1 hX2
  cases hlk : like l f with
  | false =>
    replace hO2 : Hid (OwnB w.heap.size 5 v l (yv (stF l f)) w2) := by
      unfold stF
      rw [hlk, if_neg (by decide)]
      exact hO2
    replace hE2 := hideit hE2
    go_wp2
    go_ret
    exact ⟨v, rfl, hO2.out, hE2.out⟩
  | true =>
    have h4 := like_len hlk
    obtain ⟨b, cp, rfl, hb, _, _, hR⟩ := hO2.lies (by omega)
    have ec := hR.1 0 (by omega)
    have ez := hR.2.1 0 (by omega)
    have hor := or128 (f 0)
    have hO3 : Hid (OwnB w.heap.size 5 (.slice (some ⟨b, 0, none⟩) l cp) l (yv (stF l f)) (w2.setCell ⟨b, 0, none⟩ (.int .u8 ((f 0 ||| 128#8).toNat : Int)))) := (hO2.set (b := b) rfl 0 (by omega) (.int .u8 ((f 0 ||| 128#8).toNat : Int))).congr fun j hj => by
      unfold stF
      rw [hlk, if_pos rfl]
      by_cases e : j = 0
      · rw [if_pos e]
        unfold yv
        simp only [if_pos e]
      · rw [if_neg e]
        unfold yv
        simp only [if_neg e]
    have hE3 : Hid (Ext w (w2.setCell ⟨b, 0, none⟩ (.int .u8 ((f 0 ||| 128#8).toNat : Int)))) := Below.trans hE2 (But.below (but_setCell w2 b 0 _) hb (Below.size hE2))
    have l0 : ¬ l = 0 := by omega
    rw [show yv f 0 = .int .u8 ((f 0).toNat : Int) from rfl] at ec
    generalize f 0 = f0 at *
    generalize f0 ||| 128#8 = f9 at *
    clear hO2 hE2 hR hlk hu
    go_upto_region 3 with (fail)
    refine wp_region_lit ?_
    refine wpList_run rfl (.slice (some ⟨b, 0, none⟩) l cp) (by simp [go_sem]) ?_
    simp only [Act.put, List.setIfInBounds_toArray, List.set_cons_zero, List.set_cons_succ]
    refine wpList_run rfl (.pointer (some ⟨b, 0, none⟩)) (by simp [go_sem, l0]) ?_
    simp only [Act.put, List.setIfInBounds_toArray, List.set_cons_zero, List.set_cons_succ]
    refine wpList_run rfl (.int .u8 (f0.toNat : Int)) (by simp [go_sem, ec]) ?_
    simp only [Act.put, List.setIfInBounds_toArray, List.set_cons_zero, List.set_cons_succ]
    refine wpList_run rfl (.int .u8 (f9.toNat : Int)) (by simp [go_sem, hor]) ?_
    simp only [Act.put, List.setIfInBounds_toArray, List.set_cons_zero, List.set_cons_succ]
    refine wpList_run rfl (.pointer (some ⟨b, 0, none⟩)) (by simp [go_sem, l0]) ?_
    simp only [Act.put, List.setIfInBounds_toArray, List.set_cons_zero, List.set_cons_succ]
    refine wpList_st9 rfl (w2.setCell ⟨b, 0, none⟩ (.int .u8 (f9.toNat : Int))) (by simp [go_sem, ec, ez]) ?_
    simp only [Act.put]
    clear ec ez hor
    go_wp2
    go_ret
    exact ⟨_, rfl, hO3.out, hE3.out⟩
theorem odd_any (x : Int) (u : Value) (l : Nat) (hu : ∃ o c, u = .slice o l c) (w : World) : Calls Tryd.prog 24 #[.agg #[.int .i64 x, u]] w fun e w' => e = .returned (.bool (decide (l ≠ 512))) ∧ Ext w w' := by
  obtain ⟨o, c, rfl⟩ := hu
  have hX1 : Hid (Ext w (w.alloc (.cells #[.int .i64 x, .slice o l c] 51))) := (Below.refl _ _).alloc (Nat.le_refl _) _
  have ec : (w.alloc (.cells #[.int .i64 x, .slice o l c] 51)).cell? ⟨w.heap.size, 1, none⟩ = some (.slice o l c) := by rw [World.cell?_alloc_new]; rfl
  obtain ⟨r, hd⟩ : ∃ r, r = decide (l ≠ 512) := ⟨_, rfl⟩
  rw [← hd]
  replace hd := hideit hd
  go_enter Tryd.func24, Tryd.ntmps24
  go_upto_region 0 with (fail)
  refine wp_region_lit ?_
  refine wpList_to rfl (.pointer (some ⟨w.heap.size, 0, none⟩)) (w.alloc (.cells #[.int .i64 x, .slice o l c] 51)) (by simp [go_sem]) ?_
  simp only [Act.put, List.setIfInBounds_toArray, List.set_cons_zero, List.set_cons_succ]
  refine wpList_run rfl (.bool false) (by simp [go_sem]) ?_
  simp only [Act.put, List.setIfInBounds_toArray, List.set_cons_zero, List.set_cons_succ]
  generalize w.alloc (.cells #[.int .i64 x, .slice o l c] 51) = w1 at *
  generalize w.heap.size = q at ec ⊢
  by_cases h5 : l = 512
  · have i5 : (l : Int) = 512 := by omega
    obtain rfl : r = false := hd.out.trans (decide_eq_false (by omega))
    clear hd h5
    go_upto_region 1 with (fail)
    refine wp_region_lit ?_
    refine wpList_run rfl (.pointer (some ⟨q, 1, none⟩)) (by simp [go_sem]) ?_
    simp only [Act.put, List.setIfInBounds_toArray, List.set_cons_zero, List.set_cons_succ]
    refine wpList_run rfl (.slice o l c) (by simp [go_sem, ec]) ?_
    simp only [Act.put, List.setIfInBounds_toArray, List.set_cons_zero, List.set_cons_succ]
    refine wpList_run rfl (.int .i64 (l : Int)) (by simp [go_sem]) ?_
    simp only [Act.put, List.setIfInBounds_toArray, List.set_cons_zero, List.set_cons_succ]
    refine wpList_run rfl (.bool false) (by simp [go_sem, i5]) ?_
    simp only [Act.put, List.setIfInBounds_toArray, List.set_cons_zero, List.set_cons_succ]
    refine wpList_run rfl (.bool false) (by simp [go_sem]) ?_
    simp only [Act.put, List.setIfInBounds_toArray, List.set_cons_zero, List.set_cons_succ]
    clear ec i5
    go_wp2
    go_ret
    exact ⟨rfl, hX1.out⟩
  · have i5 : ¬ (l : Int) = 512 := by omega
    obtain rfl : r = true := hd.out.trans (decide_eq_true h5)
    clear hd h5
    go_upto_region 1 with (fail)
    refine wp_region_lit ?_
    refine wpList_run rfl (.pointer (some ⟨q, 1, none⟩)) (by simp [go_sem]) ?_
    simp only [Act.put, List.setIfInBounds_toArray, List.set_cons_zero, List.set_cons_succ]
    refine wpList_run rfl (.slice o l c) (by simp [go_sem, ec]) ?_
    simp only [Act.put, List.setIfInBounds_toArray, List.set_cons_zero, List.set_cons_succ]
    refine wpList_run rfl (.int .i64 (l : Int)) (by simp [go_sem]) ?_
    simp only [Act.put, List.setIfInBounds_toArray, List.set_cons_zero, List.set_cons_succ]
    refine wpList_run rfl (.bool true) (by simp [go_sem, i5]) ?_
    simp only [Act.put, List.setIfInBounds_toArray, List.set_cons_zero, List.set_cons_succ]
    refine wpList_run rfl (.bool true) (by simp [go_sem]) ?_
    simp only [Act.put, List.setIfInBounds_toArray, List.set_cons_zero, List.set_cons_succ]
    clear ec i5
    go_wp2
    go_ret
    exact ⟨rfl, hX1.out⟩
def oddL (n : Nat) (ls : Nat → Nat) : Prop := ∃ i, i < n ∧ ls i ≠ 512
set_option maxRecDepth 20000 in
set_option maxHeartbeats 4000000 in
theorem index_odd (v0 : Value) (n : Nat) (bs : Nat → Int) (us : Nat → Value) (ls : Nat → Nat) (fs : Nat → Nat → BitVec 8) (w : World) (hL : RLs v0 n bs us ls fs w) (hn : n ≤ 4398046511104) : Calls Tryd.prog 50 #[v0, .func (.func 24) #[] #[]] w fun e w' => ∃ r : Int, e = .returned (.int .i64 r) ∧ (0 ≤ r ↔ oddL n ls) ∧ Ext w w' := by
  obtain ⟨o, cap, rfl⟩ := hL.form
  replace hL := hideit hL
  go_enter Tryd.func50, Tryd.ntmps50
  go_wp2
  go_loopw [5, 8] (fun _ iv X => ∃ k : Nat, k ≤ n ∧ iv = .int .i64 (k : Int) ∧ (∀ i, i < k → ls i = 512) ∧ Ext w X) (fun _ iv _ => 5000000000000 - (intOf iv).toNat)
  case atStart => exact ⟨0, Nat.zero_le _, rfl, fun i hi => absurd hi (Nat.not_lt_zero _), Ext.refl _⟩
  case round =>
    obtain ⟨k, hk, rfl, hI, hE⟩ := hrel
    replace hI := hideit hI
    by_cases hlt : k < n
    · have k0 : (0 : Int) ≤ (k : Int) := by omega
      have k1 : (k : Int) < (n : Int) := by omega
      obtain ⟨a, rfl, hel⟩ := (hL.out.ext hE).at k hlt
      have ko := hideit (odd_any (bs k) (us k) (ls k) (hL.out.2 k hlt).1.form wr)
      replace hE := hideit hE
      go_upto_region 2 with (fail)
      refine wp_region_lit ?_
      refine wpList_run rfl (.bool true) (by simp [go_sem, k1]) ?_
      simp only [Act.put, List.setIfInBounds_toArray, List.set_cons_zero, List.set_cons_succ]
      go_upto_region 3 with (fail)
      refine wp_region_lit ?_
      refine wpList_run rfl (.int .i64 (k : Int)) (by simp [go_sem]) ?_
      simp only [Act.put, List.setIfInBounds_toArray, List.set_cons_zero, List.set_cons_succ]
      refine wpList_run rfl (.int .i64 (k : Int)) (by simp [go_sem]) ?_
      simp only [Act.put, List.setIfInBounds_toArray, List.set_cons_zero, List.set_cons_succ]
      go_upto_region 4 with (fail)
      refine wp_region_lit ?_
      refine wpList_run rfl (.func (.func 24) #[] #[]) (by simp [go_sem]) ?_
      simp only [Act.put, List.setIfInBounds_toArray, List.set_cons_zero, List.set_cons_succ]
      refine wpList_run rfl (.slice (some a) n cap) (by simp [go_sem]) ?_
      simp only [Act.put, List.setIfInBounds_toArray, List.set_cons_zero, List.set_cons_succ]
      refine wpList_run rfl (.int .i64 (k : Int)) (by simp [go_sem]) ?_
      simp only [Act.put, List.setIfInBounds_toArray, List.set_cons_zero, List.set_cons_succ]
      refine wpList_run rfl (.pointer (some (a.add (k * 2)))) (by simp [go_sem, k1]) ?_
      simp only [Act.put, List.setIfInBounds_toArray, List.set_cons_zero, List.set_cons_succ]
      refine wpList_run rfl (.agg #[.int .i64 (bs k), us k]) (exec_loadL 51 (.tmp 14) rfl (a.add (k * 2)) 2 (rdC (fun _ => bs k) (fun _ => us k)) rfl hel Tryd.underlying51 rfl info51) ?_
      simp only [Act.put, List.setIfInBounds_toArray, List.set_cons_zero, List.set_cons_succ]
      refine wpList_call rfl (by simp [go_sem]) ((ko.out).mono ?_)
      rintro e w9 ⟨rfl, hX9⟩
      refine ⟨_, rfl, ?_⟩
      simp only [Act.put, List.setIfInBounds_toArray, List.set_cons_zero, List.set_cons_succ]
      have hE9 := hideit (Ext.trans hE.out hX9)
      clear ko hel hX9 hE
      by_cases h5 : ls k = 512
      · rw [decide_eq_false (by omega : ¬ ls k ≠ 512)]
        go_wp2
        refine ⟨⟨k + 1, by omega, by go_num, fun i hi => ?_, hE9.out⟩, by simp [intOf]; omega⟩
        by_cases e : i = k
        · rw [e]
          exact h5
        · exact hI.out i (by omega)
      · rw [decide_eq_true h5]
        go_wp2
        go_ret
        exact ⟨_, rfl, ⟨fun _ => ⟨k, hlt, h5⟩, fun _ => k0⟩, hE9.out⟩
    · obtain rfl : k = n := by omega
      have k1 : ¬ (k : Int) < (k : Int) := by omega
      replace hE := hideit hE
      go_wp2
      go_ret
      refine ⟨_, rfl, ⟨fun h => absurd h (by decide), fun ⟨i, hi, h⟩ => absurd (hI.out i hi) h⟩, hE.out⟩
set_option maxRecDepth 20000 in
set_option maxHeartbeats 4000000 in
theorem contains_odd (v0 : Value) (n : Nat) (bs : Nat → Int) (us : Nat → Value) (ls : Nat → Nat) (fs : Nat → Nat → BitVec 8) (w : World) (hL : RLs v0 n bs us ls fs w) (hn : n ≤ 4398046511104) (b : Bool) (hb : b = true ↔ oddL n ls) : Calls Tryd.prog 23 #[v0, .func (.func 24) #[] #[]] w fun e w' => e = .returned (.bool b) ∧ Ext w w' := by
  have ki := hideit (index_odd v0 n bs us ls fs w hL hn)
  replace hb := hideit hb
  clear hL
  go_enter Tryd.func23, Tryd.ntmps23
  go_upto_region 1 with (fail)
  refine wp_region_lit ?_
  refine wpList_run rfl (v0) (by simp [go_sem]) ?_
  simp only [Act.put, List.setIfInBounds_toArray, List.set_cons_zero, List.set_cons_succ]
  refine wpList_run rfl (.func (.func 24) #[] #[]) (by simp [go_sem]) ?_
  simp only [Act.put, List.setIfInBounds_toArray, List.set_cons_zero, List.set_cons_succ]
  refine wpList_call rfl (by simp [go_sem]) ((ki.out).mono ?_)
  rintro e w9 ⟨r, rfl, hr, hX9⟩
  refine ⟨_, rfl, ?_⟩
  simp only [Act.put, List.setIfInBounds_toArray, List.set_cons_zero, List.set_cons_succ]
  have hbr : Hid (decide (0 ≤ r) = b) := by
    show decide (0 ≤ r) = b
    cases b with
    | true => exact decide_eq_true (hr.2 (hb.out.1 rfl))
    | false => exact decide_eq_false fun h => by have := hb.out.2 (hr.1 h); cases this
  clear ki hr hb
  replace hX9 := hideit hX9
  refine wpList_run rfl (.bool (decide (0 ≤ r))) (by simp [go_sem]) ?_
  simp only [Act.put, List.setIfInBounds_toArray, List.set_cons_zero, List.set_cons_succ]
  refine wpList_run rfl (.bool (decide (0 ≤ r))) (by simp [go_sem]) ?_
  simp only [Act.put, List.setIfInBounds_toArray, List.set_cons_zero, List.set_cons_succ]
  go_wp2
  go_ret
  exact ⟨by rw [hbr.out]; rfl, hX9.out⟩
end Go.Proofs.YtedgopionpdfeaaDoor
