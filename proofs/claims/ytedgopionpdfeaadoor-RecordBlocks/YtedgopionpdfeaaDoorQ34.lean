/-
  What must come of every program. append(s, make([]T, m)...): zeros behind a row of one's own; no word of the program.
-/
import Derived.Test.YtedgopionpdfeaaDoorQ33
import Derived.Test.YtedgopionpdfeaaDoorQ16
import Derived.Test.YtedgopionpdfeaaDoorQ11
namespace Go.Proofs.YtedgopionpdfeaaDoor
open Go.RowKit Go.BigFrame
def lvB : Nat → Int := fun _ => 3
def lvL : Nat → Nat := fun _ => 512
def lvF : Nat → Nat → BitVec 8 := fun _ _ => 0#8
theorem lv_like : like 512 (fun _ => 0#8) = false := by decide
theorem lv_tm : tmK lvL lvF 1 = 0#64 := by
  unfold tmK
  rw [if_neg (by show ¬ like 512 (fun _ => 0#8) = true; rw [lv_like]; decide)]
  rfl
theorem lv_ok : okT 7#64 1 lvB lvL lvF := by
  refine ⟨⟨by decide, by decide, by decide, by rw [lv_tm]; decide, fun i hi => ⟨⟨by show (0 : Int) ≤ 3; decide, by show (3 : Int) < 4096; decide⟩, fun j hj => by omega⟩⟩, ?_⟩
  rintro ⟨i, _, h⟩
  exact h rfl
def lvT : Nat → Nat → BitVec 8 := trF 7#64 (tmK lvL lvF 1) 1 lvB lvF
theorem lv_back : hasP 7#64 3 lvL lvT ∧ isTx 7#64 lvL lvT ∧ cP (lvT 0) = 1 ∧ (∀ i, i < 1 → bP (lvT 0) i = lvB i) ∧ ∀ i, i < 1 → unL lvL lvT i = lvF i := tx_back lv_ok (by decide) (fun _ _ => rfl) (fun _ _ => rfl)
theorem lv_not : ¬ hasP 8#64 3 lvL lvT := fun h => by
  have := h.2.2.1
  rw [lv_back.1.2.2.1] at this
  exact absurd this (by decide)
theorem markF_num (x : BitVec 64) (j : Nat) (hj : j < 8) : markF x (4 + j) = byB x j := by
  unfold markF padF catF begF catF
  rw [if_pos (by omega), if_pos (by omega), if_neg (by omega), show 4 + j - 4 = j by omega]
theorem nP_mark (x : BitVec 64) : nP (markF x) = x := le_by _ x fun j hj => markF_num x j hj
theorem isMk_mark (x : BitVec 64) (hx : x ≠ 0#64) : isMk 512 (markF x) := by
  unfold isMk
  rw [nP_mark]
  exact ⟨hx, decide_eq_true ⟨rfl, fun _ _ => rfl⟩⟩
theorem lv_name (j : Nat) (hj : j < 4) : lvT 0 j = labF sPL j := by
  show trF 7#64 (tmK lvL lvF 1) 1 lvB lvF 0 j = _
  unfold trF bkF
  rw [if_neg (by decide), if_pos rfl]
  exact planF_name _ _ _ _ j hj
set_option maxRecDepth 20000 in
set_option maxHeartbeats 4000000 in
theorem lives_any (w : World) (hT : TabC w) : Calls Tryd.prog 10 #[] w fun e w' => e = .returned (.bool true) ∧ Ext w w' := by
  replace hT := hideit hT
  go_enter Tryd.func10, Tryd.ntmps10
  go_upto_region 1 with (fail)
  refine wp_region_lit ?_
  refine wpList_made w Tryd.underlying34 (by kernel_rfl) rfl _ _ rfl 512 rfl rfl (by decide) ?_
  intro w1 hO1 hX1
  simp only [Act.put, List.setIfInBounds_toArray, List.set_cons_zero, List.set_cons_succ]
  generalize w.heap.size = q1 at *
  have hX2 : Ext w1 (w1.alloc (.cells #[.int .i64 3, .slice (some ⟨q1, 0, none⟩) 512 512] 51)) := (Below.refl _ _).alloc (Nat.le_refl _) _
  have hr2 : RowAt w1.heap.size 2 (rdC lvB fun _ => .slice (some ⟨q1, 0, none⟩) 512 512) (w1.alloc (.cells #[.int .i64 3, .slice (some ⟨q1, 0, none⟩) 512 512] 51)) := RowAt.newOf w1 2 _ 51 _ fun j hj => by rcases (by omega : j = 0 ∨ j = 1) with rfl | rfl <;> rfl
  have hL2 : Hid (RLs (.slice (some ⟨w1.heap.size, 0, none⟩) 1 1) 1 lvB (fun _ => .slice (some ⟨q1, 0, none⟩) 512 512) lvL lvF (w1.alloc (.cells #[.int .i64 3, .slice (some ⟨q1, 0, none⟩) 512 512] 51))) := ⟨.inr ⟨_, 1, rfl, Nat.le_refl _, (RowAt.lie hr2 2 (Nat.le_refl _)).1⟩, fun _ _ => ⟨(hO1.ext hX2).bv.pv, by show 512 ≤ _; decide⟩⟩
  have hE2 := hideit (Ext.trans hX1 hX2)
  refine wpList_run rfl (.agg #[.int .i64 3, .slice (some ⟨q1, 0, none⟩) 512 512]) (by simp [go_sem]) ?_
  simp only [Act.put, List.setIfInBounds_toArray, List.set_cons_zero, List.set_cons_succ]
  refine wpList_to rfl (.slice (some ⟨w1.heap.size, 0, none⟩) 1 1) (w1.alloc (.cells #[.int .i64 3, .slice (some ⟨q1, 0, none⟩) 512 512] 51)) (by simp [go_sem]) ?_
  simp only [Act.put, List.setIfInBounds_toArray, List.set_cons_zero, List.set_cons_succ]
  generalize w1.alloc (.cells #[.int .i64 3, .slice (some ⟨q1, 0, none⟩) 512 512] 51) = w2 at *
  generalize w1.heap.size = q2 at *
  have kb := hideit (blocks_ok 7#64 (.slice (some ⟨q2, 0, none⟩) 1 1) 1 lvB _ lvL lvF w2 hL2.out (fun _ _ => WalkArith.wf_i64 (by unfold lvB; omega)) (by decide) (hT.out.ext hE2.out) lv_ok)
  replace kb : Hid (Calls Tryd.prog 8 #[.int .u64 7, .slice (some ⟨q2, 0, none⟩) 1 1] w2 _) := kb
  clear hL2 hr2 hO1 hX1 hX2
  refine wpList_call rfl (by simp [go_sem]) ((kb.out).mono ?_)
  rintro e w3 ⟨v3, us3, rfl, hB3, hX3⟩
  refine ⟨_, rfl, ?_⟩
  simp only [Act.put, List.setIfInBounds_toArray, List.set_cons_zero, List.set_cons_succ]
  replace hB3 : BLs w2.heap.size v3 3 us3 lvT w3 := hB3
  obtain ⟨o3, c3, rfl⟩ := hB3.form
  obtain ⟨z0, cp0, hu0, hcp0, hz0, _⟩ := hB3.byt 0 (by decide)
  have hE3 := hideit (Ext.trans hE2.out hX3)
  have hPL := hB3.pl
  obtain ⟨a3, rfl, eb⟩ := hPL.at 0 (by decide)
  rw [show a3.add 0 = a3 by unfold Addr.add; simp] at eb
  rw [hu0] at eb
  have hbv : BV (us3 0) 512 (lvT 0) w3 := by
    rw [hu0]
    exact .inr ⟨_, _, rfl, hcp0, hz0⟩
  replace hPL := hideit hPL
  clear kb hX3 hE2 hB3
  refine wpList_run rfl (.tuple #[.slice (some a3) 3 c3, .int .i64 0]) (by simp [go_sem]) ?_
  simp only [Act.put, List.setIfInBounds_toArray, List.set_cons_zero, List.set_cons_succ]
  refine wpList_run rfl (.slice (some a3) 3 c3) (by simp [go_sem]) ?_
  simp only [Act.put, List.setIfInBounds_toArray, List.set_cons_zero, List.set_cons_succ]
  refine wpList_run rfl (.int .i64 0) (by simp [go_sem]) ?_
  simp only [Act.put, List.setIfInBounds_toArray, List.set_cons_zero, List.set_cons_succ]
  refine wpList_run rfl (.slice (some a3) 3 c3) (by simp [go_sem]) ?_
  simp only [Act.put, List.setIfInBounds_toArray, List.set_cons_zero, List.set_cons_succ]
  refine wpList_run rfl (.int .i64 0) (by simp [go_sem]) ?_
  simp only [Act.put, List.setIfInBounds_toArray, List.set_cons_zero, List.set_cons_succ]
  have kp : Hid (Calls Tryd.prog 12 #[.int .u64 7, .slice (some a3) 3 c3] w3 fun e w' => ∃ v us', e = .returned (.tuple #[v, .int .i64 3, .int .i64 0]) ∧ RDs w3.heap.size v 1 (bP (lvT 0)) us' (fun _ => 512) (unL lvL lvT) w' ∧ Ext w3 w') := (parse_some 7#64 (.slice (some a3) 3 c3) 3 us3 lvL lvT w3 (hT.out.ext hE3.out) hPL.out (fun _ => hbv) (fun _ _ => by show 512 ≤ _; decide) (by decide) lv_back.1).mono fun e w' h => by
    rcases h with ⟨hX, ⟨_, v, us', he, hD⟩ | ⟨hno, _⟩⟩
    · rw [lv_back.2.2.1] at he hD
      exact ⟨v, us', he, hD, hX⟩
    · exact absurd lv_back.2.1 hno
  go_upto_region 2 with (fail)
  refine wp_region_lit ?_
  refine wpList_run rfl (.slice (some a3) 3 c3) (by simp [go_sem]) ?_
  simp only [Act.put, List.setIfInBounds_toArray, List.set_cons_zero, List.set_cons_succ]
  refine wpList_call rfl (by simp [go_sem]) ((kp.out).mono ?_)
  rintro e w4 ⟨v4, us4, rfl, hD4, hX4⟩
  refine ⟨_, rfl, ?_⟩
  simp only [Act.put, List.setIfInBounds_toArray, List.set_cons_zero, List.set_cons_succ]
  obtain ⟨b4, c4, rfl, _, _, _, hR4⟩ := hD4.own.lies (by decide)
  have hE4 := hideit (Ext.trans hE3.out hX4)
  have e4 : w4.cell? ⟨b4, 0, none⟩ = some (.int .i64 3) := by
    have := hR4.1 0 (by decide)
    rw [show rdC (bP (lvT 0)) us4 0 = .int .i64 (bP (lvT 0) 0) from rfl, lv_back.2.2.2.1 0 (by decide)] at this
    exact this
  clear kp hD4 hR4
  refine wpList_run rfl (.tuple #[.slice (some ⟨b4, 0, none⟩) 1 c4, .int .i64 3, .int .i64 0]) (by simp [go_sem]) ?_
  simp only [Act.put, List.setIfInBounds_toArray, List.set_cons_zero, List.set_cons_succ]
  refine wpList_run rfl (.slice (some ⟨b4, 0, none⟩) 1 c4) (by simp [go_sem]) ?_
  simp only [Act.put, List.setIfInBounds_toArray, List.set_cons_zero, List.set_cons_succ]
  refine wpList_run rfl (.int .i64 3) (by simp [go_sem]) ?_
  simp only [Act.put, List.setIfInBounds_toArray, List.set_cons_zero, List.set_cons_succ]
  refine wpList_run rfl (.int .i64 0) (by simp [go_sem]) ?_
  simp only [Act.put, List.setIfInBounds_toArray, List.set_cons_zero, List.set_cons_succ]
  refine wpList_run rfl (.slice (some ⟨b4, 0, none⟩) 1 c4) (by simp [go_sem]) ?_
  simp only [Act.put, List.setIfInBounds_toArray, List.set_cons_zero, List.set_cons_succ]
  refine wpList_run rfl (.int .i64 3) (by simp [go_sem]) ?_
  simp only [Act.put, List.setIfInBounds_toArray, List.set_cons_zero, List.set_cons_succ]
  refine wpList_run rfl (.int .i64 0) (by simp [go_sem]) ?_
  simp only [Act.put, List.setIfInBounds_toArray, List.set_cons_zero, List.set_cons_succ]
  have km := hideit (mark_any 9#64 (by decide) w4 (hT.out.ext hE4.out))
  replace km : Hid (Calls Tryd.prog 19 #[.int .u64 9] w4 _) := km
  go_upto_region 3 with (fail)
  refine wp_region_lit ?_
  refine wpList_call rfl (by simp [go_sem]) ((km.out).mono ?_)
  rintro e w5 ⟨z5, rfl, hz5, hR5, hX5⟩
  refine ⟨_, rfl, ?_⟩
  simp only [Act.put, List.setIfInBounds_toArray, List.set_cons_zero, List.set_cons_succ]
  refine wpList_run rfl (.tuple #[.slice (some ⟨z5, 0, none⟩) 512 512, .int .i64 0]) (by simp [go_sem]) ?_
  simp only [Act.put, List.setIfInBounds_toArray, List.set_cons_zero, List.set_cons_succ]
  refine wpList_run rfl (.slice (some ⟨z5, 0, none⟩) 512 512) (by simp [go_sem]) ?_
  simp only [Act.put, List.setIfInBounds_toArray, List.set_cons_zero, List.set_cons_succ]
  refine wpList_run rfl (.int .i64 0) (by simp [go_sem]) ?_
  simp only [Act.put, List.setIfInBounds_toArray, List.set_cons_zero, List.set_cons_succ]
  refine wpList_run rfl (.slice (some ⟨z5, 0, none⟩) 512 512) (by simp [go_sem]) ?_
  simp only [Act.put, List.setIfInBounds_toArray, List.set_cons_zero, List.set_cons_succ]
  refine wpList_run rfl (.int .i64 0) (by simp [go_sem]) ?_
  simp only [Act.put, List.setIfInBounds_toArray, List.set_cons_zero, List.set_cons_succ]
  have hE5 := hideit (Ext.trans hE4.out hX5)
  have kr : Hid (Calls Tryd.prog 17 #[.slice (some ⟨z5, 0, none⟩) 512 512] w5 fun e w' => e = .returned (.tuple #[.int .u64 9, .int .i64 0]) ∧ Ext w5 w') := (readm_any _ 512 (markF 9#64) w5 (bv_row hR5) (by decide) (hT.out.ext hE5.out)).mono fun e w' h => by
    rcases h with ⟨hX, ⟨_, he⟩ | ⟨hno, _⟩⟩
    · rw [nP_mark] at he
      exact ⟨he, hX⟩
    · exact absurd (isMk_mark 9#64 (by decide)) hno
  clear km hz5 hR5
  go_upto_region 4 with (fail)
  refine wp_region_lit ?_
  refine wpList_run rfl (.slice (some ⟨z5, 0, none⟩) 512 512) (by simp [go_sem]) ?_
  simp only [Act.put, List.setIfInBounds_toArray, List.set_cons_zero, List.set_cons_succ]
  refine wpList_call rfl (by simp [go_sem]) ((kr.out).mono ?_)
  rintro e w6 ⟨rfl, hX6⟩
  refine ⟨_, rfl, ?_⟩
  simp only [Act.put, List.setIfInBounds_toArray, List.set_cons_zero, List.set_cons_succ]
  refine wpList_run rfl (.tuple #[.int .u64 9, .int .i64 0]) (by simp [go_sem]) ?_
  simp only [Act.put, List.setIfInBounds_toArray, List.set_cons_zero, List.set_cons_succ]
  refine wpList_run rfl (.int .u64 9) (by simp [go_sem]) ?_
  simp only [Act.put, List.setIfInBounds_toArray, List.set_cons_zero, List.set_cons_succ]
  refine wpList_run rfl (.int .i64 0) (by simp [go_sem]) ?_
  simp only [Act.put, List.setIfInBounds_toArray, List.set_cons_zero, List.set_cons_succ]
  refine wpList_run rfl (.int .u64 9) (by simp [go_sem]) ?_
  simp only [Act.put, List.setIfInBounds_toArray, List.set_cons_zero, List.set_cons_succ]
  refine wpList_run rfl (.int .i64 0) (by simp [go_sem]) ?_
  simp only [Act.put, List.setIfInBounds_toArray, List.set_cons_zero, List.set_cons_succ]
  have hX36 := Ext.trans hX4 (Ext.trans hX5 hX6)
  have hE6 := hideit (Ext.trans hE5.out hX6)
  have kq := hideit (parse_none 8#64 (.slice (some a3) 3 c3) 3 us3 lvL lvT w6 (hPL.out.ext hX36) (fun _ => hbv.ext hX36) (fun _ _ => by show 512 ≤ _; decide) (by decide) lv_not)
  replace kq : Hid (Calls Tryd.prog 12 #[.int .u64 8, .slice (some a3) 3 c3] w6 _) := kq
  clear kr
  go_upto_region 5 with (fail)
  refine wp_region_lit ?_
  refine wpList_run rfl (.slice (some a3) 3 c3) (by simp [go_sem]) ?_
  simp only [Act.put, List.setIfInBounds_toArray, List.set_cons_zero, List.set_cons_succ]
  refine wpList_call rfl (by simp [go_sem]) ((kq.out).mono ?_)
  rintro e w7 ⟨rfl, hX7⟩
  refine ⟨_, rfl, ?_⟩
  simp only [Act.put, List.setIfInBounds_toArray, List.set_cons_zero, List.set_cons_succ]
  refine wpList_run rfl (.tuple #[.slice none 0 0, .int .i64 0, .int .i64 110]) (by simp [go_sem]) ?_
  simp only [Act.put, List.setIfInBounds_toArray, List.set_cons_zero, List.set_cons_succ]
  refine wpList_run rfl (.slice none 0 0) (by simp [go_sem]) ?_
  simp only [Act.put, List.setIfInBounds_toArray, List.set_cons_zero, List.set_cons_succ]
  refine wpList_run rfl (.int .i64 0) (by simp [go_sem]) ?_
  simp only [Act.put, List.setIfInBounds_toArray, List.set_cons_zero, List.set_cons_succ]
  refine wpList_run rfl (.int .i64 110) (by simp [go_sem]) ?_
  simp only [Act.put, List.setIfInBounds_toArray, List.set_cons_zero, List.set_cons_succ]
  refine wpList_run rfl (.slice none 0 0) (by simp [go_sem]) ?_
  simp only [Act.put, List.setIfInBounds_toArray, List.set_cons_zero, List.set_cons_succ]
  refine wpList_run rfl (.int .i64 0) (by simp [go_sem]) ?_
  simp only [Act.put, List.setIfInBounds_toArray, List.set_cons_zero, List.set_cons_succ]
  refine wpList_run rfl (.int .i64 110) (by simp [go_sem]) ?_
  simp only [Act.put, List.setIfInBounds_toArray, List.set_cons_zero, List.set_cons_succ]
  have hE7 := hideit (Ext.trans hE6.out hX7)
  have hX37 := Ext.trans hX36 hX7
  have e7 : w7.cell? ⟨b4, 0, none⟩ = some (.int .i64 3) := cell_ext' (Ext.trans hX5 (Ext.trans hX6 hX7)) e4
  have eb7 : w7.cell? a3 = some (.slice (some ⟨z0, 0, none⟩) 512 cp0) := cell_ext' hX37 eb
  have cv := convV (.slice (some ⟨z0, 0, none⟩) 4 cp0) 4 (lvT 0) w7 (.inr ⟨_, _, rfl, by omega, fun j hj => (hz0.carry hX37).1 j (by omega), (hz0.carry hX37).2⟩)
  have hbc : (bstr 4 fun j => ((lvT 0 j).toNat : Int)) = bstr 4 fun j => ((labF sPL j).toNat : Int) := bstr_congr fun j hj => by rw [lv_name j hj]
  rw [hbc, pl_str] at cv
  clear hbc
  unfold sPL at cv
  have s1 : (4 : Int) ≤ (cp0 : Int) := by omega
  clear kq hX7 hX37 hX36 hX6 hX5 hX4 hPL hbv hu0 hz0 eb e4 hcp0 hT hE3 hE4 hE5 hE6
  go_upto_region 6 with (fail)
  refine wp_region_lit ?_
  refine wpList_run rfl (.int .i64 0) (by simp [go_sem]) ?_
  simp only [Act.put, List.setIfInBounds_toArray, List.set_cons_zero, List.set_cons_succ]
  refine wpList_run rfl (.bool true) (by simp [go_sem]) ?_
  simp only [Act.put, List.setIfInBounds_toArray, List.set_cons_zero, List.set_cons_succ]
  refine wpList_run rfl (.bool true) (by simp [go_sem]) ?_
  simp only [Act.put, List.setIfInBounds_toArray, List.set_cons_zero, List.set_cons_succ]
  refine wpList_runW rfl (.int .i64 0) (by simp [go_sem]) ?_
  simp only [Act.put, List.setIfInBounds_toArray, List.set_cons_zero, List.set_cons_succ]
  refine wpList_runW rfl (.bool true) (by simp [go_sem]) ?_
  simp only [Act.put, List.setIfInBounds_toArray, List.set_cons_zero, List.set_cons_succ]
  refine wpList_run rfl (.bool true) (by simp [go_sem]) ?_
  simp only [Act.put, List.setIfInBounds_toArray, List.set_cons_zero, List.set_cons_succ]
  refine wpList_run rfl (.bool true) (by simp [go_sem]) ?_
  simp only [Act.put, List.setIfInBounds_toArray, List.set_cons_zero, List.set_cons_succ]
  refine wpList_runW rfl (.int .i64 0) (by simp [go_sem]) ?_
  simp only [Act.put, List.setIfInBounds_toArray, List.set_cons_zero, List.set_cons_succ]
  refine wpList_runW rfl (.bool true) (by simp [go_sem]) ?_
  simp only [Act.put, List.setIfInBounds_toArray, List.set_cons_zero, List.set_cons_succ]
  refine wpList_run rfl (.bool true) (by simp [go_sem]) ?_
  simp only [Act.put, List.setIfInBounds_toArray, List.set_cons_zero, List.set_cons_succ]
  refine wpList_run rfl (.bool true) (by simp [go_sem]) ?_
  simp only [Act.put, List.setIfInBounds_toArray, List.set_cons_zero, List.set_cons_succ]
  refine wpList_runW rfl (.int .i64 0) (by simp [go_sem]) ?_
  simp only [Act.put, List.setIfInBounds_toArray, List.set_cons_zero, List.set_cons_succ]
  refine wpList_runW rfl (.bool true) (by simp [go_sem]) ?_
  simp only [Act.put, List.setIfInBounds_toArray, List.set_cons_zero, List.set_cons_succ]
  refine wpList_run rfl (.bool true) (by simp [go_sem]) ?_
  simp only [Act.put, List.setIfInBounds_toArray, List.set_cons_zero, List.set_cons_succ]
  refine wpList_run rfl (.bool true) (by simp [go_sem]) ?_
  simp only [Act.put, List.setIfInBounds_toArray, List.set_cons_zero, List.set_cons_succ]
  refine wpList_runW rfl (.int .i64 110) (by simp [go_sem]) ?_
  simp only [Act.put, List.setIfInBounds_toArray, List.set_cons_zero, List.set_cons_succ]
  refine wpList_runW rfl (.bool true) (by simp [go_sem]) ?_
  simp only [Act.put, List.setIfInBounds_toArray, List.set_cons_zero, List.set_cons_succ]
  refine wpList_run rfl (.bool true) (by simp [go_sem]) ?_
  simp only [Act.put, List.setIfInBounds_toArray, List.set_cons_zero, List.set_cons_succ]
  refine wpList_run rfl (.bool true) (by simp [go_sem]) ?_
  simp only [Act.put, List.setIfInBounds_toArray, List.set_cons_zero, List.set_cons_succ]
  refine wpList_runW rfl (.slice (some a3) 3 c3) (by simp [go_sem]) ?_
  simp only [Act.put, List.setIfInBounds_toArray, List.set_cons_zero, List.set_cons_succ]
  refine wpList_runW rfl (.int .i64 3) (by simp [go_sem]) ?_
  simp only [Act.put, List.setIfInBounds_toArray, List.set_cons_zero, List.set_cons_succ]
  refine wpList_runW rfl (.bool true) (by simp [go_sem]) ?_
  simp only [Act.put, List.setIfInBounds_toArray, List.set_cons_zero, List.set_cons_succ]
  refine wpList_run rfl (.bool true) (by simp [go_sem]) ?_
  simp only [Act.put, List.setIfInBounds_toArray, List.set_cons_zero, List.set_cons_succ]
  refine wpList_run rfl (.bool true) (by simp [go_sem]) ?_
  simp only [Act.put, List.setIfInBounds_toArray, List.set_cons_zero, List.set_cons_succ]
  refine wpList_runW rfl (.int .i64 3) (by simp [go_sem]) ?_
  simp only [Act.put, List.setIfInBounds_toArray, List.set_cons_zero, List.set_cons_succ]
  refine wpList_runW rfl (.bool true) (by simp [go_sem]) ?_
  simp only [Act.put, List.setIfInBounds_toArray, List.set_cons_zero, List.set_cons_succ]
  refine wpList_run rfl (.bool true) (by simp [go_sem]) ?_
  simp only [Act.put, List.setIfInBounds_toArray, List.set_cons_zero, List.set_cons_succ]
  refine wpList_run rfl (.bool true) (by simp [go_sem]) ?_
  simp only [Act.put, List.setIfInBounds_toArray, List.set_cons_zero, List.set_cons_succ]
  refine wpList_runW rfl (.slice (some ⟨b4, 0, none⟩) 1 c4) (by simp [go_sem]) ?_
  simp only [Act.put, List.setIfInBounds_toArray, List.set_cons_zero, List.set_cons_succ]
  refine wpList_runW rfl (.int .i64 1) (by simp [go_sem]) ?_
  simp only [Act.put, List.setIfInBounds_toArray, List.set_cons_zero, List.set_cons_succ]
  refine wpList_runW rfl (.bool true) (by simp [go_sem]) ?_
  simp only [Act.put, List.setIfInBounds_toArray, List.set_cons_zero, List.set_cons_succ]
  refine wpList_run rfl (.bool true) (by simp [go_sem]) ?_
  simp only [Act.put, List.setIfInBounds_toArray, List.set_cons_zero, List.set_cons_succ]
  refine wpList_run rfl (.bool true) (by simp [go_sem]) ?_
  simp only [Act.put, List.setIfInBounds_toArray, List.set_cons_zero, List.set_cons_succ]
  refine wpList_runW rfl (.slice (some ⟨b4, 0, none⟩) 1 c4) (by simp [go_sem]) ?_
  simp only [Act.put, List.setIfInBounds_toArray, List.set_cons_zero, List.set_cons_succ]
  refine wpList_runW rfl (.pointer (some ⟨b4, 0, none⟩)) (by simp [go_sem]) ?_
  simp only [Act.put, List.setIfInBounds_toArray, List.set_cons_zero, List.set_cons_succ]
  refine wpList_runW rfl (.pointer (some ⟨b4, 0, none⟩)) (by simp [go_sem]) ?_
  simp only [Act.put, List.setIfInBounds_toArray, List.set_cons_zero, List.set_cons_succ]
  refine wpList_runW rfl (.int .i64 3) (by simp [go_sem, e7]) ?_
  simp only [Act.put, List.setIfInBounds_toArray, List.set_cons_zero, List.set_cons_succ]
  refine wpList_runW rfl (.bool true) (by simp [go_sem]) ?_
  simp only [Act.put, List.setIfInBounds_toArray, List.set_cons_zero, List.set_cons_succ]
  refine wpList_run rfl (.bool true) (by simp [go_sem]) ?_
  simp only [Act.put, List.setIfInBounds_toArray, List.set_cons_zero, List.set_cons_succ]
  refine wpList_run rfl (.bool true) (by simp [go_sem]) ?_
  simp only [Act.put, List.setIfInBounds_toArray, List.set_cons_zero, List.set_cons_succ]
  refine wpList_runW rfl (.int .u64 9) (by simp [go_sem]) ?_
  simp only [Act.put, List.setIfInBounds_toArray, List.set_cons_zero, List.set_cons_succ]
  refine wpList_runW rfl (.bool true) (by simp [go_sem]) ?_
  simp only [Act.put, List.setIfInBounds_toArray, List.set_cons_zero, List.set_cons_succ]
  refine wpList_run rfl (.bool true) (by simp [go_sem]) ?_
  simp only [Act.put, List.setIfInBounds_toArray, List.set_cons_zero, List.set_cons_succ]
  refine wpList_run rfl (.bool true) (by simp [go_sem]) ?_
  simp only [Act.put, List.setIfInBounds_toArray, List.set_cons_zero, List.set_cons_succ]
  refine wpList_runW rfl (.slice (some a3) 3 c3) (by simp [go_sem]) ?_
  simp only [Act.put, List.setIfInBounds_toArray, List.set_cons_zero, List.set_cons_succ]
  refine wpList_runW rfl (.pointer (some a3)) (by simp [go_sem]) ?_
  simp only [Act.put, List.setIfInBounds_toArray, List.set_cons_zero, List.set_cons_succ]
  refine wpList_runW rfl (.slice (some ⟨z0, 0, none⟩) 512 cp0) (by simp [go_sem, eb7]) ?_
  simp only [Act.put, List.setIfInBounds_toArray, List.set_cons_zero, List.set_cons_succ]
  refine wpList_runW rfl (.slice (some ⟨z0, 0, none⟩) 4 cp0) (by simp [go_sem, s1]) ?_
  simp only [Act.put, List.setIfInBounds_toArray, List.set_cons_zero, List.set_cons_succ]
  refine wpList_runW rfl (.string { data := #[80, 76, 65, 78] }) (by simp [go_sem, cv]) ?_
  simp only [Act.put, List.setIfInBounds_toArray, List.set_cons_zero, List.set_cons_succ]
  refine wpList_runW rfl (.bool true) (by simp [go_sem]) ?_
  simp only [Act.put, List.setIfInBounds_toArray, List.set_cons_zero, List.set_cons_succ]
  refine wpList_run rfl (.bool true) (by simp [go_sem]) ?_
  simp only [Act.put, List.setIfInBounds_toArray, List.set_cons_zero, List.set_cons_succ]
  refine wpList_run rfl (.bool true) (by simp [go_sem]) ?_
  simp only [Act.put, List.setIfInBounds_toArray, List.set_cons_zero]
  clear e7 eb7 cv s1
  go_wp2
  go_ret
  exact ⟨rfl, hE7.out⟩
end Go.Proofs.YtedgopionpdfeaaDoor
namespace Go.Proofs.YtedgopionpdfeaaDoor
open Go.RowKit Go.BigFrame
theorem zeroCells_one (zv : Value) (m : Nat) : Builtin.zeroCells #[zv] m = (row m fun _ => zv).toArray := by
  apply Array.ext'
  simp only [Builtin.zeroCells, row]
  apply List.ext_getElem?
  intro i
  by_cases h : i < m
  · simp [h, Nat.mod_one]
  · simp [h]
section
variable {P : Program} (w : World)
theorem run_zeros (base : Nat) (t u ty e : TypeId) (i : TypeInfo) (z zv : Value) (ht : P.underlying t = some (.slice e)) (hu : P.underlying u = some (.int .i64)) (hi : P.info? e = some i) (hz : i.zero = some z)
    (hsize : i.size = 1) (hby : i.bytes = 1) (hzc : z.cells = #[zv]) (h1 : zv.oneCell' = true)
    (g n cap : Nat) (xs : List Value) (hown : w.ownsRow base e 1 (.slice (some ⟨g, 0, none⟩) n cap) n xs) (m : Nat) (hm : 0 < m)
    (hbytes : n + m ≤ 140737488355328) (hbase : base ≤ w.heap.size) :
    ∃ v' w', (Builtin.append_ #[t, u] ty #[.slice (some ⟨g, 0, none⟩) n cap, .int .i64 (m : Int)]).run P w = .ok v' w' ∧ w'.ownsRow base e 1 v' (n + m) (xs ++ row m fun _ => zv) ∧ w.grownBy w' (some g) := by
  have h63 : n + m ≤ maxLen := by unfold maxLen; omega
  have hlr : (row m fun _ => zv).length = m := row_length _ _
  have hlen : (xs ++ row m fun _ => zv).length = (n + m) * 1 := by rw [List.length_append, hown.1, hlr, Nat.mul_one, Nat.mul_one]
  have hzs : z.cells.size = 1 := by rw [hzc]; rfl
  have hwr : IntKind.i64.wrap (m : Int) = (m : Int) := by rw [IntKind.wrap_i64]; omega
  have hneg : ¬ ((m : Int) < 0) := by omega
  have h48 : ¬ (281474976710656 < (m : Int)) := by omega
  have hm0 : ¬ (m = 0) := by omega
  have hall : ∀ u ∈ (row m fun _ => zv), u.oneCell' = true := fun u hu => by
    obtain ⟨j, _, rfl⟩ := List.mem_map.1 hu
    exact h1
  have hzz := zeroCells_one zv m
  rcases hown.2 with ⟨h, _⟩ | ⟨g', cap', cur, h, hbg, hg, hnc, hcm, hcs, htake⟩
  · cases h
  · injection h with e1 _ e3
    injection e1 with e1
    injection e1 with e1
    subst e1
    subst e3
    by_cases hroom : n + m ≤ cap
    · have hfit : n * i.size + (row m fun _ => zv).length ≤ cur.size := by rw [hsize, hlr, hcs]; omega
      have hst := run_storeCells_at P g (n * i.size) e (row m fun _ => zv) 0 cur w hg (by simpa using hfit) hall
      simp only [Nat.add_zero] at hst
      have hr : (Builtin.append_ #[t, u] ty #[.slice (some ⟨g, 0, none⟩) n cap, .int .i64 (m : Int)]).run P w = .ok (.slice (some ⟨g, 0, none⟩) (n + m) cap) (w.setRow g (cur.toList.take (n * i.size) ++ (row m fun _ => zv) ++ cur.toList.drop (n * i.size + (row m fun _ => zv).length)).toArray) := by
        simp only [hsize, Nat.mul_one, List.append_assoc] at hst ⊢
        simp [Builtin.append_, run_underlying ht, run_underlying hu, sizeOf, typeInfo, zeroValue, hi, hz, asInt, asIntOf, hwr, hneg, h48, hby, hsize, hm0, hzc, hzz, hroom, Addr.add_lit, hst]
      refine ⟨_, _, hr, ⟨hlen, .inr ⟨g, cap, _, rfl, hbg, setRow_heap w g cur _ e _ hg, hroom, hcm, ?_, ?_⟩⟩, ⟨rfl, rfl, rfl, by simp, fun k _ hk => setRow_other w g k _ (fun e => hk (by simp [e]))⟩⟩
      · simp only [List.size_toArray, List.length_append, List.length_take, List.length_drop, Array.length_toList]
        omega
      · rw [hsize, htake, ← hlen]
        exact List.take_left
    · have holds : ∀ j u, xs[j]? = some u → w.cell? ((⟨g, 0, none⟩ : Addr).add j) = some u := hown.cells (g := g) rfl
      have h63' : ¬ (9223372036854775807 < ((n : Int) + (m : Int))) := by omega
      have hfits := growslice_fits (need := n + m) (old := cap) (bytes := 1) (by omega) (by omega)
      have h48' : ¬ (281474976710656 < Builtin.nextslicecap (n + m) cap) := by omega
      have hfo := run_firstCells_some (P := P) w.drew 1 n ⟨g, 0, none⟩ n cap xs hown.1 (by simpa using holds)
      have hr : (Builtin.append_ #[t, u] ty #[.slice (some ⟨g, 0, none⟩) n cap, .int .i64 (m : Int)]).run P w = .ok (.slice (some ⟨w.heap.size, 0, none⟩) (n + m) (grownCap w (n + m) cap e)) (w.drew.alloc (.cells (xs.toArray ++ (row m fun _ => zv).toArray ++ Builtin.zeroCells #[zv] (grownCap w (n + m) cap e - (n + m))) e)) := by
        simp [Builtin.append_, run_underlying ht, run_underlying hu, sizeOf, typeInfo, zeroValue, hi, hz, asInt, asIntOf, hwr, hneg, h48, hby, hsize, hm0, hzc, hzz, hroom, h63', h48', Question.forced, hfo, newRow, grownCap]
        congr 2
        apply Array.ext'
        simp [List.append_assoc]
      have hge := grownCap_ge w (n + m) cap e
      have hcm' : grownCap w (n + m) cap e ≤ maxLen := grownCap_le_maxLen w (n + m) cap e h63
      refine ⟨_, _, hr, ⟨hlen, .inr ⟨w.heap.size, _, _, rfl, hbase, heap_alloc_new w.drew _, hge, hcm', ?_, ?_⟩⟩, ⟨rfl, rfl, rfl, by simp, fun k hk _ => heap_alloc_old w.drew _ (by exact hk)⟩⟩
      · have h2 : (Builtin.zeroCells #[zv] (grownCap w (n + m) cap e - (n + m))).size = grownCap w (n + m) cap e - (n + m) := by rw [size_zeroCells]; simp
        simp only [Array.size_append, List.size_toArray, h2, hown.1, hlr]
        omega
      · simp only [Array.toList_append, List.append_assoc]
        rw [← List.append_assoc, ← hlen]
        exact List.take_left
theorem wpList_zeros {ops : Array Oper} {rest : List Oper} {o : Oper} {a : Act} {Q : Exit → Act → World → Prop} {t u e : TypeId} {base n : Nat} {v : Value} {g f : Nat → Value} (zv : Value) (i : TypeInfo) (z : Value) (ht : P.underlying t = some (.slice e)) (hu : P.underlying u = some (.int .i64)) (hi : P.info? e = some i) (hz : i.zero = some z)
    (hsize : i.size = 1) (hby : i.bytes = 1) (hzc : z.cells = #[zv]) (h1 : zv.oneCell' = true) (hgd : o.guard = none) (s x : Operand)
    (ho : o.op = .call { callee := .builtin .append, args := #[s, x], argTypes := #[t, u] }) (hs : a.eval s = v) (hown : OwnB base e v n g w) (hn : 0 < n) (m : Nat) (hm : 0 < m) (hx : a.eval x = .int .i64 (m : Int))
    (hf1 : ∀ j, j < n → g j = f j) (hf2 : ∀ j, j < m → zv = f (n + j)) (hbytes : n + m ≤ 140737488355328) (hbase : base ≤ w.heap.size)
    (h : ∀ v' w', OwnB base e v' (n + m) f w' → w.grownBy w' v.ownBlock → wpList P ops Q rest (a.put o.dst v') w') : wpList P ops Q (o :: rest) a w := by
  obtain ⟨b, cap, rfl, _⟩ := hown.lies hn
  refine wpList_plain hgd fun K hK => ?_
  obtain ⟨v', w', hr, h2, h3⟩ := run_zeros (P := P) w base t u o.type e i z zv ht hu hi hz hsize hby hzc h1 b n cap (row n g) hown m hm hbytes hbase
  unfold Oper.wp execOp
  simp only [ho, resolve, invoke, builtin, Sem.run_bind, Sem.run_pure, Result.andThen_ok, List.map_toArray, List.map_cons, List.map_nil, hs, hx, hr]
  refine hK _ _ (h v' w' ?_ h3)
  unfold OwnB
  rwa [row_append n m g (fun _ => zv) f hf1 hf2] at h2
end
end Go.Proofs.YtedgopionpdfeaaDoor
