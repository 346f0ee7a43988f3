/-
  lives: what must come of every program, comes.
-/
import Derived.Test.YtbnbjhainkjknaaDoorBSum
namespace Go.Proofs.YtbnbjhainkjknaaDoor
open Go.RowKit Go.BigFrame
def lvL (i : Nat) : Nat := if i = 0 then 1 else 2
def lvB (i : Nat) : Nat → BitVec 8 := if i = 0 then bT [97] else bT [98, 99]
theorem startF_congr (h h' : Nat → BitVec 64) (t : BitVec 64) (l : Bool) (e : ∀ j, j < 8 → h j = h' j) : startF h t l = startF h' t l := by
  funext j
  unfold startF
  by_cases hj : j < 8
  · rw [e j hj]
  · rw [if_neg hj, if_neg hj]
theorem pieceF_state (h h' : Nat → BitVec 64) (p : Nat → BitVec 8) (t : BitVec 64) (l : Bool) (e : ∀ j, j < 8 → h j = h' j) (j : Nat) (hj : j < 8) : pieceF h p t l j = pieceF h' p t l j := by
  unfold pieceF
  rw [startF_congr h h' t l e, e j hj]
theorem lv_h0 : ∀ j, j < 8 → h0F 64 0 j = abH j := by decide +kernel
theorem lv_m (key : Nat → BitVec 8) : pendB (joinF (keyF 0 key) (keyN 0) lvL lvB 2) 0 3 = pend3 := by
  funext j
  unfold pendB pend3
  by_cases hj : j < 3
  · rw [if_pos hj, if_pos hj]
    rcases (by omega : j = 0 ∨ j = 1 ∨ j = 2) with rfl | rfl | rfl <;> rfl
  · rw [if_neg hj, if_neg hj]
theorem lv_dig (key : Nat → BitVec 8) (j : Nat) (hj : j < 64) : blakeF (h0F 64 0) (joinF (keyF 0 key) (keyN 0) lvL lvB 2) (keyN 0 + sumL lvL 2) j = digF (pieceF abH pend3 3#64 true) j := by
  have hn : keyN 0 + sumL lvL 2 = 3 := rfl
  rw [hn]
  unfold blakeF
  have hq : qOf 3 = 0 := rfl
  rw [hq, show 3 - 128 * 0 = 3 from rfl, lv_m key]
  show digF (pieceF (h0F 64 0) pend3 3#64 true) j = _
  unfold digF
  rw [pieceF_state (h0F 64 0) abH pend3 3#64 true lv_h0 (j / 8) (by omega)]
set_option maxRecDepth 20000 in
set_option maxHeartbeats 2000000 in
theorem lives_any (w : World) (hC : TabC w) : Calls Tryd.prog 11 #[] w fun e w' => e = .returned (.bool true) ∧ Below w.heap.size w w' := by
  replace hC := hideit hC
  obtain ⟨key, hkey⟩ : ∃ key : Nat → BitVec 8, key = fun _ => 0#8 := ⟨_, rfl⟩
  clear hkey
  obtain ⟨R, hR⟩ : ∃ R, R = blakeF (h0F 64 0) (joinF (keyF 0 key) (keyN 0) lvL lvB 2) (keyN 0 + sumL lvL 2) := ⟨_, rfl⟩
  have r0 : R 0 = 186#8 := by rw [hR, lv_dig key 0 (by omega)]; exact ab_0
  have r1 : R 1 = 128#8 := by rw [hR, lv_dig key 1 (by omega)]; exact ab_1
  have r63 : R 63 = 35#8 := by rw [hR, lv_dig key 63 (by omega)]; exact ab_63
  have hsum := fun (X : World) (pv : Value) (us : Nat → Value) (hP : Parts pv 2 us lvL lvB X) (hX : Ext w X) => bsum_any 64 0 2 (by omega) (by omega) (by omega) (.slice none 0 0) pv key us lvL lvB X (.inl ⟨rfl, rfl⟩) hP (hC.out.ext hX) (by omega)
  rw [← hR] at hsum
  replace hsum := hideit hsum
  clear hR
  go_enter Tryd.func11, Tryd.ntmps11
  go_upto_region 1 with (fail)
  refine wp_region_lit ?_
  obtain ⟨w1, hrun1, hB1, hE1⟩ := constB w #[.int .u8 97] 1 (bT [97]) (fun j hj => match j, hj with | 0, _ => rfl)
  refine wpList_to rfl (.slice (some ⟨w.heap.size, 0, none⟩) 1 1) (w.alloc (.cells #[.int .u8 97] 5)) (by simp [go_sem]) ?_
  simp only [Act.put, List.setIfInBounds_toArray, List.set_cons_zero, List.set_cons_succ]
  refine wpList_to rfl (.slice (some ⟨w.heap.size, 0, none⟩) 1 1) w1 (by simp [go_sem, hrun1]) ?_
  simp only [Act.put, List.setIfInBounds_toArray, List.set_cons_zero, List.set_cons_succ]
  obtain ⟨w2, hrun2, hB2, hE2⟩ := constB w1 #[.int .u8 98, .int .u8 99] 2 (bT [98, 99]) (fun j hj => by rcases (by omega : j = 0 ∨ j = 1) with rfl | rfl <;> rfl)
  refine wpList_to rfl (.slice (some ⟨w1.heap.size, 0, none⟩) 2 2) (w1.alloc (.cells #[.int .u8 98, .int .u8 99] 5)) (by simp [go_sem]) ?_
  simp only [Act.put, List.setIfInBounds_toArray, List.set_cons_zero, List.set_cons_succ]
  refine wpList_to rfl (.slice (some ⟨w1.heap.size, 0, none⟩) 2 2) w2 (by simp [go_sem, hrun2]) ?_
  simp only [Act.put, List.setIfInBounds_toArray, List.set_cons_zero, List.set_cons_succ]
  have hE3 : Ext w2 (w2.alloc (.cells #[.slice (some ⟨w.heap.size, 0, none⟩) 1 1, .slice (some ⟨w1.heap.size, 0, none⟩) 2 2] 22)) := (Below.refl _ _).alloc (Nat.le_refl _) _
  have hP3 : Parts (.slice (some ⟨w2.heap.size, 0, none⟩) 2 2) 2 (fun i => if i = 0 then .slice (some ⟨w.heap.size, 0, none⟩) 1 1 else .slice (some ⟨w1.heap.size, 0, none⟩) 2 2) lvL lvB (w2.alloc (.cells #[.slice (some ⟨w.heap.size, 0, none⟩) 1 1, .slice (some ⟨w1.heap.size, 0, none⟩) 2 2] 22)) := by
    refine ⟨.inr ⟨_, 2, rfl, Nat.le_refl _, lieNew w2 2 _ 22 (0, 0) _ (fun j hj => ?_)⟩, fun i hi => ?_⟩
    · rcases (by omega : j = 0 ∨ j = 1) with rfl | rfl <;> rfl
    · rcases (by omega : i = 0 ∨ i = 1) with rfl | rfl
      · exact (hB1.ext hE2).ext hE3
      · exact hB2.ext hE3
  have HE3 := hideit (Ext.trans hE1 (Ext.trans hE2 hE3))
  have hs := hideit (hsum.out _ _ _ hP3 HE3.out)
  refine wpList_to rfl (.slice (some ⟨w2.heap.size, 0, none⟩) 2 2) (w2.alloc (.cells #[.slice (some ⟨w.heap.size, 0, none⟩) 1 1, .slice (some ⟨w1.heap.size, 0, none⟩) 2 2] 22)) (by simp [go_sem]) ?_
  simp only [Act.put, List.setIfInBounds_toArray, List.set_cons_zero, List.set_cons_succ]
  clear hP3 hE3 hE1 hE2 hB1 hB2 hrun1 hrun2 hsum
  generalize w2.alloc (.cells #[.slice (some ⟨w.heap.size, 0, none⟩) 1 1, .slice (some ⟨w1.heap.size, 0, none⟩) 2 2] 22) = w3 at *
  refine wpList_call rfl (by simp [go_sem]) (hs.out.mono ?_)
  rintro e w4 ⟨v4, rfl, hO4, hE4⟩
  refine ⟨_, rfl, ?_⟩
  obtain ⟨g, cp, rfl, _, _, _, hRow⟩ := hO4.lies (by omega)
  simp only [Act.put, List.setIfInBounds_toArray, List.set_cons_zero, List.set_cons_succ]
  have HE4 := hideit (Ext.trans HE3.out hE4)
  have e0 := hRow.1 0 (by omega)
  have e1 := hRow.1 1 (by omega)
  have e63 := hRow.1 63 (by omega)
  simp only [yv, r0, r1, r63] at e0 e1 e63
  clear hs hO4 hE4 hRow HE3 r0 r1 r63
  refine wpList_run rfl (.tuple #[.slice (some ⟨g, 0, none⟩) 64 cp, .int .i64 0]) (by simp [go_sem]) ?_
  simp only [Act.put, List.setIfInBounds_toArray, List.set_cons_zero, List.set_cons_succ]
  refine wpList_run rfl (.slice (some ⟨g, 0, none⟩) 64 cp) (by simp [go_sem]) ?_
  simp only [Act.put, List.setIfInBounds_toArray, List.set_cons_zero, List.set_cons_succ]
  refine wpList_run rfl (.int .i64 0) (by simp [go_sem]) ?_
  simp only [Act.put, List.setIfInBounds_toArray, List.set_cons_zero, List.set_cons_succ]
  refine wpList_run rfl (.slice (some ⟨g, 0, none⟩) 64 cp) (by simp [go_sem]) ?_
  simp only [Act.put, List.setIfInBounds_toArray, List.set_cons_zero, List.set_cons_succ]
  refine wpList_run rfl (.int .i64 0) (by simp [go_sem]) ?_
  simp only [Act.put, List.setIfInBounds_toArray, List.set_cons_zero, List.set_cons_succ]
  have hbad := hideit (bsum_bad 65 none 0 0 (.slice none 0 0) (by omega) w4)
  go_upto_region 3 with (go_at_call 9; refine hbad.out.mono ?_; rintro e w5 ⟨rfl, hw5⟩; subst hw5; clear hbad)
  go_wp2
  go_ret
  exact ⟨rfl, HE4.out⟩
end Go.Proofs.YtbnbjhainkjknaaDoor
