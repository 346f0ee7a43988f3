/-
  The tag of parts under a key.
-/
import Derived.Test.YthgflnjeojhgkaaDoorHTag
import Derived.Test.YthgflnjeojhgkaaDoorJef
namespace Go.Proofs.YthgflnjeojhgkaaDoor
open Go.RowKit Go.BigFrame
/-- the tag of n bytes under a key of l bytes -/
def tagF (l : Nat) (key : Nat → BitVec 8) (m : Nat → BitVec 8) (n : Nat) : Nat → BitVec 8 := shaF (catF (maskF (readyF l key) 92#8) 64 (shaF (catF (maskF (readyF l key) 54#8) 64 m) (64 + n))) 96
def allF (ls : Nat → Nat) (bs : Nat → Nat → BitVec 8) (k : Nat) : Nat → BitVec 8 := joinF (fun _ => 0#8) 0 ls bs k
theorem join_all (m : Nat → BitVec 8) (n : Nat) (ls : Nat → Nat) (bs : Nat → Nat → BitVec 8) : ∀ k j, j < n + sumL ls k → joinF m n ls bs k j = catF m n (allF ls bs k) j
  | 0, j, h => by
    simp only [sumL] at h
    unfold catF
    rw [if_pos (by omega)]
    rfl
  | k + 1, j, h => by
    simp only [sumL] at h
    show catF (joinF m n ls bs k) (n + sumL ls k) (bs k) j = catF m n (catF (allF ls bs k) (0 + sumL ls k) (bs k)) j
    unfold catF
    by_cases h1 : j < n + sumL ls k
    · rw [if_pos h1, join_all m n ls bs k j h1]
      unfold catF
      by_cases h2 : j < n
      · rw [if_pos h2, if_pos h2]
      · rw [if_neg h2, if_neg h2, if_pos (by omega)]
    · rw [if_neg h1, if_neg (by omega), if_neg (by omega), show j - (n + sumL ls k) = j - n - (0 + sumL ls k) by omega]
theorem tagF_congr (l : Nat) (key m m' : Nat → BitVec 8) (n : Nat) (h : ∀ j, j < n → m j = m' j) : tagF l key m n = tagF l key m' n := by
  unfold tagF
  rw [shaF_congr (catF (maskF (readyF l key) 54#8) 64 m) (catF (maskF (readyF l key) 54#8) 64 m') (64 + n) (fun j hj => by
    unfold catF
    split
    · rfl
    · exact h _ (by omega))]
theorem readyF_congr (l : Nat) (key key' : Nat → BitVec 8) (h : ∀ j, j < l → key j = key' j) : readyF l key = readyF l key' := by
  funext j
  unfold readyF
  rw [shaF_congr key key' l h]
  split
  · rfl
  · split
    · exact h j ‹_›
    · rfl
theorem tagF_key (l : Nat) (key key' m : Nat → BitVec 8) (n : Nat) (h : ∀ j, j < l → key j = key' j) : tagF l key m n = tagF l key' m n := by
  unfold tagF
  rw [readyF_congr l key key' h]
set_option maxRecDepth 20000 in
set_option maxHeartbeats 1000000 in
theorem Tag_any (v pv : Value) (l k : Nat) (key : Nat → BitVec 8) (us : Nat → Value) (ls : Nat → Nat) (bs : Nat → Nat → BitVec 8) (w : World) (h : BV v l key w) (hP : Parts pv k us ls bs w) (hC : TabC w) (hl : l ≤ 140737488351232) (hk : k ≤ 140737488351232) (hN : sumL ls k < 576460752303423488) :
    Calls Tryd.prog 10 #[v, pv] w fun e w' => e = .returned (.agg (row 32 (yv (tagF l key (allF ls bs k) (sumL ls k)))).toArray) ∧ Below w.heap.size w w' := by
  have hz := zero24
  have HR0 := hideit (RowAt.new w 32 (yv fun _ => 0#8) 23)
  have HE0 : Ext w (w.alloc (.cells (row 32 (yv fun _ => 0#8)).toArray 23)) := (Below.refl _ _).alloc (Nat.le_refl _) _
  have hbg := hideit (begin_any v l key _ (h.ext HE0) (hC.ext HE0) hl)
  have HP := hideit (hP.ext HE0)
  have HC := hideit (hC.ext HE0)
  replace HE0 := hideit HE0
  clear h hP hC
  obtain ⟨R, hR⟩ : ∃ R, R = tagF l key (allF ls bs k) (sumL ls k) := ⟨_, rfl⟩
  rw [← hR]
  replace hR := hideit hR
  go_enter Tryd.func10, Tryd.ntmps10
  go_upto_region 1 with (fail)
  generalize w.alloc (.cells (row 32 (yv fun _ => 0#8)).toArray 23) = w1 at *
  refine wp_region_lit ?_
  refine wpList_run rfl v (by simp [go_sem]) ?_
  simp only [Act.put, List.setIfInBounds_toArray, List.set_cons_zero, List.set_cons_succ]
  refine wpList_call rfl (by simp [go_sem]) (hbg.out.mono ?_)
  rintro e w2 ⟨c1, c2, _, _, _, rfl, h1, h2, hE2⟩
  refine ⟨_, rfl, ?_⟩
  simp only [Act.put, List.setIfInBounds_toArray, List.set_cons_zero, List.set_cons_succ]
  refine wpList_run rfl pv (by simp [go_sem]) ?_
  simp only [Act.put, List.setIfInBounds_toArray, List.set_cons_zero, List.set_cons_succ]
  have ht := tag_any c1 c2 64 64 k _ _ pv us ls bs w2 h1 h2 (HP.out.ext hE2) (HC.out.ext hE2) hk (by omega) (by omega)
  have hRR : shaF (catF (maskF (readyF l key) 92#8) 64 (shaF (joinF (maskF (readyF l key) 54#8) 64 ls bs k) (64 + sumL ls k))) (64 + 32) = R := by
    rw [hR.out]
    unfold tagF
    rw [shaF_congr _ _ _ (join_all (maskF (readyF l key) 54#8) 64 ls bs k)]
  rw [hRR] at ht
  replace ht := hideit ht
  have HR2 := hideit (HR0.out.carry hE2)
  have HE2 := hideit (Ext.trans HE0.out hE2)
  clear hRR h1 h2 hE2 hbg HP HC HR0 HE0
  refine wpList_call rfl (by simp [go_sem]) (ht.out.mono ?_)
  rintro e w3 ⟨rfl, hw3⟩
  refine ⟨_, rfl, ?_⟩
  simp only [Act.put, List.setIfInBounds_toArray, List.set_cons_zero, List.set_cons_succ]
  have HR3 := hideit (HR2.out.carry hw3)
  have HE3 := hideit (Ext.trans HE2.out hw3)
  clear ht hw3 HR2 HE2
  refine wpList_store_mid rfl 23 (.tmp 4) (.tmp 8) rfl _ 0 (row 32 (yv R)).toArray rfl rfl (by rw [row_size]; exact HR3.out.there) (by rw [row_size]; exact info24) (row_one fun _ _ => rfl) ?_
  go_wp2
  exact bodyPost_ret (ret_row Tryd.results10 rfl (HR3.out.cells (g' := yv R)) Tryd.underlying23 rfl info24) rfl ⟨rfl, below_setCells _ (Nat.le_refl _) _ _ _ HE3.out⟩
/-- the example's key, message -/
def jefK (j : Nat) : BitVec 8 := bT [74, 101, 102, 101] j
def jefA (j : Nat) : BitVec 8 := bT [119, 104, 97, 116, 32, 100, 111, 32, 121, 97, 32] j
def jefB (j : Nat) : BitVec 8 := bT [119, 97, 110, 116, 32, 102, 111, 114, 32, 110, 111, 116, 104, 105, 110, 103, 63] j
def jefL (i : Nat) : Nat := if i = 0 then 11 else 17
def jefP (i : Nat) : Nat → BitVec 8 := if i = 0 then jefA else jefB
theorem jef_in : ∀ j, j < 92 → catF (maskF (readyF 4 jefK) 54#8) 64 (allF jefL jefP 2) j = jefI j := by
  have h64 : ¬ (64 < 4) := by decide
  have h1 : ∀ j, readyF 4 jefK j = if j < 4 then jefK j else 0#8 := fun j => by unfold readyF; rw [if_neg h64]
  have h2 : ∀ j, catF (maskF (readyF 4 jefK) 54#8) 64 (allF jefL jefP 2) j = catF (fun j => xE8 (if j < 4 then jefK j else 0#8) 54#8) 64 (allF jefL jefP 2) j := fun j => by
    unfold catF maskF
    rw [h1]
  intro j hj
  rw [h2]
  revert j
  decide +kernel
theorem jef_out : ∀ j, j < 64 → maskF (readyF 4 jefK) 92#8 j = jefO j := by
  have h64 : ¬ (64 < 4) := by decide
  have h1 : ∀ j, readyF 4 jefK j = if j < 4 then jefK j else 0#8 := fun j => by unfold readyF; rw [if_neg h64]
  intro j hj
  unfold maskF
  rw [h1]
  revert j
  decide +kernel
theorem jef_hi : ∀ j, j < 32 → jefD j = jefO (64 + j) := by decide +kernel
theorem jef_tag : tagF 4 jefK (allF jefL jefP 2) (sumL jefL 2) = shaF jefO 96 := by
  unfold tagF
  rw [show 64 + sumL jefL 2 = 92 from rfl, shaF_congr _ jefI 92 jef_in]
  refine shaF_congr _ _ 96 fun j hj => ?_
  unfold catF
  by_cases h : j < 64
  · rw [if_pos h, jef_out j h]
  · rw [if_neg h, jef_inner (j - 64) (by omega), jef_hi (j - 64) (by omega), show 64 + (j - 64) = j by omega]
end Go.Proofs.YthgflnjeojhgkaaDoor
