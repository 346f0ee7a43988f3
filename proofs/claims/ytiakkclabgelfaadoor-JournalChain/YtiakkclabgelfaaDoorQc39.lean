/-
  What a plan's block says: there and back. What Blocks made, Parse takes: there and back.
-/
import Derived.Test.YtiakkclabgelfaaDoorQc38
namespace Go.Proofs.YtiakkclabgelfaaDoor
set_option maxRecDepth 20000
open Go.RowKit Go.BigFrame
theorem byB_nat (x : BitVec 64) (j : Nat) : (byB x j).toNat = x.toNat / 2 ^ (8 * j) % 256 := by
  unfold byB
  rw [BitVec.toNat_setWidth, BitVec.toNat_ushiftRight, Nat.shiftRight_eq_div_pow]
theorem le_by (g : Nat → BitVec 8) (x : BitVec 64) (h : ∀ j, j < 8 → g j = byB x j) : leN g 8 = x := by
  apply BitVec.eq_of_toNat_eq
  rw [(leN_nat g 8 (by omega)).1]
  have e0 := byB_nat x 0
  have e1 := byB_nat x 1
  have e2 := byB_nat x 2
  have e3 := byB_nat x 3
  have e4 := byB_nat x 4
  have e5 := byB_nat x 5
  have e6 := byB_nat x 6
  have e7 := byB_nat x 7
  have hx := x.isLt
  simp only [leS, h 0 (by omega), h 1 (by omega), h 2 (by omega), h 3 (by omega), h 4 (by omega), h 5 (by omega), h 6 (by omega), h 7 (by omega), e0, e1, e2, e3, e4, e5, e6, e7]
  clear e0 e1 e2 e3 e4 e5 e6 e7 h
  generalize x.toNat = q at *
  omega
theorem le_by2 (g : Nat → BitVec 8) (x : BitVec 64) (h : ∀ j, j < 2 → g j = byB x j) (hx : x.toNat < 65536) : leN g 2 = x := by
  apply BitVec.eq_of_toNat_eq
  rw [(leN_nat g 2 (by omega)).1]
  have e0 := byB_nat x 0
  have e1 := byB_nat x 1
  simp only [leS, h 0 (by omega), h 1 (by omega), e0, e1]
  clear e0 e1 h
  generalize x.toNat = q at *
  omega
theorem le_by4 (g : Nat → BitVec 8) (x : BitVec 64) (h : ∀ j, j < 4 → g j = byB x j) (hx : x.toNat < 4294967296) : leN g 4 = x := by
  apply BitVec.eq_of_toNat_eq
  rw [(leN_nat g 4 (by omega)).1]
  have e0 := byB_nat x 0
  have e1 := byB_nat x 1
  have e2 := byB_nat x 2
  have e3 := byB_nat x 3
  simp only [leS, h 0 (by omega), h 1 (by omega), h 2 (by omega), h 3 (by omega), e0, e1, e2, e3]
  clear e0 e1 e2 e3 h
  generalize x.toNat = q at *
  omega
section
variable (x t : BitVec 64) (n : Nat) (bs : Nat → Int)
theorem planF_name (j : Nat) (hj : j < 4) : planF x t n bs j = labF sPL j := by
  unfold planF padF catF begF catF
  rw [if_pos (by omega), if_pos (by omega), if_pos hj]
theorem planF_num (j : Nat) (hj : j < 8) : planF x t n bs (4 + j) = byB x j := by
  unfold planF padF catF begF catF
  rw [if_pos (by omega), if_pos (by omega), if_neg (by omega), show 4 + j - 4 = j by omega]
theorem planF_list (j : Nat) (hj : j < 10 + 4 * n) : planF x t n bs (12 + j) = plB t n bs j := by
  unfold planF padF
  rw [if_pos (by omega)]
  unfold catF
  rw [if_neg (by omega), show 12 + j - 12 = j by omega]
theorem planF_rest (j : Nat) (hj : 22 + 4 * n ≤ j) : planF x t n bs j = 0#8 := by
  unfold planF padF
  rw [if_neg (by omega)]
theorem plB_cnt (j : Nat) (hj : j < 2) : plB t n bs j = byB (BitVec.ofNat 64 n) j := by
  unfold plB catF
  rw [if_pos (by omega), if_pos hj]
theorem plB_trn (j : Nat) (hj : j < 8) : plB t n bs (2 + j) = byB t j := by
  unfold plB catF
  rw [if_pos (by omega), if_neg (by omega), show 2 + j - 2 = j by omega]
theorem plB_num (i j : Nat) (hj : j < 4) : plB t n bs (10 + (4 * i + j)) = byB (bW (bs i)) j := by
  unfold plB catF bsF
  rw [if_neg (by omega), show 10 + (4 * i + j) - 10 = 4 * i + j by omega, show (4 * i + j) / 4 = i by omega, show (4 * i + j) % 4 = j by omega]
theorem nP_plan : nP (planF x t n bs) = x := le_by _ x fun j hj => planF_num x t n bs j hj
theorem cP_plan (hn : n ≤ 64) : cP (planF x t n bs) = n := by
  have h : leN (shF (planF x t n bs) 12) 2 = BitVec.ofNat 64 n := le_by2 _ _ (fun j hj => (planF_list x t n bs j (by omega)).trans (plB_cnt t n bs j hj)) (by rw [BitVec.toNat_ofNat]; omega)
  unfold cP
  rw [h, BitVec.toNat_ofNat]
  omega
theorem tP_plan : tP (planF x t n bs) = t := le_by _ t fun j hj => by
  show planF x t n bs (14 + j) = byB t j
  rw [show 14 + j = 12 + (2 + j) by omega, planF_list x t n bs (2 + j) (by omega), plB_trn t n bs j hj]
theorem bP_plan (i : Nat) (hi : i < n) (hb : okB (bs i)) : bP (planF x t n bs) i = bs i := by
  have hw : (bW (bs i)).toNat = (bs i).toNat := by
    unfold bW
    rw [BitVec.toNat_ofNat]
    have := hb.1
    have := hb.2
    omega
  have h : leN (shF (shF (planF x t n bs) 22) (4 * i)) 4 = bW (bs i) := le_by4 _ _ (fun j hj => by
    show planF x t n bs (22 + (4 * i + j)) = byB (bW (bs i)) j
    rw [show 22 + (4 * i + j) = 12 + (10 + (4 * i + j)) by omega, planF_list x t n bs _ (by omega), plB_num t n bs i j hj]) (by
    rw [hw]
    have := hb.2
    omega)
  unfold bP gtI
  rw [h, hw]
  have := hb.1
  omega
end
theorem rbs_congr {n : Nat} {bs bs' : Nat → Int} (e : ∀ i, i < n → bs i = bs' i) (h : rbs n bs) : rbs n bs' := fun i hi => by
  rw [← e i hi]
  refine ⟨(h i hi).1, fun j hj => ?_⟩
  rw [← e j (by omega)]
  exact (h i hi).2 j hj
theorem mayP_congr {x t : BitVec 64} {n : Nat} {bs bs' : Nat → Int} (e : ∀ i, i < n → bs i = bs' i) (h : mayP x t n bs) : mayP x t n bs' := ⟨h.1, h.2.1, h.2.2.1, h.2.2.2.1, rbs_congr e h.2.2.2.2⟩
theorem isPl_plan {x t : BitVec 64} {n : Nat} {bs : Nat → Int} (h : mayP x t n bs) : isPl 512 (planF x t n bs) := by
  have hn := h.2.2.1
  refine ⟨rfl, decide_eq_true ⟨rfl, fun j hj => planF_name x t n bs j hj⟩, by rw [cP_plan x t n bs hn]; omega, ?_, ?_⟩
  · rw [cP_plan x t n bs hn, zB_spec]
    intro i hi
    exact planF_rest x t n bs _ (by omega)
  · rw [nP_plan, tP_plan, cP_plan x t n bs hn]
    exact mayP_congr (fun i hi => (bP_plan x t n bs i hi (h.2.2.2.2 i hi).1).symm) h
end Go.Proofs.YtiakkclabgelfaaDoor
namespace Go.Proofs.YtiakkclabgelfaaDoor
set_option maxRecDepth 20000
open Go.RowKit Go.BigFrame
theorem tnB_bit (t : BitVec 64) (k : Nat) : tnB t k = t.getLsbD k := by
  unfold tnB
  have e : (t >>> k) &&& 1#64 = if t.getLsbD k = true then 1#64 else 0#64 := by
    apply BitVec.eq_of_getLsbD_eq
    intro i hi
    rw [BitVec.getLsbD_and, BitVec.getLsbD_ushiftRight]
    by_cases h0 : i = 0
    · subst h0
      rw [Nat.add_zero]
      cases t.getLsbD k <;> simp
    · have h1 : (1#64).getLsbD i = false := by
        rw [BitVec.getLsbD_one]
        simp [h0]
      rw [h1, Bool.and_false]
      cases t.getLsbD k
      · simp
      · simp only [if_pos]
        exact h1.symm
  rw [e]
  cases t.getLsbD k <;> simp
theorem tmK_bit (ls : Nat → Nat) (fs : Nat → Nat → BitVec 8) : ∀ n, n ≤ 64 → ∀ i, i < 64 → (tmK ls fs n).getLsbD i = (decide (i < n) && like (ls i) (fs i))
  | 0, _, i, _ => by simp [tmK]
  | n + 1, hn, i, hi => by
    have ih := tmK_bit ls fs n (by omega) i hi
    have one : (1#64 <<< n).getLsbD i = decide (i = n) := by
      rw [BitVec.getLsbD_shiftLeft, BitVec.getLsbD_one]
      by_cases e : i = n
      · subst e
        simp [hi]
      · by_cases e2 : i < n
        · simp [e, e2]
        · have : ¬ i - n = 0 := by omega
          simp [e, this]
    unfold tmK
    by_cases hl : like (ls n) (fs n) = true
    · rw [if_pos hl, BitVec.getLsbD_or, ih, one]
      by_cases e : i = n
      · subst e
        simp [hl]
      · by_cases e2 : i < n
        · simp [e, e2, show i < n + 1 by omega]
        · simp [e, e2, show ¬ i < n + 1 by omega]
    · rw [if_neg hl, ih]
      by_cases e : i = n
      · subst e
        simp [hl]
      · by_cases e2 : i < n
        · simp [e2, show i < n + 1 by omega]
        · simp [e2, show ¬ i < n + 1 by omega]
theorem tnB_tmK (ls : Nat → Nat) (fs : Nat → Nat → BitVec 8) (n : Nat) (hn : n ≤ 64) (i : Nat) (hi : i < n) : tnB (tmK ls fs n) i = like (ls i) (fs i) := by
  rw [tnB_bit, tmK_bit ls fs n hn i (by omega)]
  simp [hi]
theorem tmK_congr {ls ls' : Nat → Nat} {fs fs' : Nat → Nat → BitVec 8} : ∀ n, (∀ i, i < n → like (ls i) (fs i) = like (ls' i) (fs' i)) → tmK ls fs n = tmK ls' fs' n
  | 0, _ => rfl
  | n + 1, h => by
    unfold tmK
    rw [tmK_congr n fun i hi => h i (by omega), h n (by omega)]
theorem like_small {l : Nat} {f : Nat → BitVec 8} (h : like l f = true) : f 0 = 80#8 ∨ f 0 = 68#8 ∨ f 0 = 77#8 := by
  have key : ∀ i, pre4 (nmS i) l f = true → f 0 = labF (nmS i) 0 := fun i hp => by
    unfold pre4 eqB at hp
    rw [Bool.and_eq_true] at hp
    exact (of_decide_eq_true hp.2).2 0 (by decide)
  unfold like at h
  rw [Bool.or_eq_true, Bool.or_eq_true] at h
  rcases h with (h | h) | h
  · exact .inl ((key 0 h).trans (by decide))
  · exact .inr (.inl ((key 1 h).trans (by decide)))
  · exact .inr (.inr ((key 2 h).trans (by decide)))
theorem unF_stF (t : BitVec 64) (k : Nat) (f : Nat → BitVec 8) (h : tnB t k = like 512 f) : unF t k 512 (stF 512 f) = f := by
  unfold unF stF
  by_cases hl : like 512 f = true
  · rw [if_pos ⟨h.trans hl, by decide⟩, if_pos hl]
    funext j
    by_cases e : j = 0
    · subst e
      simp only [if_pos]
      rcases like_small hl with e | e | e <;> rw [e] <;> decide
    · simp only [if_neg e]
  · rw [if_neg fun q => hl (h.symm.trans q.1), if_neg hl]
theorem planF_congr {x t : BitVec 64} {n : Nat} {bs bs' : Nat → Int} (e : ∀ i, i < n → bs i = bs' i) : planF x t n bs = planF x t n bs' := by
  unfold planF
  refine pad_cat (by omega : 22 + 4 * n = 12 + (10 + 4 * n)) fun j hj => ?_
  unfold plB catF
  by_cases h : j < 10
  · rw [if_pos h, if_pos h]
  · rw [if_neg h, if_neg h]
    unfold bsF
    rw [e _ (by omega)]
theorem bkF_congr {x t : BitVec 64} {n : Nat} {bs bs' : Nat → Int} {fs fs' : Nat → Nat → BitVec 8} (e : ∀ i, i < n → bs i = bs' i) (ef : ∀ i, i < n → fs i = fs' i) (i : Nat) (hi : i < n + 1) : bkF x t n bs fs i = bkF x t n bs' fs' i := by
  unfold bkF
  by_cases h : i = 0
  · rw [if_pos h, if_pos h, planF_congr e]
  · rw [if_neg h, if_neg h, ef _ (by omega)]
theorem trF_congr {x t : BitVec 64} {n : Nat} {bs bs' : Nat → Int} {fs fs' : Nat → Nat → BitVec 8} (e : ∀ i, i < n → bs i = bs' i) (ef : ∀ i, i < n → fs i = fs' i) (i : Nat) (hi : i < n + 2) : trF x t n bs fs i = trF x t n bs' fs' i := by
  unfold trF
  by_cases h : i = n + 1
  · rw [if_pos h, if_pos h, joinF_congr _ _ _ _ fun j hj => bkF_congr e ef j hj]
  · rw [if_neg h, if_neg h, bkF_congr e ef i (by omega)]
theorem tx_back {x : BitVec 64} {n m : Nat} {bs : Nat → Int} {ls ls' : Nat → Nat} {fs fs' : Nat → Nat → BitVec 8} (hok : okT x n bs ls fs) (hm : n + 2 ≤ m) (hl : ∀ i, i < n + 2 → ls' i = 512) (hf : ∀ i, i < n + 2 → fs' i = trF x (tmK ls fs n) n bs fs i) :
    hasP x m ls' fs' ∧ isTx x ls' fs' ∧ cP (fs' 0) = n ∧ (∀ i, i < n → bP (fs' 0) i = bs i) ∧ ∀ i, i < n → unL ls' fs' i = fs i := by
  have hmay := hok.1
  have hn := hmay.2.2.1
  have hlen : ∀ i, i < n → ls i = 512 := fun i hi => Classical.byContradiction fun h => hok.2 ⟨i, hi, h⟩
  have h0 : fs' 0 = planF x (tmK ls fs n) n bs := by
    rw [hf 0 (by omega)]
    unfold trF bkF
    rw [if_neg (by omega), if_pos rfl]
  have hc : cP (fs' 0) = n := by rw [h0, cP_plan _ _ _ _ hn]
  have hb : ∀ i, i < n → bP (fs' 0) i = bs i := fun i hi => by rw [h0, bP_plan _ _ _ _ i hi (hmay.2.2.2.2 i hi).1]
  have hu : ∀ i, i < n → unL ls' fs' i = fs i := fun i hi => by
    unfold unL
    have e1 : fs' (i + 1) = stF 512 (fs i) := by
      rw [hf (i + 1) (by omega)]
      unfold trF bkF
      rw [if_neg (by omega), if_neg (by omega), Nat.add_sub_cancel]
    rw [h0, tP_plan, hl (i + 1) (by omega), e1]
    exact unF_stF _ _ _ (by rw [tnB_tmK ls fs n hn i hi, hlen i hi])
  have htm : tmK (fun i => ls' (i + 1)) (unL ls' fs') n = tmK ls fs n := tmK_congr n fun i hi => by
    rw [hu i hi, hlen i hi]
    show like (ls' (i + 1)) _ = _
    rw [hl (i + 1) (by omega)]
  refine ⟨⟨by omega, ?_, by rw [h0, nP_plan], by rw [hc]; exact hm⟩, ⟨⟨?_, ?_⟩, rfl, fun i hi => ?_⟩, hc, hb, hu⟩
  · rw [h0, hl 0 (by omega)]
    exact isPl_plan hmay
  · rw [hc, htm]
    exact mayP_congr (fun i hi => (hb i hi).symm) hmay
  · rw [hc]
    rintro ⟨i, hi, h⟩
    exact h (hl (i + 1) (by omega))
  · rw [hc] at hi ⊢
    rw [htm, hl i hi]
    refine decide_eq_true ⟨rfl, fun j _ => ?_⟩
    rw [hf i hi, trF_congr (fun i hi => hb i hi) (fun i hi => hu i hi) i hi]
end Go.Proofs.YtiakkclabgelfaaDoor
