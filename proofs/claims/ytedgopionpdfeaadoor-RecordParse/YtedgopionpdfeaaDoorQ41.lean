/-
  A transaction, by the program's look and by the document's. Lists that are the same.
-/
import Derived.Test.YtedgopionpdfeaaDoorQ40
import Derived.Test.YtedgopionpdfeaaDoorQ37
namespace Go.Proofs.YtedgopionpdfeaaDoor
open Go.RowKit Go.BigFrame
set_option linter.unusedVariables false
theorem leN_congr (f g : Nat → BitVec 8) : ∀ n, (∀ j, j < n → f j = g j) → leN f n = leN g n
  | 0, _ => rfl
  | n + 1, h => by
    unfold leN
    rw [leN_congr f g n fun j hj => h j (by omega), h n (by omega)]
theorem tP_congr {f g : Nat → BitVec 8} (h : ∀ j, j < 512 → f j = g j) : tP f = tP g := leN_congr _ _ 8 fun j hj => h (14 + j) (by omega)
/-- as the document turns it back -/
def xF (t : BitVec 64) (i : Nat) (g : Nat → BitVec 8) : Nat → BitVec 8 := if tnB t i = true then tuF g else g
/-- the document's look at the blocks behind a plan -/
def okS (t : BitVec 64) (n : Nat) (ls : Nat → Nat) (fs : Nat → Nat → BitVec 8) : Prop := ∀ i, i < n → ls (i + 1) = 512 ∧ tnB t i = like 512 (xF t i (fs (i + 1)))
/-- .. and at the seal -/
def okE (x : BitVec 64) (n : Nat) (ls : Nat → Nat) (fs : Nat → Nat → BitVec 8) : Prop := eqB (ls (n + 1)) 512 (fs (n + 1)) (sealF x (allF (fun _ => 512) fs (n + 1)) (sumL (fun _ => 512) (n + 1))) = true
theorem b8_set : ∀ a : BitVec 8, (a &&& 127#8) ||| 128#8 = a → a &&& 127#8 = a ^^^ 128#8 := by decide
theorem b8_low : ∀ a : BitVec 8, (a ^^^ 128#8 = 80#8 ∨ a ^^^ 128#8 = 68#8 ∨ a ^^^ 128#8 = 77#8) → a &&& 127#8 = a ^^^ 128#8 ∧ (a &&& 127#8) ||| 128#8 = a := by decide
theorem un_of {t : BitVec 64} {i : Nat} {g : Nat → BitVec 8} (h : tnB t i = like 512 (xF t i g)) : unF t i 512 g = xF t i g ∧ ∀ j, stF 512 (unF t i 512 g) j = g j := by
  by_cases ht : tnB t i = true
  · have hx : xF t i g = tuF g := if_pos ht
    rw [hx] at h ⊢
    have hl := h.symm.trans ht
    have h0 := b8_low (g 0) (like_small hl)
    have hu : unF t i 512 g = tuF g := by
      unfold unF tuF
      rw [if_pos ⟨ht, by decide⟩]
      funext j
      by_cases e : j = 0
      · simp only [if_pos e]
        exact h0.1
      · simp only [if_neg e]
    refine ⟨hu, fun j => ?_⟩
    rw [hu]
    unfold stF
    rw [if_pos hl]
    by_cases e : j = 0
    · subst e
      show (g 0 ^^^ 128#8) ||| 128#8 = g 0
      rw [← h0.1]
      exact h0.2
    · simp only [if_neg e]
      unfold tuF
      rw [if_neg e]
  · have hx : xF t i g = g := if_neg ht
    rw [hx] at h ⊢
    have hu : unF t i 512 g = g := by
      unfold unF
      rw [if_neg fun q => ht q.1]
    refine ⟨hu, fun j => ?_⟩
    rw [hu]
    unfold stF
    rw [if_neg fun q => ht (h.trans q)]
theorem un_back {t : BitVec 64} {i : Nat} {g : Nat → BitVec 8} (h : tnB t i = like 512 (unF t i 512 g)) (hs : ∀ j, j < 512 → stF 512 (unF t i 512 g) j = g j) : tnB t i = like 512 (xF t i g) := by
  by_cases ht : tnB t i = true
  · have hl := h.symm.trans ht
    have h0 := hs 0 (by decide)
    have hu0 : unF t i 512 g = fun j => if j = 0 then g 0 &&& 127#8 else g j := by
      unfold unF
      rw [if_pos ⟨ht, by decide⟩]
    have e0 : (g 0 &&& 127#8) ||| 128#8 = g 0 := by
      have : stF 512 (unF t i 512 g) 0 = unF t i 512 g 0 ||| 128#8 := by
        show (if like 512 (unF t i 512 g) = true then fun j => if j = 0 then unF t i 512 g 0 ||| 128#8 else unF t i 512 g j else unF t i 512 g) 0 = _
        rw [if_pos hl]
        rfl
      rw [this, hu0] at h0
      exact h0
    have hu : unF t i 512 g = xF t i g := by
      rw [hu0, show xF t i g = tuF g from if_pos ht]
      funext j
      unfold tuF
      by_cases e : j = 0
      · simp only [if_pos e]
        exact b8_set _ e0
      · simp only [if_neg e]
    rw [← hu]
    exact h
  · have hu : unF t i 512 g = xF t i g := by
      rw [show xF t i g = g from if_neg ht]
      unfold unF
      rw [if_neg fun q => ht q.1]
    rw [← hu]
    exact h
theorem tm_ext {t : BitVec 64} {ls : Nat → Nat} {fs : Nat → Nat → BitVec 8} {n : Nat} (hn : n ≤ 64) (hz : t >>> n = 0#64) (h : ∀ i, i < n → tnB t i = like (ls i) (fs i)) : tmK ls fs n = t := by
  apply BitVec.eq_of_getLsbD_eq
  intro i hi
  rw [tmK_bit ls fs n hn i hi]
  by_cases e : i < n
  · rw [decide_eq_true e, Bool.true_and, ← h i e, tnB_bit]
  · rw [decide_eq_false e, Bool.false_and]
    have := congrArg (fun y => y.getLsbD (i - n)) hz
    simp only [BitVec.getLsbD_ushiftRight, BitVec.getLsbD_zero] at this
    rw [show n + (i - n) = i by omega] at this
    exact this.symm
theorem allF_bytes {fs gs : Nat → Nat → BitVec 8} : ∀ K, (∀ i, i < K → ∀ j, j < 512 → fs i j = gs i j) → ∀ p, p < sumL (fun _ => 512) K → allF (fun _ => 512) fs K p = allF (fun _ => 512) gs K p
  | 0, _, p, hp => absurd hp (Nat.not_lt_zero _)
  | K + 1, h, p, hp => by
    rw [allF_succ, allF_succ]
    unfold catF
    rw [sumL_succ] at hp
    by_cases c : p < sumL (fun _ => 512) K
    · rw [if_pos c, if_pos c, allF_bytes K (fun i hi => h i (by omega)) p c]
    · rw [if_neg c, if_neg c, h K (by omega) _ (by omega)]
theorem eqB_symm {n m : Nat} {f g : Nat → BitVec 8} (h : eqB n m f g = true) : eqB m n g f = true := by
  obtain ⟨h1, h2⟩ := of_decide_eq_true h
  exact decide_eq_true ⟨h1.symm, fun j hj => (h2 j (by omega)).symm⟩
/-- a transaction, by the program's look and by the document's -/
theorem tx_iff {x : BitVec 64} {ls : Nat → Nat} {fs : Nat → Nat → BitVec 8} (hp : isPl (ls 0) (fs 0)) (hx : nP (fs 0) = x) : isTx x ls fs ↔ okS (tP (fs 0)) (cP (fs 0)) ls fs ∧ okE x (cP (fs 0)) ls fs := by
  have hl0 := hp.1
  have hmay := hp.2.2.2.2
  rw [hx] at hmay
  have hn := hmay.2.2.1
  obtain ⟨n, hnn⟩ : ∃ n, cP (fs 0) = n := ⟨_, rfl⟩
  obtain ⟨t, htt⟩ : ∃ t, tP (fs 0) = t := ⟨_, rfl⟩
  rw [hnn, htt] at hmay
  rw [hnn] at hn
  have hpl : ∀ j, j < 512 → planF x t n (bP (fs 0)) j = fs 0 j := by
    have := (isPl_iff (fs 0)).1 (by rw [← hl0]; exact hp)
    have := (of_decide_eq_true ((bS_list _ _ _ _).1 this.2.2.2.2)).2
    rwa [hx, hnn, htt] at this
  have hseal : ∀ (T : BitVec 64) (us : Nat → Nat → BitVec 8), (∀ i, i < n + 1 → ∀ j, j < 512 → bkF x T n (bP (fs 0)) us i j = fs i j) → trF x T n (bP (fs 0)) us (n + 1) = sealF x (allF (fun _ => 512) fs (n + 1)) (sumL (fun _ => 512) (n + 1)) := fun T us h => by
    unfold trF
    rw [if_pos rfl]
    unfold sealF
    rw [shaF_congr _ _ _ (allF_bytes (n + 1) h)]
  unfold isTx
  rw [hnn, htt]
  constructor
  · rintro ⟨hok, _, hs⟩
    have hlen : ∀ i, i < n → ls (i + 1) = 512 := fun i hi => Classical.byContradiction fun h => hok.2 ⟨i, hi, h⟩
    have hsb : ∀ i, i < n + 2 → ∀ j, j < 512 → trF x (tmK (fun i => ls (i + 1)) (unL ls fs) n) n (bP (fs 0)) (unL ls fs) i j = fs i j := fun i hi => (of_decide_eq_true (hs i hi)).2
    have htr : ∀ i, i < n + 1 → trF x (tmK (fun i => ls (i + 1)) (unL ls fs) n) n (bP (fs 0)) (unL ls fs) i = bkF x (tmK (fun i => ls (i + 1)) (unL ls fs) n) n (bP (fs 0)) (unL ls fs) i := fun i hi => by
      unfold trF
      rw [if_neg (by omega)]
    have hT : tmK (fun i => ls (i + 1)) (unL ls fs) n = t := by
      have h0 := hsb 0 (by omega)
      rw [htr 0 (by omega)] at h0
      have := tP_congr h0
      rwa [show bkF x (tmK (fun i => ls (i + 1)) (unL ls fs) n) n (bP (fs 0)) (unL ls fs) 0 = planF x (tmK (fun i => ls (i + 1)) (unL ls fs) n) n (bP (fs 0)) from rfl, tP_plan, htt] at this
    have hun : ∀ i, i < n → unL ls fs i = unF t i 512 (fs (i + 1)) := fun i hi => by
      unfold unL
      rw [htt, hlen i hi]
    refine ⟨fun i hi => ⟨hlen i hi, un_back ?_ fun j hj => ?_⟩, ?_⟩
    · have := tnB_tmK (fun i => ls (i + 1)) (unL ls fs) n hn i hi
      rw [hT, hun i hi] at this
      rw [this]
      show like (ls (i + 1)) _ = _
      rw [hlen i hi]
    · have := hsb (i + 1) (by omega) j hj
      rw [htr (i + 1) (by omega)] at this
      rw [← this, ← hun i hi]
      unfold bkF
      rw [if_neg (by omega), Nat.add_sub_cancel]
    · have h1 := hs (n + 1) (by omega)
      rw [hseal _ _ fun i hi j hj => by rw [← htr i hi]; exact hsb i (by omega) j hj] at h1
      exact eqB_symm h1
  · rintro ⟨hS, hE⟩
    have hun : ∀ i, i < n → unL ls fs i = unF t i 512 (fs (i + 1)) := fun i hi => by
      unfold unL
      rw [htt, (hS i hi).1]
    have hT : tmK (fun i => ls (i + 1)) (unL ls fs) n = t := tm_ext hn hmay.2.2.2.1 fun i hi => by
      show _ = like (ls (i + 1)) (unL ls fs i)
      rw [(hS i hi).1, hun i hi, (un_of (hS i hi).2).1]
      exact (hS i hi).2
    have hbk : ∀ i, i < n + 1 → ∀ j, j < 512 → bkF x t n (bP (fs 0)) (unL ls fs) i j = fs i j := fun i hi j hj => by
      unfold bkF
      by_cases e : i = 0
      · rw [if_pos e, e]
        exact hpl j hj
      · rw [if_neg e, hun (i - 1) (by omega)]
        have := (un_of (hS (i - 1) (by omega)).2).2 j
        rw [show i - 1 + 1 = i by omega] at this ⊢
        exact this
    have hls : ∀ i, i < n + 2 → ls i = 512 := fun i hi => by
      by_cases e : i = 0
      · rw [e]; exact hl0
      · by_cases e2 : i = n + 1
        · rw [e2]; exact (of_decide_eq_true hE).1
        · have := (hS (i - 1) (by omega)).1
          rwa [show i - 1 + 1 = i by omega] at this
    rw [hT]
    refine ⟨⟨by rw [hT]; exact hmay, fun ⟨i, hi, h⟩ => h (hS i hi).1⟩, rfl, fun i hi => ?_⟩
    by_cases e : i = n + 1
    · rw [e, hseal _ _ hbk]
      exact eqB_symm hE
    · refine decide_eq_true ⟨(hls i hi).symm, fun j hj => ?_⟩
      unfold trF
      rw [if_neg e]
      exact hbk i (by omega) j hj
/-- what the redos are -/
theorem un_xF {ls : Nat → Nat} {fs : Nat → Nat → BitVec 8} (hS : okS (tP (fs 0)) (cP (fs 0)) ls fs) (i : Nat) (hi : i < cP (fs 0)) : unL ls fs i = xF (tP (fs 0)) i (fs (i + 1)) := by
  unfold unL
  rw [(hS i hi).1, (un_of (hS i hi).2).1]
end Go.Proofs.YtedgopionpdfeaaDoor
namespace Go.Proofs.YtedgopionpdfeaaDoor
open Go.RowKit Go.BigFrame
set_option linter.unusedVariables false
theorem convQ (v : Value) (l : Nat) (b : Nat → BitVec 8) (w : World) (h : PV v l b w) : (convert 34 9 v).run Tryd.prog w = .ok (.string (bS l b)) w := convP v l b w h
set_option maxRecDepth 20000 in
set_option maxHeartbeats 4000000 in
theorem sameb_any (v0 v1 : Value) (n : Nat) (us us' : Nat → Value) (ls : Nat → Nat) (fs : Nat → Nat → BitVec 8) (w : World) (hA : PL v0 n us ls fs w) (hB : PL v1 n us' ls fs w) (hn : n ≤ 5900000000000) : Calls Tryd.prog 11 #[v0, v1] w fun e w' => e = .returned (.bool true) ∧ Ext w w' := by
  obtain ⟨ao, ac, rfl⟩ := hA.form
  obtain ⟨bo, bc, rfl⟩ := hB.form
  replace hA := hideit hA
  replace hB := hideit hB
  replace hn := hideit hn
  have hE := hideit (Ext.refl w)
  go_enter Tryd.func11, Tryd.ntmps11
  go_upto_region 1 with (fail)
  refine wp_region_lit ?_
  refine wpList_run rfl (.slice ao n ac) (by simp [go_sem]) ?_
  simp only [Act.put, List.setIfInBounds_toArray, List.set_cons_zero, List.set_cons_succ]
  refine wpList_run rfl (.int .i64 (n : Int)) (by simp [go_sem]) ?_
  simp only [Act.put, List.setIfInBounds_toArray, List.set_cons_zero, List.set_cons_succ]
  refine wpList_run rfl (.slice bo n bc) (by simp [go_sem]) ?_
  simp only [Act.put, List.setIfInBounds_toArray, List.set_cons_zero, List.set_cons_succ]
  refine wpList_run rfl (.int .i64 (n : Int)) (by simp [go_sem]) ?_
  simp only [Act.put, List.setIfInBounds_toArray, List.set_cons_zero, List.set_cons_succ]
  refine wpList_run rfl (.bool false) (by simp [go_sem]) ?_
  simp only [Act.put, List.setIfInBounds_toArray, List.set_cons_zero, List.set_cons_succ]
  go_upto_region 3 with (fail)
  refine wp_region_lit ?_
  refine wpList_run rfl (.int .i64 0) (by simp [go_sem]) ?_
  simp only [Act.put, List.setIfInBounds_toArray, List.set_cons_zero, List.set_cons_succ]
  go_wp2
  go_loopw [5] (fun i X => ∃ k : Nat, k ≤ n ∧ i = .int .i64 (k : Int) ∧ Ext w X) (fun i _ => 6000000000000 - (intOf i).toNat)
  case atStart => exact ⟨0, Nat.zero_le _, rfl, Ext.refl _⟩
  case round =>
    obtain ⟨k, hk, rfl, hX⟩ := hrel
    clear hE
    by_cases hlt : k < n
    · have k1 : (k : Int) < (n : Int) := by omega
      have ek : IntKind.i64.wrap ((k : Int) + 1) = ((k + 1 : Nat) : Int) := by have := hn.out; rw [IntKind.wrap_i64]; omega
      obtain ⟨a, ha, _⟩ := hA.out.at k hlt
      obtain ⟨b, hb, _⟩ := hB.out.at k hlt
      have hL : Hid (∀ X, Ext wr.drew X → (X.cell? (a.add k) = some (us k) ∧ PV (us k) (ls k) (fs k) X) ∧ (X.cell? (b.add k) = some (us' k) ∧ PV (us' k) (ls k) (fs k) X)) := fun X hX' => by
        have hh := Ext.trans (Ext.draw hX) hX'
        have h1 := hA.out.ext hh
        have h2 := hB.out.ext hh
        obtain ⟨_, e1, q1⟩ := h1.at k hlt
        obtain ⟨_, e2, q2⟩ := h2.at k hlt
        rw [ha] at e1
        rw [hb] at e2
        injection e1 with e1
        injection e2 with e2
        subst e1
        subst e2
        exact ⟨⟨q1, h1.2 k hlt⟩, q2, h2.2 k hlt⟩
      subst ha
      subst hb
      replace hX := hideit hX
      replace hlt := hideit hlt
      go_upto_region 4 with (fail)
      refine wp_region_lit ?_
      refine wpList_run rfl (.int .i64 (k : Int)) (by simp [go_sem]) ?_
      simp only [Act.put, List.setIfInBounds_toArray, List.set_cons_zero, List.set_cons_succ]
      refine wpList_run rfl (.slice (some a) n ac) (by simp [go_sem]) ?_
      simp only [Act.put, List.setIfInBounds_toArray, List.set_cons_zero, List.set_cons_succ]
      refine wpList_run rfl (.int .i64 (n : Int)) (by simp [go_sem]) ?_
      simp only [Act.put, List.setIfInBounds_toArray, List.set_cons_zero, List.set_cons_succ]
      refine wpList_run rfl (.bool true) (by simp [go_sem, k1]) ?_
      simp only [Act.put, List.setIfInBounds_toArray, List.set_cons_zero, List.set_cons_succ]
      go_upto_region 6 with (fail)
      replace hX := hideit (Ext.draw hX.out)
      refine wp_region_lad (fun X => Ext wr.drew X) [(false, 0), (false, 1), (false, 2), (false, 3), (false, 4), (false, 5), (false, 6), (false, 7), (false, 8), (false, 9), (false, 10)] (by kernel_rfl) (by kernel_rfl) (by decide +kernel) (by decide +kernel) (by decide +kernel) (by decide +kernel) (Ext.refl _) ?_
      refine wpX_f _ (.slice (some a) n ac) rfl rfl (fun X _ => by simp [go_sem]) ?_
      simp only [List.getElem_toArray, List.getElem_cons_zero, Act.put, List.setIfInBounds_toArray, List.set_cons_zero, List.set_cons_succ]
      refine wpX_f _ (.int .i64 (k : Int)) rfl rfl (fun X _ => by simp [go_sem]) ?_
      simp only [List.getElem_toArray, List.getElem_cons_zero, List.getElem_cons_succ, Act.put, List.setIfInBounds_toArray, List.set_cons_zero, List.set_cons_succ]
      refine wpX_f _ (.pointer (some (a.add k))) rfl rfl (fun X _ => by simp [go_sem, k1]) ?_
      simp only [List.getElem_toArray, List.getElem_cons_zero, List.getElem_cons_succ, Act.put, List.setIfInBounds_toArray, List.set_cons_zero, List.set_cons_succ]
      refine wpX_f _ (us k) rfl rfl (fun X hX => (by have q := (hL.out X hX).1.1; simp [go_sem, q])) ?_
      simp only [List.getElem_toArray, List.getElem_cons_zero, List.getElem_cons_succ, Act.put, List.setIfInBounds_toArray, List.set_cons_zero, List.set_cons_succ]
      refine wpX_f _ (.string (bS (ls k) (fs k))) rfl rfl (fun X hX => (by have q := convQ _ _ _ X (hL.out X hX).1.2; simp [go_sem, q])) ?_
      simp only [List.getElem_toArray, List.getElem_cons_zero, List.getElem_cons_succ, Act.put, List.setIfInBounds_toArray, List.set_cons_zero, List.set_cons_succ]
      refine wpX_f _ (.slice (some b) n bc) rfl rfl (fun X _ => by simp [go_sem]) ?_
      simp only [List.getElem_toArray, List.getElem_cons_zero, List.getElem_cons_succ, Act.put, List.setIfInBounds_toArray, List.set_cons_zero, List.set_cons_succ]
      refine wpX_f _ (.int .i64 (k : Int)) rfl rfl (fun X _ => by simp [go_sem]) ?_
      simp only [List.getElem_toArray, List.getElem_cons_zero, List.getElem_cons_succ, Act.put, List.setIfInBounds_toArray, List.set_cons_zero, List.set_cons_succ]
      refine wpX_f _ (.pointer (some (b.add k))) rfl rfl (fun X _ => by simp [go_sem, k1]) ?_
      simp only [List.getElem_toArray, List.getElem_cons_zero, List.getElem_cons_succ, Act.put, List.setIfInBounds_toArray, List.set_cons_zero, List.set_cons_succ]
      refine wpX_f _ (us' k) rfl rfl (fun X hX => (by have q := (hL.out X hX).2.1; simp [go_sem, q])) ?_
      simp only [List.getElem_toArray, List.getElem_cons_zero, List.getElem_cons_succ, Act.put, List.setIfInBounds_toArray, List.set_cons_zero, List.set_cons_succ]
      refine wpX_f _ (.string (bS (ls k) (fs k))) rfl rfl (fun X hX => (by have q := convQ _ _ _ X (hL.out X hX).2.2; simp [go_sem, q])) ?_
      simp only [List.getElem_toArray, List.getElem_cons_zero, List.getElem_cons_succ, Act.put, List.setIfInBounds_toArray, List.set_cons_zero, List.set_cons_succ]
      refine wpX_f _ (.bool false) rfl rfl (fun X _ => by simp [go_sem]) ?_
      simp only [List.getElem_toArray, List.getElem_cons_zero, List.getElem_cons_succ, Act.put, List.setIfInBounds_toArray, List.set_cons_zero, List.set_cons_succ]
      refine wpX_nil ?_
      go_upto_region 5 with (fail)
      refine wp_region_lit ?_
      refine wpList_run rfl (.int .i64 (k : Int)) (by simp [go_sem]) ?_
      simp only [Act.put, List.setIfInBounds_toArray, List.set_cons_zero, List.set_cons_succ]
      refine wpList_run rfl (.int .i64 ((k + 1 : Nat) : Int)) (by simp [go_sem, ek]) ?_
      simp only [Act.put, List.setIfInBounds_toArray, List.set_cons_zero, List.set_cons_succ]
      refine wpList_run rfl (.int .i64 ((k + 1 : Nat) : Int)) (by simp [go_sem]) ?_
      simp only [Act.put, List.setIfInBounds_toArray, List.set_cons_zero, List.set_cons_succ]
      go_wp2
      refine ⟨⟨k + 1, by have := hlt.out; omega, rfl, hX.out⟩, by have := hlt.out; have := hn.out; simp [intOf]; omega⟩
    · obtain rfl : k = n := by omega
      have k1 : ¬ (k : Int) < (k : Int) := by omega
      replace hX := hideit hX
      go_upto_region 4 with (fail)
      refine wp_region_lit ?_
      refine wpList_run rfl (.int .i64 (k : Int)) (by simp [go_sem]) ?_
      simp only [Act.put, List.setIfInBounds_toArray, List.set_cons_zero, List.set_cons_succ]
      refine wpList_run rfl (.slice ao k ac) (by simp [go_sem]) ?_
      simp only [Act.put, List.setIfInBounds_toArray, List.set_cons_zero, List.set_cons_succ]
      refine wpList_run rfl (.int .i64 (k : Int)) (by simp [go_sem]) ?_
      simp only [Act.put, List.setIfInBounds_toArray, List.set_cons_zero, List.set_cons_succ]
      refine wpList_run rfl (.bool false) (by simp [go_sem, k1]) ?_
      simp only [Act.put, List.setIfInBounds_toArray, List.set_cons_zero, List.set_cons_succ]
      go_upto_region 8 with (fail)
      refine wp_region_lit ?_
      refine wpList_run rfl (.bool true) (by simp [go_sem]) ?_
      simp only [Act.put, List.setIfInBounds_toArray, List.set_cons_zero, List.set_cons_succ]
      go_wp2
      go_ret
      exact ⟨rfl, hX.out⟩
theorem add_one' (a : Addr) : a.add 1 = ⟨a.block, a.off + 1, none⟩ := by unfold Addr.add; simp
theorem add_zero' (a : Addr) : a.add 0 = a := by unfold Addr.add; simp
set_option maxRecDepth 20000 in
set_option maxHeartbeats 4000000 in
theorem samer_any (v0 v1 : Value) (n : Nat) (bs : Nat → Int) (us us' : Nat → Value) (ls : Nat → Nat) (fs : Nat → Nat → BitVec 8) (w : World) (hA : RLs v0 n bs us ls fs w) (hB : RLs v1 n bs us' ls fs w) (hn : n ≤ 5900000000000) : Calls Tryd.prog 13 #[v0, v1] w fun e w' => e = .returned (.bool true) ∧ Ext w w' := by
  obtain ⟨ao, ac, rfl⟩ := hA.form
  obtain ⟨bo, bc, rfl⟩ := hB.form
  replace hA := hideit hA
  replace hB := hideit hB
  replace hn := hideit hn
  have hE := hideit (Ext.refl w)
  go_enter Tryd.func13, Tryd.ntmps13
  go_upto_region 1 with (fail)
  refine wp_region_lit ?_
  refine wpList_run rfl (.slice ao n ac) (by simp [go_sem]) ?_
  simp only [Act.put, List.setIfInBounds_toArray, List.set_cons_zero, List.set_cons_succ]
  refine wpList_run rfl (.int .i64 (n : Int)) (by simp [go_sem]) ?_
  simp only [Act.put, List.setIfInBounds_toArray, List.set_cons_zero, List.set_cons_succ]
  refine wpList_run rfl (.slice bo n bc) (by simp [go_sem]) ?_
  simp only [Act.put, List.setIfInBounds_toArray, List.set_cons_zero, List.set_cons_succ]
  refine wpList_run rfl (.int .i64 (n : Int)) (by simp [go_sem]) ?_
  simp only [Act.put, List.setIfInBounds_toArray, List.set_cons_zero, List.set_cons_succ]
  refine wpList_run rfl (.bool false) (by simp [go_sem]) ?_
  simp only [Act.put, List.setIfInBounds_toArray, List.set_cons_zero, List.set_cons_succ]
  go_upto_region 3 with (fail)
  refine wp_region_lit ?_
  refine wpList_run rfl (.int .i64 0) (by simp [go_sem]) ?_
  simp only [Act.put, List.setIfInBounds_toArray, List.set_cons_zero, List.set_cons_succ]
  go_wp2
  go_loopw [5] (fun i X => ∃ k : Nat, k ≤ n ∧ i = .int .i64 (k : Int) ∧ Ext w X) (fun i _ => 6000000000000 - (intOf i).toNat)
  case atStart => exact ⟨0, Nat.zero_le _, rfl, Ext.refl _⟩
  case round =>
    obtain ⟨k, hk, rfl, hX⟩ := hrel
    clear hE
    by_cases hlt : k < n
    · have k1 : (k : Int) < (n : Int) := by omega
      have ek : IntKind.i64.wrap ((k : Int) + 1) = ((k + 1 : Nat) : Int) := by have := hn.out; rw [IntKind.wrap_i64]; omega
      obtain ⟨a, ha, _⟩ := hA.out.at k hlt
      obtain ⟨b, hb, _⟩ := hB.out.at k hlt
      have hL : Hid (∀ X, Ext wr.drew X → (X.cell? (a.add (k * 2)) = some (.int .i64 (bs k)) ∧ X.cell? ⟨(a.add (k * 2)).block, (a.add (k * 2)).off + 1, none⟩ = some (us k) ∧ PV (us k) (ls k) (fs k) X) ∧ (X.cell? (b.add (k * 2)) = some (.int .i64 (bs k)) ∧ X.cell? ⟨(b.add (k * 2)).block, (b.add (k * 2)).off + 1, none⟩ = some (us' k) ∧ PV (us' k) (ls k) (fs k) X)) := fun X hX' => by
        have hh := Ext.trans (Ext.draw hX) hX'
        have h1 := hA.out.ext hh
        have h2 := hB.out.ext hh
        obtain ⟨_, e1, q1⟩ := h1.at k hlt
        obtain ⟨_, e2, q2⟩ := h2.at k hlt
        rw [ha] at e1
        rw [hb] at e2
        injection e1 with e1
        injection e2 with e2
        subst e1
        subst e2
        exact ⟨⟨by have := q1.1 0 (by decide); rwa [add_zero'] at this, by have := q1.1 1 (by decide); rwa [add_one'] at this, (h1.2 k hlt).1⟩, by have := q2.1 0 (by decide); rwa [add_zero'] at this, by have := q2.1 1 (by decide); rwa [add_one'] at this, (h2.2 k hlt).1⟩
      subst ha
      subst hb
      replace hX := hideit hX
      replace hlt := hideit hlt
      go_upto_region 4 with (fail)
      refine wp_region_lit ?_
      refine wpList_run rfl (.int .i64 (k : Int)) (by simp [go_sem]) ?_
      simp only [Act.put, List.setIfInBounds_toArray, List.set_cons_zero, List.set_cons_succ]
      refine wpList_run rfl (.slice (some a) n ac) (by simp [go_sem]) ?_
      simp only [Act.put, List.setIfInBounds_toArray, List.set_cons_zero, List.set_cons_succ]
      refine wpList_run rfl (.int .i64 (n : Int)) (by simp [go_sem]) ?_
      simp only [Act.put, List.setIfInBounds_toArray, List.set_cons_zero, List.set_cons_succ]
      refine wpList_run rfl (.bool true) (by simp [go_sem, k1]) ?_
      simp only [Act.put, List.setIfInBounds_toArray, List.set_cons_zero, List.set_cons_succ]
      go_upto_region 6 with (fail)
      replace hX := hideit (Ext.draw hX.out)
      refine wp_region_lad (fun X => Ext wr.drew X) [(false, 0), (false, 1), (false, 2), (false, 3), (false, 4), (false, 5), (false, 6), (false, 7), (false, 8), (false, 9), (false, 10), (false, 11), (false, 12), (false, 13), (false, 14), (false, 15), (false, 16), (false, 17), (false, 18), (false, 19), (false, 20), (false, 21), (false, 22), (false, 23), (false, 24), (false, 25)] (by kernel_rfl) (by kernel_rfl) (by decide +kernel) (by decide +kernel) (by decide +kernel) (by decide +kernel) (Ext.refl _) ?_
      refine wpX_f _ (.slice (some a) n ac) rfl rfl (fun X _ => by simp [go_sem]) ?_
      simp only [List.getElem_toArray, List.getElem_cons_zero, Act.put, List.setIfInBounds_toArray, List.set_cons_zero, List.set_cons_succ]
      refine wpX_f _ (.int .i64 (k : Int)) rfl rfl (fun X _ => by simp [go_sem]) ?_
      simp only [List.getElem_toArray, List.getElem_cons_zero, List.getElem_cons_succ, Act.put, List.setIfInBounds_toArray, List.set_cons_zero, List.set_cons_succ]
      refine wpX_f _ (.pointer (some (a.add (k * 2)))) rfl rfl (fun X _ => by simp [go_sem, k1]) ?_
      simp only [List.getElem_toArray, List.getElem_cons_zero, List.getElem_cons_succ, Act.put, List.setIfInBounds_toArray, List.set_cons_zero, List.set_cons_succ]
      refine wpX_f _ (.pointer (some (a.add (k * 2)))) rfl rfl (fun X _ => by simp [go_sem]) ?_
      simp only [List.getElem_toArray, List.getElem_cons_zero, List.getElem_cons_succ, Act.put, List.setIfInBounds_toArray, List.set_cons_zero, List.set_cons_succ]
      refine wpX_f _ (.int .i64 (bs k)) rfl rfl (fun X hX => (by have q := (hL.out X hX).1.1; simp [go_sem, q])) ?_
      simp only [List.getElem_toArray, List.getElem_cons_zero, List.getElem_cons_succ, Act.put, List.setIfInBounds_toArray, List.set_cons_zero, List.set_cons_succ]
      refine wpX_f _ (.slice (some b) n bc) rfl rfl (fun X _ => by simp [go_sem]) ?_
      simp only [List.getElem_toArray, List.getElem_cons_zero, List.getElem_cons_succ, Act.put, List.setIfInBounds_toArray, List.set_cons_zero, List.set_cons_succ]
      refine wpX_f _ (.int .i64 (k : Int)) rfl rfl (fun X _ => by simp [go_sem]) ?_
      simp only [List.getElem_toArray, List.getElem_cons_zero, List.getElem_cons_succ, Act.put, List.setIfInBounds_toArray, List.set_cons_zero, List.set_cons_succ]
      refine wpX_f _ (.pointer (some (b.add (k * 2)))) rfl rfl (fun X _ => by simp [go_sem, k1]) ?_
      simp only [List.getElem_toArray, List.getElem_cons_zero, List.getElem_cons_succ, Act.put, List.setIfInBounds_toArray, List.set_cons_zero, List.set_cons_succ]
      refine wpX_f _ (.pointer (some (b.add (k * 2)))) rfl rfl (fun X _ => by simp [go_sem]) ?_
      simp only [List.getElem_toArray, List.getElem_cons_zero, List.getElem_cons_succ, Act.put, List.setIfInBounds_toArray, List.set_cons_zero, List.set_cons_succ]
      refine wpX_f _ (.int .i64 (bs k)) rfl rfl (fun X hX => (by have q := (hL.out X hX).2.1; simp [go_sem, q])) ?_
      simp only [List.getElem_toArray, List.getElem_cons_zero, List.getElem_cons_succ, Act.put, List.setIfInBounds_toArray, List.set_cons_zero, List.set_cons_succ]
      refine wpX_f _ (.bool false) rfl rfl (fun X _ => by simp [go_sem]) ?_
      simp only [List.getElem_toArray, List.getElem_cons_zero, List.getElem_cons_succ, Act.put, List.setIfInBounds_toArray, List.set_cons_zero, List.set_cons_succ]
      refine wpX_f _ (.bool false) rfl rfl (fun X _ => by simp [go_sem]) ?_
      simp only [List.getElem_toArray, List.getElem_cons_zero, List.getElem_cons_succ, Act.put, List.setIfInBounds_toArray, List.set_cons_zero, List.set_cons_succ]
      refine wpX_f _ (.slice (some a) n ac) rfl rfl (fun X _ => by simp [go_sem]) ?_
      simp only [List.getElem_toArray, List.getElem_cons_zero, List.getElem_cons_succ, Act.put, List.setIfInBounds_toArray, List.set_cons_zero, List.set_cons_succ]
      refine wpX_f _ (.int .i64 (k : Int)) rfl rfl (fun X _ => by simp [go_sem]) ?_
      simp only [List.getElem_toArray, List.getElem_cons_zero, List.getElem_cons_succ, Act.put, List.setIfInBounds_toArray, List.set_cons_zero, List.set_cons_succ]
      refine wpX_f _ (.pointer (some (a.add (k * 2)))) rfl rfl (fun X _ => by simp [go_sem, k1]) ?_
      simp only [List.getElem_toArray, List.getElem_cons_zero, List.getElem_cons_succ, Act.put, List.setIfInBounds_toArray, List.set_cons_zero, List.set_cons_succ]
      refine wpX_f _ (.pointer (some ⟨(a.add (k * 2)).block, (a.add (k * 2)).off + 1, none⟩)) rfl rfl (fun X _ => by simp [go_sem]) ?_
      simp only [List.getElem_toArray, List.getElem_cons_zero, List.getElem_cons_succ, Act.put, List.setIfInBounds_toArray, List.set_cons_zero, List.set_cons_succ]
      refine wpX_f _ (us k) rfl rfl (fun X hX => (by have q := (hL.out X hX).1.2.1; simp [go_sem, q])) ?_
      simp only [List.getElem_toArray, List.getElem_cons_zero, List.getElem_cons_succ, Act.put, List.setIfInBounds_toArray, List.set_cons_zero, List.set_cons_succ]
      refine wpX_f _ (.string (bS (ls k) (fs k))) rfl rfl (fun X hX => (by have q := convQ _ _ _ X (hL.out X hX).1.2.2; simp [go_sem, q])) ?_
      simp only [List.getElem_toArray, List.getElem_cons_zero, List.getElem_cons_succ, Act.put, List.setIfInBounds_toArray, List.set_cons_zero, List.set_cons_succ]
      refine wpX_f _ (.slice (some b) n bc) rfl rfl (fun X _ => by simp [go_sem]) ?_
      simp only [List.getElem_toArray, List.getElem_cons_zero, List.getElem_cons_succ, Act.put, List.setIfInBounds_toArray, List.set_cons_zero, List.set_cons_succ]
      refine wpX_f _ (.int .i64 (k : Int)) rfl rfl (fun X _ => by simp [go_sem]) ?_
      simp only [List.getElem_toArray, List.getElem_cons_zero, List.getElem_cons_succ, Act.put, List.setIfInBounds_toArray, List.set_cons_zero, List.set_cons_succ]
      refine wpX_f _ (.pointer (some (b.add (k * 2)))) rfl rfl (fun X _ => by simp [go_sem, k1]) ?_
      simp only [List.getElem_toArray, List.getElem_cons_zero, List.getElem_cons_succ, Act.put, List.setIfInBounds_toArray, List.set_cons_zero, List.set_cons_succ]
      refine wpX_f _ (.pointer (some ⟨(b.add (k * 2)).block, (b.add (k * 2)).off + 1, none⟩)) rfl rfl (fun X _ => by simp [go_sem]) ?_
      simp only [List.getElem_toArray, List.getElem_cons_zero, List.getElem_cons_succ, Act.put, List.setIfInBounds_toArray, List.set_cons_zero, List.set_cons_succ]
      refine wpX_f _ (us' k) rfl rfl (fun X hX => (by have q := (hL.out X hX).2.2.1; simp [go_sem, q])) ?_
      simp only [List.getElem_toArray, List.getElem_cons_zero, List.getElem_cons_succ, Act.put, List.setIfInBounds_toArray, List.set_cons_zero, List.set_cons_succ]
      refine wpX_f _ (.string (bS (ls k) (fs k))) rfl rfl (fun X hX => (by have q := convQ _ _ _ X (hL.out X hX).2.2.2; simp [go_sem, q])) ?_
      simp only [List.getElem_toArray, List.getElem_cons_zero, List.getElem_cons_succ, Act.put, List.setIfInBounds_toArray, List.set_cons_zero, List.set_cons_succ]
      refine wpX_f _ (.bool false) rfl rfl (fun X _ => by simp [go_sem]) ?_
      simp only [List.getElem_toArray, List.getElem_cons_zero, List.getElem_cons_succ, Act.put, List.setIfInBounds_toArray, List.set_cons_zero, List.set_cons_succ]
      refine wpX_f _ (.bool false) rfl rfl (fun X _ => by simp [go_sem]) ?_
      simp only [List.getElem_toArray, List.getElem_cons_zero, List.getElem_cons_succ, Act.put, List.setIfInBounds_toArray, List.set_cons_zero, List.set_cons_succ]
      refine wpX_nil ?_
      go_upto_region 5 with (fail)
      refine wp_region_lit ?_
      refine wpList_run rfl (.int .i64 (k : Int)) (by simp [go_sem]) ?_
      simp only [Act.put, List.setIfInBounds_toArray, List.set_cons_zero, List.set_cons_succ]
      refine wpList_run rfl (.int .i64 ((k + 1 : Nat) : Int)) (by simp [go_sem, ek]) ?_
      simp only [Act.put, List.setIfInBounds_toArray, List.set_cons_zero, List.set_cons_succ]
      refine wpList_run rfl (.int .i64 ((k + 1 : Nat) : Int)) (by simp [go_sem]) ?_
      simp only [Act.put, List.setIfInBounds_toArray, List.set_cons_zero, List.set_cons_succ]
      go_wp2
      refine ⟨⟨k + 1, by have := hlt.out; omega, rfl, hX.out⟩, by have := hlt.out; have := hn.out; simp [intOf]; omega⟩
    · obtain rfl : k = n := by omega
      have k1 : ¬ (k : Int) < (k : Int) := by omega
      replace hX := hideit hX
      go_upto_region 4 with (fail)
      refine wp_region_lit ?_
      refine wpList_run rfl (.int .i64 (k : Int)) (by simp [go_sem]) ?_
      simp only [Act.put, List.setIfInBounds_toArray, List.set_cons_zero, List.set_cons_succ]
      refine wpList_run rfl (.slice ao k ac) (by simp [go_sem]) ?_
      simp only [Act.put, List.setIfInBounds_toArray, List.set_cons_zero, List.set_cons_succ]
      refine wpList_run rfl (.int .i64 (k : Int)) (by simp [go_sem]) ?_
      simp only [Act.put, List.setIfInBounds_toArray, List.set_cons_zero, List.set_cons_succ]
      refine wpList_run rfl (.bool false) (by simp [go_sem, k1]) ?_
      simp only [Act.put, List.setIfInBounds_toArray, List.set_cons_zero, List.set_cons_succ]
      go_upto_region 8 with (fail)
      refine wp_region_lit ?_
      refine wpList_run rfl (.bool true) (by simp [go_sem]) ?_
      simp only [Act.put, List.setIfInBounds_toArray, List.set_cons_zero, List.set_cons_succ]
      go_wp2
      go_ret
      exact ⟨rfl, hX.out⟩
end Go.Proofs.YtedgopionpdfeaaDoor
