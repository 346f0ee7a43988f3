/-
  What an area has, in words of numbers. Transactions refused.
-/
import Derived.Test.YtiakkclabgelfaaDoorQc48
import Derived.Test.YtiakkclabgelfaaDoorQc1
import Derived.Test.YtiakkclabgelfaaDoorQc44
namespace Go.Proofs.YtiakkclabgelfaaDoor
open Go.RowKit Go.BigFrame Go.Maps
set_option linter.unusedVariables false
set_option maxRecDepth 20000
theorem or80 : ∀ x : BitVec 8, x ||| 128#8 ≠ 80#8 := by decide
theorem st_noPl (f : Nat → BitVec 8) : ¬ isPl 512 (stF 512 f) := fun hp => by
  have h2 := hp.2.1
  unfold eqB at h2
  have h3 := (of_decide_eq_true h2).2
  unfold stF at h3
  by_cases hl : like 512 f = true
  · rw [if_pos hl] at h3
    exact or80 (f 0) (h3 0 (by decide))
  · rw [if_neg hl] at h3
    refine hl ?_
    unfold like
    have h4 : pre4 (nmS 0) 512 f = true := by
      unfold pre4
      show (decide (4 ≤ 512) && eqB 4 4 f (labF sPL)) = true
      rw [show eqB 4 4 f (labF sPL) = true from decide_eq_true ⟨rfl, h3⟩]
      rfl
    rw [h4]
    simp
theorem tr_noPl {x t : BitVec 64} {n i : Nat} {bs : Nat → Int} {fs : Nat → Nat → BitVec 8} (h0 : i ≠ 0) : ¬ isPl 512 (trF x t n bs fs i) := by
  by_cases h : i = n + 1
  · subst h
    intro hp
    have h2 := hp.2.1
    unfold eqB at h2
    have h3 := (of_decide_eq_true h2).2 0 (by decide)
    rw [seal_first] at h3
    exact absurd h3 (by decide)
  · unfold trF bkF
    rw [if_neg h, if_neg h0]
    exact st_noPl _
theorem tr_num {x t : BitVec 64} {n i : Nat} {bs : Nat → Int} {fs : Nat → Nat → BitVec 8} (h : isPl 512 (trF x t n bs fs i)) : nP (trF x t n bs fs i) = x := by
  by_cases h0 : i = 0
  · subst h0
    unfold trF bkF
    rw [if_neg (by omega), if_pos rfl]
    exact nP_plan x t n bs
  · exact absurd h (tr_noPl h0)
def apD (D : Nat → Nat → BitVec 8) (at_ n : Nat) (T : Nat → Nat → BitVec 8) : Nat → Nat → BitVec 8 := wrN (wrN D at_ T (n + 1)) (at_ + (n + 1)) (fun _ => T (n + 1)) 1
theorem apD_in (D : Nat → Nat → BitVec 8) (at_ n : Nat) (T : Nat → Nat → BitVec 8) (i : Nat) (hi : i < n + 2) : apD D at_ n T (at_ + i) = T i := by
  unfold apD
  by_cases e : i = n + 1
  · subst e
    exact wrN_in _ (at_ + (n + 1)) (fun _ => T (n + 1)) 1 0 (by decide)
  · rw [wrN_out _ _ _ _ _ (.inl (by omega))]
    exact wrN_in D at_ T (n + 1) i (by omega)
theorem apD_out (D : Nat → Nat → BitVec 8) (at_ n : Nat) (T : Nat → Nat → BitVec 8) (b : Nat) (hb : b < at_ ∨ at_ + (n + 2) ≤ b) : apD D at_ n T b = D b := by
  unfold apD
  rw [wrN_out _ _ _ _ _ (by omega), wrN_out _ _ _ _ _ (by omega)]
structure CHN (D : Nat → Nat → BitVec 8) (n0 : BitVec 64) (K : Nat) (tn : Nat → Nat) (tb : Nat → Nat → Int) (tl : Nat → Nat → Nat) (tf : Nat → Nat → Nat → BitVec 8) : Prop where
  nz : n0 ≠ 0#64
  mrk : D 0 = markF n0
  tx : ∀ k, k < K → okT (nuK n0 k) (tn k) (tb k) (tl k) (tf k) ∧ ¬ fgL 0 30 60 (tn k) (tb k) ∧ ∀ i, i < tn k + 2 → D (0 + 1 + (ofN tn k + i)) = trF (nuK n0 k) (tmK (tl k) (tf k) (tn k)) (tn k) (tb k) (tf k) i
  le : ofN tn K ≤ 29
  pl : ∀ b, b < 29 → isPl 512 (D (1 + b)) → (nP (D (1 + b))).toNat < (nuK n0 K).toNat
theorem CHN.tail {D : Nat → Nat → BitVec 8} {n0 : BitVec 64} {K : Nat} {tn : Nat → Nat} {tb : Nat → Nat → Int} {tl : Nat → Nat → Nat} {tf : Nat → Nat → Nat → BitVec 8} (h : CHN D n0 K tn tb tl tf) : ¬ (hasP (nuK n0 K) (29 - ofN tn K) (fun _ => 512) (fun i => D (0 + 1 + (ofN tn K + i))) ∧ isTx (nuK n0 K) (fun _ => 512) (fun i => D (0 + 1 + (ofN tn K + i)))) := fun hh => by
  obtain ⟨h1, h2, h3, _⟩ := hh.1
  have h4 := h.pl (ofN tn K) (by omega) h2
  rw [show nP (D (1 + ofN tn K)) = nuK n0 K from h3] at h4
  omega
theorem ofN_congr {tn tn' : Nat → Nat} : ∀ K, (∀ k, k < K → tn k = tn' k) → ofN tn K = ofN tn' K
  | 0, _ => rfl
  | K + 1, h => by
    show ofN tn K + (tn K + 2) = ofN tn' K + (tn' K + 2)
    rw [ofN_congr K fun k hk => h k (by omega), h K (by omega)]
theorem CHN.add {D : Nat → Nat → BitVec 8} {n0 : BitVec 64} {K : Nat} {tn : Nat → Nat} {tb : Nat → Nat → Int} {tl : Nat → Nat → Nat} {tf : Nat → Nat → Nat → BitVec 8} (h : CHN D n0 K tn tb tl tf) {n : Nat} {bs : Nat → Int} {ls : Nat → Nat} {fs : Nat → Nat → BitVec 8} (hok : okT (nuK n0 K) n bs ls fs) (hnf : ¬ fgL 0 30 60 n bs) (hle : ofN tn K + (n + 2) ≤ 29) (hnx : (nuK n0 (K + 1)).toNat = (nuK n0 K).toNat + 1) :
    CHN (apD D (0 + 1 + ofN tn K) n (trF (nuK n0 K) (tmK ls fs n) n bs fs)) n0 (K + 1) (up1 tn K n) (up1 tb K bs) (up1 tl K ls) (up1 tf K fs) := by
  have ho : ∀ k, k ≤ K → ofN (up1 tn K n) k = ofN tn k := fun k hk => ofN_congr k fun q hq => up1_other _ (by omega) _
  refine ⟨h.nz, ?_, fun k hk => ?_, ?_, fun b hb hp => ?_⟩
  · rw [apD_out _ _ _ _ _ (.inl (by omega))]
    exact h.mrk
  · by_cases e : k = K
    · subst e
      rw [up1_same, up1_same, up1_same, up1_same, ho k (Nat.le_refl _)]
      refine ⟨hok, hnf, fun i hi => ?_⟩
      rw [← Nat.add_assoc]
      exact apD_in _ _ _ _ i hi
    · have hlt : k < K := by omega
      obtain ⟨a1, a2, a3⟩ := h.tx k hlt
      rw [up1_other _ e, up1_other _ e, up1_other _ e, up1_other _ e, ho k (by omega)]
      refine ⟨a1, a2, fun i hi => ?_⟩
      have hm := ofN_mono tn (show k + 1 ≤ K from hlt)
      have hm2 : ofN tn (k + 1) = ofN tn k + (tn k + 2) := rfl
      rw [apD_out _ _ _ _ _ (.inl (by omega))]
      exact a3 i hi
  · show ofN (up1 tn K n) K + (up1 tn K n K + 2) ≤ 29
    rw [ho K (Nat.le_refl _), up1_same]
    exact hle
  · rw [hnx]
    by_cases e : 1 + b < 0 + 1 + ofN tn K ∨ 0 + 1 + ofN tn K + (n + 2) ≤ 1 + b
    · rw [apD_out _ _ _ _ _ e] at hp ⊢
      exact Nat.lt_succ_of_lt (h.pl b hb hp)
    · have e2 : 1 + b = 0 + 1 + ofN tn K + (b - ofN tn K) := by omega
      rw [e2, apD_in _ _ _ _ _ (by omega)] at hp ⊢
      rw [tr_num hp]
      omega
theorem CHN.reset {D : Nat → Nat → BitVec 8} {n0 : BitVec 64} {K : Nat} {tn tn' : Nat → Nat} {tb tb' : Nat → Nat → Int} {tl tl' : Nat → Nat → Nat} {tf tf' : Nat → Nat → Nat → BitVec 8} (h : CHN D n0 K tn tb tl tf) (hz : nuK n0 K ≠ 0#64) : CHN (wrN D 0 (fun _ => markF (nuK n0 K)) 1) (nuK n0 K) 0 tn' tb' tl' tf' := by
  refine ⟨hz, wrN_in D 0 (fun _ => markF (nuK n0 K)) 1 0 (by decide), fun k hk => absurd hk (Nat.not_lt_zero _), Nat.zero_le _, fun b hb hp => ?_⟩
  rw [nuK_zero]
  rw [wrN_out _ _ _ _ _ (.inr (by omega))] at hp ⊢
  exact h.pl b hb hp
end Go.Proofs.YtiakkclabgelfaaDoor
namespace Go.Proofs.YtiakkclabgelfaaDoor
open Go.RowKit Go.BigFrame Go.Maps
set_option linter.unusedVariables false
set_option maxRecDepth 20000
set_option maxRecDepth 20000 in
set_option maxHeartbeats 4000000 in
theorem append_arg1 (j p fi co : Nat) (nu : BitVec 64) (us9 : Nat) (bg : Bool) (F : Nat → Prop) (N : Nat) (A D : Nat → Nat → BitVec 8) (C : Nat) (v0 : Value) (n : Nat) (bs : Nat → Int) (us : Nat → Value) (ls : Nat → Nat) (fs : Nat → Nat → BitVec 8) (w : World) (hJ : JR j p fi co nu us9 bg F N A D C w) (hL : RLs v0 n bs us ls fs w) (hn : n ≤ 4398046511104) (hbi : ∀ i, i < n → okI (bs i)) (hno : ¬ okT nu n bs ls fs) : Calls Tryd.prog 6 #[.pointer (some ⟨j, 0, none⟩), v0] w fun e w' => e = .returned (.int .i64 1) ∧ Ext w w' := by
  obtain ⟨o, cap, rfl⟩ := hL.form
  have hR := hideit hJ.row
  have hco := hideit (And.intro hJ.co1 hJ.co2)
  replace hbi := hideit hbi
  replace hJ := hideit hJ
  replace hL := hideit hL
  replace hno := hideit hno
  have hE := hideit (Ext.refl w)
  go_enter Tryd.func6, Tryd.ntmps6
  go_upto_region 1 with (fail)
  refine wp_region_lit ?_
  refine xm [some (.pointer (some ⟨j, 0, none⟩))] (by kernel_rfl) (by simp [xr, go_sem]) ?_
  simp only [xw, p0, p1, p2, p3]
  refine wpList_call rfl (by simp [go_sem]) ((jrefusal p fi co nu us9 bg j w hR.out).mono ?_)
  rintro e y1 ⟨rfl, h2⟩
  replace h2 : Ext w y1 := by rw [h2]; exact Ext.refl _
  refine ⟨_, rfl, ?_⟩
  simp only [zp0, zp1, zp2, zp3]
  replace hR := hideit (hR.out.carry h2)
  replace hJ := hideit (hJ.out.ext h2)
  replace hL := hideit (hL.out.ext h2)
  replace hE := hideit (Ext.trans hE.out (h2))
  clear h2
  refine xm [some (.int .i64 0)] (by kernel_rfl) (by simp [xr, go_sem]) ?_
  simp only [xw, p0, p1, p2, p3]
  go_upto_region 2 with (fail)
  refine wp_region_lit ?_
  refine xm [some (.int .i64 0), some (.bool false)] (by kernel_rfl) (by simp [xr, go_sem]) ?_
  simp only [xw, p0, p1, p2, p3]
  have h0E := hE
  go_upto_region 4 with (fail)
  refine wp_region_lit ?_
  have m3 : y1.cell? ⟨j, 3, none⟩ = some (.int .u64 (nu.toNat : Int)) := hR.out.1 3 (by decide)
  refine xm [some (.pointer (some ⟨j, 0, none⟩)), some (.pointer (some ⟨j, 0, none⟩)), some (.pointer (some ⟨j, 3, none⟩)), some (.int .u64 (nu.toNat : Int)), some (.slice o n cap)] (by kernel_rfl) (by simp [xr, go_sem, m3]) ?_
  simp only [xw, p0, p1, p2, p3]
  clear m3
  refine wpList_call rfl (by simp [go_sem]) ((blocks_no nu (.slice o n cap) n bs us ls fs y1 hL.out hbi.out (by omega) hno.out).mono ?_)
  rintro e y1 ⟨rfl, hX1⟩
  refine ⟨_, rfl, ?_⟩
  simp only [zp0, zp1, zp2, zp3]
  replace hR := hideit (hR.out.carry hX1)
  replace hJ := hideit (hJ.out.ext hX1)
  replace hL := hideit (hL.out.ext hX1)
  replace hE := hideit (Ext.trans hE.out (hX1))
  clear hX1
  refine xm [some (.tuple #[.slice none 0 0, .int .i64 1]), some (.slice none 0 0), some (.int .i64 1), some (.slice none 0 0), some (.int .i64 1)] (by kernel_rfl) (by simp [xr, go_sem]) ?_
  simp only [xw, p0, p1, p2, p3]
  go_upto_region 5 with (fail)
  refine wp_region_lit ?_
  refine xm [some (.int .i64 1), some (.bool true), some (.bool true), none, none, none, none, some (.bool true)] (by kernel_rfl) (by simp [xr, go_sem]) ?_
  simp only [xw, p0, p1, p2, p3]
  go_upto_region 6 with (fail)
  refine wp_region_lit ?_
  refine xm [some (.int .i64 1)] (by kernel_rfl) (by simp [xr, go_sem]) ?_
  simp only [xw, p0, p1, p2, p3]
  go_wp2
  go_ret
  exact ⟨rfl, hE.out⟩
set_option maxRecDepth 20000 in
set_option maxHeartbeats 4000000 in
theorem append_arg2 (j p fi co : Nat) (nu : BitVec 64) (us9 : Nat) (bg : Bool) (F : Nat → Prop) (N : Nat) (A D : Nat → Nat → BitVec 8) (C : Nat) (v0 : Value) (n : Nat) (bs : Nat → Int) (us : Nat → Value) (ls : Nat → Nat) (fs : Nat → Nat → BitVec 8) (w : World) (hJ : JR j p fi co nu us9 bg F N A D C w) (hL : RLs v0 n bs us ls fs w) (hn : n ≤ 4398046511104) (hbi : ∀ i, i < n → okI (bs i)) (hT : TabC w) (hyes : okT nu n bs ls fs) (hfg : fgL fi co N n bs) : Calls Tryd.prog 6 #[.pointer (some ⟨j, 0, none⟩), v0] w fun e w' => e = .returned (.int .i64 1) ∧ Ext w w' := by
  obtain ⟨o, cap, rfl⟩ := hL.form
  have hR := hideit hJ.row
  have hco := hideit (And.intro hJ.co1 hJ.co2)
  replace hbi := hideit hbi
  replace hJ := hideit hJ
  replace hL := hideit hL
  replace hT := hideit hT
  replace hyes := hideit hyes
  replace hfg := hideit hfg
  have hE := hideit (Ext.refl w)
  go_enter Tryd.func6, Tryd.ntmps6
  go_upto_region 1 with (fail)
  refine wp_region_lit ?_
  refine xm [some (.pointer (some ⟨j, 0, none⟩))] (by kernel_rfl) (by simp [xr, go_sem]) ?_
  simp only [xw, p0, p1, p2, p3]
  refine wpList_call rfl (by simp [go_sem]) ((jrefusal p fi co nu us9 bg j w hR.out).mono ?_)
  rintro e y1 ⟨rfl, h2⟩
  replace h2 : Ext w y1 := by rw [h2]; exact Ext.refl _
  refine ⟨_, rfl, ?_⟩
  simp only [zp0, zp1, zp2, zp3]
  replace hR := hideit (hR.out.carry h2)
  replace hJ := hideit (hJ.out.ext h2)
  replace hL := hideit (hL.out.ext h2)
  replace hT := hideit (hT.out.ext h2)
  replace hE := hideit (Ext.trans hE.out (h2))
  clear h2
  refine xm [some (.int .i64 0)] (by kernel_rfl) (by simp [xr, go_sem]) ?_
  simp only [xw, p0, p1, p2, p3]
  go_upto_region 2 with (fail)
  refine wp_region_lit ?_
  refine xm [some (.int .i64 0), some (.bool false)] (by kernel_rfl) (by simp [xr, go_sem]) ?_
  simp only [xw, p0, p1, p2, p3]
  have h0E := hE
  go_upto_region 4 with (fail)
  refine wp_region_lit ?_
  have m3 : y1.cell? ⟨j, 3, none⟩ = some (.int .u64 (nu.toNat : Int)) := hR.out.1 3 (by decide)
  refine xm [some (.pointer (some ⟨j, 0, none⟩)), some (.pointer (some ⟨j, 0, none⟩)), some (.pointer (some ⟨j, 3, none⟩)), some (.int .u64 (nu.toNat : Int)), some (.slice o n cap)] (by kernel_rfl) (by simp [xr, go_sem, m3]) ?_
  simp only [xw, p0, p1, p2, p3]
  clear m3
  refine wpList_call rfl (by simp [go_sem]) ((blocks_ok nu (.slice o n cap) n bs us ls fs y1 hL.out hbi.out (by omega) hT.out hyes.out).mono ?_)
  rintro e y1 ⟨va, us', rfl, hV, hX1⟩
  refine ⟨_, rfl, ?_⟩
  simp only [zp0, zp1, zp2, zp3]
  replace hR := hideit (hR.out.carry hX1)
  replace hJ := hideit (hJ.out.ext hX1)
  replace hL := hideit (hL.out.ext hX1)
  replace hT := hideit (hT.out.ext hX1)
  replace hE := hideit (Ext.trans hE.out (hX1))
  have hB1 := hideit (Below.size h0E.out)
  clear hX1 h0E
  refine xm [some (.tuple #[va, .int .i64 0]), some (va), some (.int .i64 0), some (va), some (.int .i64 0)] (by kernel_rfl) (by simp [xr, go_sem]) ?_
  simp only [xw, p0, p1, p2, p3]
  clear hB1 hV
  go_upto_region 5 with (fail)
  refine wp_region_lit ?_
  refine xm [some (.int .i64 0), some (.bool false), some (.bool false), some (.slice o n cap), some (.pointer (some ⟨j, 0, none⟩)), some (.func (.func 24) #[.pointer (some ⟨j, 0, none⟩)] #[])] (by kernel_rfl) (by simp [xr, go_sem]) ?_
  simp only [xw, p0, p1, p2, p3]
  refine wpList_callW rfl (by simp [go_sem]) ((contains_fgn (.slice o n cap) n bs us ls fs y1 j p fi co nu us9 bg F N A D C hJ.out hL.out (by omega) true ⟨fun _ => hfg.out, fun _ => rfl⟩).mono ?_)
  rintro e y4 ⟨rfl, hX5⟩
  refine ⟨_, rfl, ?_⟩
  simp only [zp0, zp1, zp2, zp3]
  replace hR := hideit (hR.out.carry hX5)
  replace hJ := hideit (hJ.out.ext hX5)
  replace hL := hideit (hL.out.ext hX5)
  replace hT := hideit (hT.out.ext hX5)
  replace hE := hideit (Ext.trans hE.out (hX5))
  clear hX5
  refine xm [some (.bool true)] (by kernel_rfl) (by simp [xr, go_sem]) ?_
  simp only [xw, p0, p1, p2, p3]
  go_upto_region 6 with (fail)
  refine wp_region_lit ?_
  refine xm [some (.int .i64 1)] (by kernel_rfl) (by simp [xr, go_sem]) ?_
  simp only [xw, p0, p1, p2, p3]
  go_wp2
  go_ret
  exact ⟨rfl, hE.out⟩
set_option maxRecDepth 20000 in
set_option maxHeartbeats 4000000 in
theorem append_long (j p fi co : Nat) (nu : BitVec 64) (us9 : Nat) (bg : Bool) (F : Nat → Prop) (N : Nat) (A D : Nat → Nat → BitVec 8) (C : Nat) (v0 : Value) (n : Nat) (bs : Nat → Int) (us : Nat → Value) (ls : Nat → Nat) (fs : Nat → Nat → BitVec 8) (w : World) (hJ : JR j p fi co nu us9 bg F N A D C w) (hL : RLs v0 n bs us ls fs w) (hn : n ≤ 4398046511104) (hbi : ∀ i, i < n → okI (bs i)) (hT : TabC w) (hyes : okT nu n bs ls fs) (hfg : ¬ fgL fi co N n bs) (hlen : moN co < n) : Calls Tryd.prog 6 #[.pointer (some ⟨j, 0, none⟩), v0] w fun e w' => e = .returned (.int .i64 3) ∧ Ext w w' := by
  have f1 : ((moN co : Nat) : Int) < (n : Int) := by omega
  replace f1 := hideit f1
  obtain ⟨o, cap, rfl⟩ := hL.form
  have hR := hideit hJ.row
  have hco := hideit (And.intro hJ.co1 hJ.co2)
  replace hbi := hideit hbi
  replace hJ := hideit hJ
  replace hL := hideit hL
  replace hT := hideit hT
  replace hyes := hideit hyes
  replace hfg := hideit hfg
  replace hlen := hideit hlen
  have hE := hideit (Ext.refl w)
  go_enter Tryd.func6, Tryd.ntmps6
  go_upto_region 1 with (fail)
  refine wp_region_lit ?_
  refine xm [some (.pointer (some ⟨j, 0, none⟩))] (by kernel_rfl) (by simp [xr, go_sem]) ?_
  simp only [xw, p0, p1, p2, p3]
  refine wpList_call rfl (by simp [go_sem]) ((jrefusal p fi co nu us9 bg j w hR.out).mono ?_)
  rintro e y1 ⟨rfl, h2⟩
  replace h2 : Ext w y1 := by rw [h2]; exact Ext.refl _
  refine ⟨_, rfl, ?_⟩
  simp only [zp0, zp1, zp2, zp3]
  replace hR := hideit (hR.out.carry h2)
  replace hJ := hideit (hJ.out.ext h2)
  replace hL := hideit (hL.out.ext h2)
  replace hT := hideit (hT.out.ext h2)
  replace hE := hideit (Ext.trans hE.out (h2))
  clear h2
  refine xm [some (.int .i64 0)] (by kernel_rfl) (by simp [xr, go_sem]) ?_
  simp only [xw, p0, p1, p2, p3]
  go_upto_region 2 with (fail)
  refine wp_region_lit ?_
  refine xm [some (.int .i64 0), some (.bool false)] (by kernel_rfl) (by simp [xr, go_sem]) ?_
  simp only [xw, p0, p1, p2, p3]
  have h0E := hE
  go_upto_region 4 with (fail)
  refine wp_region_lit ?_
  have m3 : y1.cell? ⟨j, 3, none⟩ = some (.int .u64 (nu.toNat : Int)) := hR.out.1 3 (by decide)
  refine xm [some (.pointer (some ⟨j, 0, none⟩)), some (.pointer (some ⟨j, 0, none⟩)), some (.pointer (some ⟨j, 3, none⟩)), some (.int .u64 (nu.toNat : Int)), some (.slice o n cap)] (by kernel_rfl) (by simp [xr, go_sem, m3]) ?_
  simp only [xw, p0, p1, p2, p3]
  clear m3
  refine wpList_call rfl (by simp [go_sem]) ((blocks_ok nu (.slice o n cap) n bs us ls fs y1 hL.out hbi.out (by omega) hT.out hyes.out).mono ?_)
  rintro e y1 ⟨va, us', rfl, hV, hX1⟩
  refine ⟨_, rfl, ?_⟩
  simp only [zp0, zp1, zp2, zp3]
  replace hR := hideit (hR.out.carry hX1)
  replace hJ := hideit (hJ.out.ext hX1)
  replace hL := hideit (hL.out.ext hX1)
  replace hT := hideit (hT.out.ext hX1)
  replace hE := hideit (Ext.trans hE.out (hX1))
  have hB1 := hideit (Below.size h0E.out)
  clear hX1 h0E
  refine xm [some (.tuple #[va, .int .i64 0]), some (va), some (.int .i64 0), some (va), some (.int .i64 0)] (by kernel_rfl) (by simp [xr, go_sem]) ?_
  simp only [xw, p0, p1, p2, p3]
  clear hB1 hV
  go_upto_region 5 with (fail)
  refine wp_region_lit ?_
  refine xm [some (.int .i64 0), some (.bool false), some (.bool false), some (.slice o n cap), some (.pointer (some ⟨j, 0, none⟩)), some (.func (.func 24) #[.pointer (some ⟨j, 0, none⟩)] #[])] (by kernel_rfl) (by simp [xr, go_sem]) ?_
  simp only [xw, p0, p1, p2, p3]
  refine wpList_callW rfl (by simp [go_sem]) ((contains_fgn (.slice o n cap) n bs us ls fs y1 j p fi co nu us9 bg F N A D C hJ.out hL.out (by omega) false ⟨fun e => (by cases e), fun e => absurd e hfg.out⟩).mono ?_)
  rintro e y4 ⟨rfl, hX5⟩
  refine ⟨_, rfl, ?_⟩
  simp only [zp0, zp1, zp2, zp3]
  replace hR := hideit (hR.out.carry hX5)
  replace hJ := hideit (hJ.out.ext hX5)
  replace hL := hideit (hL.out.ext hX5)
  replace hT := hideit (hT.out.ext hX5)
  replace hE := hideit (Ext.trans hE.out (hX5))
  clear hX5
  refine xm [some (.bool false)] (by kernel_rfl) (by simp [xr, go_sem]) ?_
  simp only [xw, p0, p1, p2, p3]
  go_upto_region 7 with (fail)
  refine wp_region_lit ?_
  refine xm [some (.slice o n cap), some (.int .i64 (n : Int)), some (.pointer (some ⟨j, 0, none⟩))] (by kernel_rfl) (by simp [xr, go_sem]) ?_
  simp only [xw, p0, p1, p2, p3]
  refine wpList_call rfl (by simp [go_sem]) ((jmost p fi co nu us9 bg j y4 hR.out hco.out).mono ?_)
  rintro e y6 ⟨rfl, h7⟩
  replace h7 : Ext y4 y6 := by rw [h7]; exact Ext.refl _
  refine ⟨_, rfl, ?_⟩
  simp only [zp0, zp1, zp2, zp3]
  replace hR := hideit (hR.out.carry h7)
  replace hJ := hideit (hJ.out.ext h7)
  replace hL := hideit (hL.out.ext h7)
  replace hT := hideit (hT.out.ext h7)
  replace hE := hideit (Ext.trans hE.out (h7))
  clear h7
  refine xm [some (.bool true)] (by kernel_rfl) (by simp [xr, go_sem, f1.out]) ?_
  simp only [xw, p0, p1, p2, p3]
  go_upto_region 8 with (fail)
  refine wp_region_lit ?_
  refine xm [some (.int .i64 3)] (by kernel_rfl) (by simp [xr, go_sem]) ?_
  simp only [xw, p0, p1, p2, p3]
  go_wp2
  go_ret
  exact ⟨rfl, hE.out⟩
set_option maxRecDepth 20000 in
set_option maxHeartbeats 4000000 in
theorem append_full1 (j p fi co : Nat) (nu : BitVec 64) (us9 : Nat) (F : Nat → Prop) (N : Nat) (A D : Nat → Nat → BitVec 8) (C : Nat) (v0 : Value) (n : Nat) (bs : Nat → Int) (us : Nat → Value) (ls : Nat → Nat) (fs : Nat → Nat → BitVec 8) (w : World) (hJ : JR j p fi co nu us9 true F N A D C w) (hL : RLs v0 n bs us ls fs w) (hn : n ≤ 4398046511104) (hbi : ∀ i, i < n → okI (bs i)) (hT : TabC w) (hyes : okT nu n bs ls fs) (hfg : ¬ fgL fi co N n bs) (hle : n ≤ moN co) (hlen : rmN co us9 true < n) (hu : us9 ≤ 1000) : Calls Tryd.prog 6 #[.pointer (some ⟨j, 0, none⟩), v0] w fun e w' => e = .returned (.int .i64 2) ∧ Ext w w' := by
  have f1 : ¬ ((moN co : Nat) : Int) < (n : Int) := by omega
  have f2 : ((rmN co us9 true : Nat) : Int) < (n : Int) := by omega
  replace f1 := hideit f1
  replace f2 := hideit f2
  obtain ⟨o, cap, rfl⟩ := hL.form
  have hR := hideit hJ.row
  have hco := hideit (And.intro hJ.co1 hJ.co2)
  replace hbi := hideit hbi
  replace hJ := hideit hJ
  replace hL := hideit hL
  replace hT := hideit hT
  replace hyes := hideit hyes
  replace hfg := hideit hfg
  replace hle := hideit hle
  replace hlen := hideit hlen
  replace hu := hideit hu
  have hE := hideit (Ext.refl w)
  go_enter Tryd.func6, Tryd.ntmps6
  go_upto_region 1 with (fail)
  refine wp_region_lit ?_
  refine xm [some (.pointer (some ⟨j, 0, none⟩))] (by kernel_rfl) (by simp [xr, go_sem]) ?_
  simp only [xw, p0, p1, p2, p3]
  refine wpList_call rfl (by simp [go_sem]) ((jrefusal p fi co nu us9 true j w hR.out).mono ?_)
  rintro e y1 ⟨rfl, h2⟩
  replace h2 : Ext w y1 := by rw [h2]; exact Ext.refl _
  refine ⟨_, rfl, ?_⟩
  simp only [zp0, zp1, zp2, zp3]
  replace hR := hideit (hR.out.carry h2)
  replace hJ := hideit (hJ.out.ext h2)
  replace hL := hideit (hL.out.ext h2)
  replace hT := hideit (hT.out.ext h2)
  replace hE := hideit (Ext.trans hE.out (h2))
  clear h2
  refine xm [some (.int .i64 0)] (by kernel_rfl) (by simp [xr, go_sem]) ?_
  simp only [xw, p0, p1, p2, p3]
  go_upto_region 2 with (fail)
  refine wp_region_lit ?_
  refine xm [some (.int .i64 0), some (.bool false)] (by kernel_rfl) (by simp [xr, go_sem]) ?_
  simp only [xw, p0, p1, p2, p3]
  have h0E := hE
  go_upto_region 4 with (fail)
  refine wp_region_lit ?_
  have m3 : y1.cell? ⟨j, 3, none⟩ = some (.int .u64 (nu.toNat : Int)) := hR.out.1 3 (by decide)
  refine xm [some (.pointer (some ⟨j, 0, none⟩)), some (.pointer (some ⟨j, 0, none⟩)), some (.pointer (some ⟨j, 3, none⟩)), some (.int .u64 (nu.toNat : Int)), some (.slice o n cap)] (by kernel_rfl) (by simp [xr, go_sem, m3]) ?_
  simp only [xw, p0, p1, p2, p3]
  clear m3
  refine wpList_call rfl (by simp [go_sem]) ((blocks_ok nu (.slice o n cap) n bs us ls fs y1 hL.out hbi.out (by omega) hT.out hyes.out).mono ?_)
  rintro e y1 ⟨va, us', rfl, hV, hX1⟩
  refine ⟨_, rfl, ?_⟩
  simp only [zp0, zp1, zp2, zp3]
  replace hR := hideit (hR.out.carry hX1)
  replace hJ := hideit (hJ.out.ext hX1)
  replace hL := hideit (hL.out.ext hX1)
  replace hT := hideit (hT.out.ext hX1)
  replace hE := hideit (Ext.trans hE.out (hX1))
  have hB1 := hideit (Below.size h0E.out)
  clear hX1 h0E
  refine xm [some (.tuple #[va, .int .i64 0]), some (va), some (.int .i64 0), some (va), some (.int .i64 0)] (by kernel_rfl) (by simp [xr, go_sem]) ?_
  simp only [xw, p0, p1, p2, p3]
  clear hB1 hV
  go_upto_region 5 with (fail)
  refine wp_region_lit ?_
  refine xm [some (.int .i64 0), some (.bool false), some (.bool false), some (.slice o n cap), some (.pointer (some ⟨j, 0, none⟩)), some (.func (.func 24) #[.pointer (some ⟨j, 0, none⟩)] #[])] (by kernel_rfl) (by simp [xr, go_sem]) ?_
  simp only [xw, p0, p1, p2, p3]
  refine wpList_callW rfl (by simp [go_sem]) ((contains_fgn (.slice o n cap) n bs us ls fs y1 j p fi co nu us9 true F N A D C hJ.out hL.out (by omega) false ⟨fun e => (by cases e), fun e => absurd e hfg.out⟩).mono ?_)
  rintro e y4 ⟨rfl, hX5⟩
  refine ⟨_, rfl, ?_⟩
  simp only [zp0, zp1, zp2, zp3]
  replace hR := hideit (hR.out.carry hX5)
  replace hJ := hideit (hJ.out.ext hX5)
  replace hL := hideit (hL.out.ext hX5)
  replace hT := hideit (hT.out.ext hX5)
  replace hE := hideit (Ext.trans hE.out (hX5))
  clear hX5
  refine xm [some (.bool false)] (by kernel_rfl) (by simp [xr, go_sem]) ?_
  simp only [xw, p0, p1, p2, p3]
  go_upto_region 7 with (fail)
  refine wp_region_lit ?_
  refine xm [some (.slice o n cap), some (.int .i64 (n : Int)), some (.pointer (some ⟨j, 0, none⟩))] (by kernel_rfl) (by simp [xr, go_sem]) ?_
  simp only [xw, p0, p1, p2, p3]
  refine wpList_call rfl (by simp [go_sem]) ((jmost p fi co nu us9 true j y4 hR.out hco.out).mono ?_)
  rintro e y6 ⟨rfl, h7⟩
  replace h7 : Ext y4 y6 := by rw [h7]; exact Ext.refl _
  refine ⟨_, rfl, ?_⟩
  simp only [zp0, zp1, zp2, zp3]
  replace hR := hideit (hR.out.carry h7)
  replace hJ := hideit (hJ.out.ext h7)
  replace hL := hideit (hL.out.ext h7)
  replace hT := hideit (hT.out.ext h7)
  replace hE := hideit (Ext.trans hE.out (h7))
  clear h7
  refine xm [some (.bool false)] (by kernel_rfl) (by simp [xr, go_sem, f1.out]) ?_
  simp only [xw, p0, p1, p2, p3]
  go_upto_region 9 with (fail)
  refine wp_region_lit ?_
  refine xm [some (.slice o n cap), some (.int .i64 (n : Int)), some (.pointer (some ⟨j, 0, none⟩))] (by kernel_rfl) (by simp [xr, go_sem]) ?_
  simp only [xw, p0, p1, p2, p3]
  refine wpList_call rfl (by simp [go_sem]) ((jroom_yes p fi co nu us9 j y6 hR.out hco.out hu.out).mono ?_)
  rintro e y8 ⟨rfl, hX9⟩
  refine ⟨_, rfl, ?_⟩
  simp only [zp0, zp1, zp2, zp3]
  replace hR := hideit (hR.out.carry hX9)
  replace hJ := hideit (hJ.out.ext hX9)
  replace hL := hideit (hL.out.ext hX9)
  replace hT := hideit (hT.out.ext hX9)
  replace hE := hideit (Ext.trans hE.out (hX9))
  clear hX9
  refine xm [some (.bool true)] (by kernel_rfl) (by simp [xr, go_sem, f2.out]) ?_
  simp only [xw, p0, p1, p2, p3]
  go_upto_region 10 with (fail)
  refine wp_region_lit ?_
  refine xm [some (.int .i64 2)] (by kernel_rfl) (by simp [xr, go_sem]) ?_
  simp only [xw, p0, p1, p2, p3]
  go_wp2
  go_ret
  exact ⟨rfl, hE.out⟩
set_option maxRecDepth 20000 in
set_option maxHeartbeats 4000000 in
theorem append_full2 (j p fi co : Nat) (nu : BitVec 64) (us9 : Nat) (F : Nat → Prop) (N : Nat) (A D : Nat → Nat → BitVec 8) (C : Nat) (v0 : Value) (n : Nat) (bs : Nat → Int) (us : Nat → Value) (ls : Nat → Nat) (fs : Nat → Nat → BitVec 8) (w : World) (hJ : JR j p fi co nu us9 false F N A D C w) (hL : RLs v0 n bs us ls fs w) (hn : n ≤ 4398046511104) (hbi : ∀ i, i < n → okI (bs i)) (hT : TabC w) (hyes : okT nu n bs ls fs) (hfg : ¬ fgL fi co N n bs) (hle : n ≤ moN co) : Calls Tryd.prog 6 #[.pointer (some ⟨j, 0, none⟩), v0] w fun e w' => e = .returned (.int .i64 2) ∧ Ext w w' := by
  have f1 : ¬ ((moN co : Nat) : Int) < (n : Int) := by omega
  have f2 : 0 < n := hyes.1.2.1
  replace f1 := hideit f1
  replace f2 := hideit f2
  obtain ⟨o, cap, rfl⟩ := hL.form
  have hR := hideit hJ.row
  have hco := hideit (And.intro hJ.co1 hJ.co2)
  replace hbi := hideit hbi
  replace hJ := hideit hJ
  replace hL := hideit hL
  replace hT := hideit hT
  replace hyes := hideit hyes
  replace hfg := hideit hfg
  replace hle := hideit hle
  have hE := hideit (Ext.refl w)
  go_enter Tryd.func6, Tryd.ntmps6
  go_upto_region 1 with (fail)
  refine wp_region_lit ?_
  refine xm [some (.pointer (some ⟨j, 0, none⟩))] (by kernel_rfl) (by simp [xr, go_sem]) ?_
  simp only [xw, p0, p1, p2, p3]
  refine wpList_call rfl (by simp [go_sem]) ((jrefusal p fi co nu us9 false j w hR.out).mono ?_)
  rintro e y1 ⟨rfl, h2⟩
  replace h2 : Ext w y1 := by rw [h2]; exact Ext.refl _
  refine ⟨_, rfl, ?_⟩
  simp only [zp0, zp1, zp2, zp3]
  replace hR := hideit (hR.out.carry h2)
  replace hJ := hideit (hJ.out.ext h2)
  replace hL := hideit (hL.out.ext h2)
  replace hT := hideit (hT.out.ext h2)
  replace hE := hideit (Ext.trans hE.out (h2))
  clear h2
  refine xm [some (.int .i64 0)] (by kernel_rfl) (by simp [xr, go_sem]) ?_
  simp only [xw, p0, p1, p2, p3]
  go_upto_region 2 with (fail)
  refine wp_region_lit ?_
  refine xm [some (.int .i64 0), some (.bool false)] (by kernel_rfl) (by simp [xr, go_sem]) ?_
  simp only [xw, p0, p1, p2, p3]
  have h0E := hE
  go_upto_region 4 with (fail)
  refine wp_region_lit ?_
  have m3 : y1.cell? ⟨j, 3, none⟩ = some (.int .u64 (nu.toNat : Int)) := hR.out.1 3 (by decide)
  refine xm [some (.pointer (some ⟨j, 0, none⟩)), some (.pointer (some ⟨j, 0, none⟩)), some (.pointer (some ⟨j, 3, none⟩)), some (.int .u64 (nu.toNat : Int)), some (.slice o n cap)] (by kernel_rfl) (by simp [xr, go_sem, m3]) ?_
  simp only [xw, p0, p1, p2, p3]
  clear m3
  refine wpList_call rfl (by simp [go_sem]) ((blocks_ok nu (.slice o n cap) n bs us ls fs y1 hL.out hbi.out (by omega) hT.out hyes.out).mono ?_)
  rintro e y1 ⟨va, us', rfl, hV, hX1⟩
  refine ⟨_, rfl, ?_⟩
  simp only [zp0, zp1, zp2, zp3]
  replace hR := hideit (hR.out.carry hX1)
  replace hJ := hideit (hJ.out.ext hX1)
  replace hL := hideit (hL.out.ext hX1)
  replace hT := hideit (hT.out.ext hX1)
  replace hE := hideit (Ext.trans hE.out (hX1))
  have hB1 := hideit (Below.size h0E.out)
  clear hX1 h0E
  refine xm [some (.tuple #[va, .int .i64 0]), some (va), some (.int .i64 0), some (va), some (.int .i64 0)] (by kernel_rfl) (by simp [xr, go_sem]) ?_
  simp only [xw, p0, p1, p2, p3]
  clear hB1 hV
  go_upto_region 5 with (fail)
  refine wp_region_lit ?_
  refine xm [some (.int .i64 0), some (.bool false), some (.bool false), some (.slice o n cap), some (.pointer (some ⟨j, 0, none⟩)), some (.func (.func 24) #[.pointer (some ⟨j, 0, none⟩)] #[])] (by kernel_rfl) (by simp [xr, go_sem]) ?_
  simp only [xw, p0, p1, p2, p3]
  refine wpList_callW rfl (by simp [go_sem]) ((contains_fgn (.slice o n cap) n bs us ls fs y1 j p fi co nu us9 false F N A D C hJ.out hL.out (by omega) false ⟨fun e => (by cases e), fun e => absurd e hfg.out⟩).mono ?_)
  rintro e y4 ⟨rfl, hX5⟩
  refine ⟨_, rfl, ?_⟩
  simp only [zp0, zp1, zp2, zp3]
  replace hR := hideit (hR.out.carry hX5)
  replace hJ := hideit (hJ.out.ext hX5)
  replace hL := hideit (hL.out.ext hX5)
  replace hT := hideit (hT.out.ext hX5)
  replace hE := hideit (Ext.trans hE.out (hX5))
  clear hX5
  refine xm [some (.bool false)] (by kernel_rfl) (by simp [xr, go_sem]) ?_
  simp only [xw, p0, p1, p2, p3]
  go_upto_region 7 with (fail)
  refine wp_region_lit ?_
  refine xm [some (.slice o n cap), some (.int .i64 (n : Int)), some (.pointer (some ⟨j, 0, none⟩))] (by kernel_rfl) (by simp [xr, go_sem]) ?_
  simp only [xw, p0, p1, p2, p3]
  refine wpList_call rfl (by simp [go_sem]) ((jmost p fi co nu us9 false j y4 hR.out hco.out).mono ?_)
  rintro e y6 ⟨rfl, h7⟩
  replace h7 : Ext y4 y6 := by rw [h7]; exact Ext.refl _
  refine ⟨_, rfl, ?_⟩
  simp only [zp0, zp1, zp2, zp3]
  replace hR := hideit (hR.out.carry h7)
  replace hJ := hideit (hJ.out.ext h7)
  replace hL := hideit (hL.out.ext h7)
  replace hT := hideit (hT.out.ext h7)
  replace hE := hideit (Ext.trans hE.out (h7))
  clear h7
  refine xm [some (.bool false)] (by kernel_rfl) (by simp [xr, go_sem, f1.out]) ?_
  simp only [xw, p0, p1, p2, p3]
  go_upto_region 9 with (fail)
  refine wp_region_lit ?_
  refine xm [some (.slice o n cap), some (.int .i64 (n : Int)), some (.pointer (some ⟨j, 0, none⟩))] (by kernel_rfl) (by simp [xr, go_sem]) ?_
  simp only [xw, p0, p1, p2, p3]
  refine wpList_call rfl (by simp [go_sem]) ((jroom_no p fi co nu us9 j y6 hR.out).mono ?_)
  rintro e y8 ⟨rfl, h9⟩
  replace h9 : Ext y6 y8 := by rw [h9]; exact Ext.refl _
  refine ⟨_, rfl, ?_⟩
  simp only [zp0, zp1, zp2, zp3]
  replace hR := hideit (hR.out.carry h9)
  replace hJ := hideit (hJ.out.ext h9)
  replace hL := hideit (hL.out.ext h9)
  replace hT := hideit (hT.out.ext h9)
  replace hE := hideit (Ext.trans hE.out (h9))
  clear h9
  refine xm [some (.bool true)] (by kernel_rfl) (by simp [xr, go_sem, f2.out]) ?_
  simp only [xw, p0, p1, p2, p3]
  go_upto_region 10 with (fail)
  refine wp_region_lit ?_
  refine xm [some (.int .i64 2)] (by kernel_rfl) (by simp [xr, go_sem]) ?_
  simp only [xw, p0, p1, p2, p3]
  go_wp2
  go_ret
  exact ⟨rfl, hE.out⟩
theorem append_full (j p fi co : Nat) (nu : BitVec 64) (us9 : Nat) (bg : Bool) (F : Nat → Prop) (N : Nat) (A D : Nat → Nat → BitVec 8) (C : Nat) (v0 : Value) (n : Nat) (bs : Nat → Int) (us : Nat → Value) (ls : Nat → Nat) (fs : Nat → Nat → BitVec 8) (w : World) (hJ : JR j p fi co nu us9 bg F N A D C w) (hL : RLs v0 n bs us ls fs w) (hn : n ≤ 4398046511104) (hbi : ∀ i, i < n → okI (bs i)) (hT : TabC w) (hyes : okT nu n bs ls fs) (hfg : ¬ fgL fi co N n bs) (hle : n ≤ moN co) (hlen : rmN co us9 bg < n) (hu : us9 ≤ 1000) : Calls Tryd.prog 6 #[.pointer (some ⟨j, 0, none⟩), v0] w fun e w' => e = .returned (.int .i64 2) ∧ Ext w w' := by
  cases bg with
  | true => exact append_full1 j p fi co nu us9 F N A D C v0 n bs us ls fs w hJ hL hn hbi hT hyes hfg hle hlen hu
  | false => exact append_full2 j p fi co nu us9 F N A D C v0 n bs us ls fs w hJ hL hn hbi hT hyes hfg hle
end Go.Proofs.YtiakkclabgelfaaDoor
