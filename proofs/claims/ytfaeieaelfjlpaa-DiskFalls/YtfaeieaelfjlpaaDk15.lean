/-
  A disk's unsure writes, listed; the sort is told by what it is asked for.
-/
import Derived.Test.YtfaeieaelfjlpaaDk14
import Derived.Test.YtfaeieaelfjlpaaOwnK
namespace Go.Proofs.Ytfaeieaelfjlpaa
open Go.RowKit Go.BigFrame Go.Maps
theorem elem32K : ElemK Try.prog 32 65 2 16 := elem_k Try.underlying32 (by kernel_rfl) (by kernel_rfl) (by kernel_rfl)
theorem kpV_one (x y : Nat → Int) (j : Nat) : (kpV x y j).oneCell' = true := by unfold kpV kpI; split <;> rfl
section
variable {F : Nat → Prop} {p : Nat} {s : DSt} {C : Nat} {M : DM} {W X : World}
def kcI (s : DSt) (ks : Nat → Int) (j : Nat) : Int := (s.kc (ks j).toNat : Int)
/-- k numbers: those of the blocks with unsure writes, each once -/
structure Lst (s : DSt) (ks : Nat → Int) (k : Nat) : Prop where
  isN : ∀ j, j < k → ∃ n : Nat, ks j = (n : Int) ∧ n < s.N ∧ 0 < s.kc n
  all : ∀ n, n < s.N → 0 < s.kc n → ∃ j, j < k ∧ ks j = (n : Int)
  inj : ∀ i j, i < k → j < k → ks i = ks j → i = j
/-- the list on its way -/
structure LsW (s : DSt) (C : Nat) (M : DM) (W : World) (r : Nat) (lv : Value) (k : Nat) (ks : Nat → Int) (left : Int → Bool) (cnt : Nat) (X : World) : Prop where
  own : OwnK 2 W.heap.size 65 lv k (kpV ks (kcI s ks)) X
  rg : RangeAt Try.prog 3 M.mb r C M.m left cnt X
  rn : W.heap.size ≤ r
  ext : Ext W X
  kN : k ≤ s.N
  isN : ∀ j, j < k → ∃ n : Nat, ks j = (n : Int) ∧ n < s.N ∧ 0 < s.kc n ∧ left n = false
  all : ∀ n : Nat, n < s.N → 0 < s.kc n → left n = false → ∃ j, j < k ∧ ks j = (n : Int)
  inj : ∀ i j, i < k → j < k → ks i = ks j → i = j
theorem kpV_snoc (s : DSt) (ks : Nat → Int) (k : Nat) (x : Int) : (∀ j, j < k * 2 → kpV ks (kcI s ks) j = kpV (upN ks k x) (kcI s (upN ks k x)) j) ∧ ∀ j, j < 2 → kpI x (s.kc x.toNat : Int) j = kpV (upN ks k x) (kcI s (upN ks k x)) (k * 2 + j) := by
  refine ⟨fun j hj => ?_, fun j hj => ?_⟩
  · unfold kpV kcI
    rw [upN_other _ (by omega)]
  · unfold kpV kcI
    rw [show (k * 2 + j) / 2 = k by omega, show (k * 2 + j) % 2 = j by omega, upN_same]
theorem own_range_ne {base r k b n cnt : Nat} {v : Value} {g : Nat → Value} {m : Int → Option Value} {left : Int → Bool} (hO : OwnK 2 base 65 v k g X) (hR : RangeAt Try.prog 3 b r n m left cnt X) : v.ownBlock ≠ some r := fun e => by
  obtain ⟨_, ⟨h1, _⟩ | ⟨g', cap, cur, h1, _, h2, _⟩⟩ := hO
  · rw [h1] at e
    cases e
  · rw [h1] at e
    injection e with e
    subst e
    obtain ⟨D, lf, ⟨es, clock, since, seen, c0, _, _, _, _, hr, _⟩, _⟩ := hR
    rw [hr] at h2
    cases h2
/-- so many different numbers are no more than there are -/
theorem few : ∀ (N k : Nat) (f : Nat → Nat), (∀ j, j < k → f j < N) → (∀ i j, i < k → j < k → f i = f j → i = j) → k ≤ N
  | 0, k, f, h, _ => by
    rcases Nat.eq_zero_or_pos k with h0 | h0
    · omega
    · exact absurd (h 0 h0) (by omega)
  | N + 1, k, f, h, hi => by
    by_cases he : ∃ j, j < k ∧ f j = N
    · obtain ⟨j0, hj0, hf0⟩ := he
      have := few N (k - 1) (fun j => if j < j0 then f j else f (j + 1)) (fun j hj => by
        by_cases h1 : j < j0
        · simp only [if_pos h1]
          have h2 := h j (by omega)
          have h3 : f j ≠ N := fun e => by have := hi j j0 (by omega) hj0 (by omega); omega
          omega
        · simp only [if_neg h1]
          have h2 := h (j + 1) (by omega)
          have h3 : f (j + 1) ≠ N := fun e => by have := hi (j + 1) j0 (by omega) hj0 (by omega); omega
          omega) (fun i j hi' hj' e => by
        by_cases h1 : i < j0 <;> by_cases h2 : j < j0 <;> simp only [h1, h2, if_true, if_false] at e
        · exact hi i j (by omega) (by omega) e
        · have := hi i (j + 1) (by omega) (by omega) e; omega
        · have := hi (i + 1) j (by omega) (by omega) e; omega
        · have := hi (i + 1) (j + 1) (by omega) (by omega) e; omega)
      omega
    · have := few N k f (fun j hj => by
        have h2 := h j hj
        have h3 : f j ≠ N := fun e => he ⟨j, hj, e⟩
        omega) hi
      omega
theorem LsW.next {r cnt cnt' k n : Nat} {lv lv' : Value} {ks : Nat → Int} {left : Int → Bool} {Z : World} (h : LsW s C M W r lv k ks left cnt X) (hln : left n = true) (hn : n < s.N) (hk : 0 < s.kc n) (hE : Ext W Z)
    (hR : RangeAt Try.prog 3 M.mb r C M.m (fun y => left y && !decide (y = (n : Int))) cnt' Z) (hO : OwnK 2 W.heap.size 65 lv' (k + 1) (kpV (upN ks k (n : Int)) (kcI s (upN ks k (n : Int)))) Z) : LsW s C M W r lv' (k + 1) (upN ks k (n : Int)) (fun y => left y && !decide (y = (n : Int))) cnt' Z := by
  have hne : ∀ j, j < k → ks j ≠ (n : Int) := fun j hj e => by
    obtain ⟨n', a1, _, _, a4⟩ := h.isN j hj
    rw [a1] at e
    have : n' = n := by omega
    rw [this, hln] at a4
    cases a4
  have hinj : ∀ i j, i < k + 1 → j < k + 1 → upN ks k (n : Int) i = upN ks k (n : Int) j → i = j := fun i j hi hj e => by
    by_cases e1 : i = k
    · subst e1
      by_cases e2 : j = i
      · exact e2.symm
      · rw [upN_same, upN_other _ e2] at e
        exact absurd e.symm (hne j (by omega))
    · rw [upN_other _ e1] at e
      by_cases e2 : j = k
      · subst e2
        rw [upN_same] at e
        exact absurd e (hne i (by omega))
      · rw [upN_other _ e2] at e
        exact h.inj i j (by omega) (by omega) e
  have hisN : ∀ j, j < k + 1 → ∃ n' : Nat, upN ks k (n : Int) j = (n' : Int) ∧ n' < s.N ∧ 0 < s.kc n' ∧ (left n' && !decide ((n' : Int) = (n : Int))) = false := fun j hj => by
    by_cases e : j = k
    · subst e
      exact ⟨n, upN_same _ _ _, hn, hk, by simp⟩
    · rw [upN_other _ e]
      obtain ⟨n', a1, a2, a3, a4⟩ := h.isN j (by omega)
      exact ⟨n', a1, a2, a3, by rw [a4]; rfl⟩
  refine ⟨hO, hR, h.rn, hE, ?_, hisN, fun n' hn' hk' hl' => ?_, hinj⟩
  · refine few s.N (k + 1) (fun j => (upN ks k (n : Int) j).toNat) (fun j hj => ?_) fun i j hi hj e => ?_
    · obtain ⟨n', a1, a2, _⟩ := hisN j hj
      show (upN ks k (n : Int) j).toNat < s.N
      rw [a1, Int.toNat_natCast]
      exact a2
    · obtain ⟨n1, a1, _⟩ := hisN i hi
      obtain ⟨n2, a2, _⟩ := hisN j hj
      refine hinj i j hi hj ?_
      have e' : (upN ks k (n : Int) i).toNat = (upN ks k (n : Int) j).toNat := e
      rw [a1, a2, Int.toNat_natCast, Int.toNat_natCast] at e'
      rw [a1, a2, e']
  · by_cases e : n' = n
    · subst e
      exact ⟨k, by omega, upN_same _ _ _⟩
    · have : decide ((n' : Int) = (n : Int)) = false := decide_eq_false fun e2 => e (by omega)
      rw [this] at hl'
      simp at hl'
      obtain ⟨j, a1, a2⟩ := h.all n' hn' hk' hl'
      exact ⟨j, by omega, by rw [upN_other _ (by omega)]; exact a2⟩
set_option maxRecDepth 20000 in
set_option maxHeartbeats 4000000 in
theorem dunsure_gen (h : DkM F p s C M W) (Post : Value → World → Prop)
    (hs : ∀ v k ks X, OwnK 2 W.heap.size 65 v k (kpV ks (kcI s ks)) X → Lst s ks k → k ≤ 4096 → Ext W X → Calls Try.prog 39 #[v, .func (.func 40) #[] #[]] X fun e X' => e = .returned (.tuple #[]) ∧ Ext W X' ∧ Post v X') :
    Calls Try.prog 17 #[.pointer (some ⟨p, 0, none⟩)] W fun e w' => ∃ v, e = .returned v ∧ Ext W w' ∧ Post v w' := by
  have ec := h.c1
  have hn4 := h.n4
  obtain ⟨w1, cnt0, hr1, hR1, hg1, hs1⟩ := h.mp.range (t := 56) Try.underlying3 Try.underlying56
  have hE1 : Ext W w1 := ⟨hg1.os, hg1.tape, hg1.output, hg1.size, fun i hi => hg1.block i hi (by simp)⟩
  have hS : Hid (LsW s C M W W.heap.size (.slice none 0 0) 0 (fun _ => 0) (fun x => (M.m x).isSome) cnt0 w1) := ⟨ownK_nil _ _ _ _ _, hR1, Nat.le_refl _, hE1, Nat.zero_le _, (fun j hj => by omega), (fun n hn hk hl => by
    rcases h.list n hn with ⟨_, h2⟩ | ⟨v, h2, _⟩
    · omega
    · rw [h2] at hl
      cases hl), (fun i j hi => by omega)⟩
  replace h := hideit h
  replace hs := hideit hs
  clear hR1 hg1 hs1 hE1
  go_enter Try.func17, Try.ntmps17
  go_upto_region 4 with (fail)
  refine wp_region_lit ?_
  refine wpList_run rfl (.pointer (some ⟨p, 0, none⟩)) (by simp [go_sem]) ?_
  simp only [Act.put, List.setIfInBounds_toArray, List.set_cons_zero, List.set_cons_succ]
  refine wpList_run rfl (.pointer (some ⟨p, 0, none⟩)) (by simp [go_sem]) ?_
  simp only [Act.put, List.setIfInBounds_toArray, List.set_cons_zero, List.set_cons_succ]
  refine wpList_run rfl (.pointer (some ⟨p, 1, none⟩)) (by simp [go_sem]) ?_
  simp only [Act.put, List.setIfInBounds_toArray, List.set_cons_zero, List.set_cons_succ]
  refine wpList_run rfl (.map (some M.mb)) (by simp [go_sem, ec]) ?_
  simp only [Act.put, List.setIfInBounds_toArray, List.set_cons_zero, List.set_cons_succ]
  refine wpList_to rfl (.pointer (some ⟨W.heap.size, 0, none⟩)) w1 (exec_range (.tmp 11) rfl rfl hr1) ?_
  simp only [Act.put, List.setIfInBounds_toArray, List.set_cons_zero, List.set_cons_succ]
  clear hr1
  go_wp2
  go_loopw [3] (fun lv X => ∃ k ks left cnt, LsW s C M W W.heap.size lv k ks left cnt X) (fun _ X => X.rangeLeft M.mb W.heap.size)
  case atStart => exact ⟨_, _, _, _, hS.out⟩
  case round =>
    obtain ⟨k, ks, left, cnt, hI⟩ := hrel
    obtain ⟨yo, yc, rfl⟩ := hI.own.form
    rcases hI.rg.next Try.underlying3 0 with ⟨hdone, hrn⟩ | ⟨x, v, w2, cnt', hx, hlx, hmx, hrn, hR2, hcl, hg2, hs2, hen⟩
    · have hL : Lst s ks k := ⟨fun j hj => by
        obtain ⟨n, a1, a2, a3, _⟩ := hI.isN j hj
        exact ⟨n, a1, a2, a3⟩, fun n hn hk => hI.all n hn hk (hdone _ (h.out.ok n hn)), hI.inj⟩
      have hkN := hI.kN
      have ksr := hideit (hs.out _ k ks wr hI.own hL (by omega) hI.ext)
      clear hI hS hL
      go_upto_region 5 with (fail)
      refine wp_region_lit ?_
      refine wpList_to rfl (.tuple #[.bool false]) wr (exec_next (.tmp 12) rfl rfl hrn) ?_
      simp only [Act.put, List.setIfInBounds_toArray, List.set_cons_zero, List.set_cons_succ]
      clear hrn hdone
      go_upto_region 8 with (fail)
      refine wp_region_lit ?_
      refine wpList_run rfl (.slice yo k yc) (by simp [go_sem]) ?_
      simp only [Act.put, List.setIfInBounds_toArray, List.set_cons_zero, List.set_cons_succ]
      refine wpList_call rfl (by simp [go_sem]) ((ksr.out).mono ?_)
      rintro e w5 ⟨rfl, hX5, hP5⟩
      refine ⟨_, rfl, ?_⟩
      simp only [Act.put, List.setIfInBounds_toArray, List.set_cons_zero, List.set_cons_succ]
      replace hX5 := hideit hX5
      replace hP5 := hideit hP5
      go_wp2
      go_ret
      exact ⟨_, rfl, hX5.out, hP5.out⟩
    · obtain ⟨n, rfl, hn⟩ := h.out.keys x hx (by rw [hmx]; simp)
      obtain ⟨lo, lc, hls, hlo, hkc9, hlc9⟩ := h.out.lsForm hn
      have hk0 : 0 < s.kc n ∧ v = .slice lo (s.kc n) lc := by
        rcases h.out.list n hn with ⟨h2, _⟩ | ⟨v', h2, h3, h4⟩
        · rw [show M.m n = none from h2] at hmx
          cases hmx
        · refine ⟨h3, ?_⟩
          rw [← hls]
          unfold lsV
          rw [hmx]
          rfl
      obtain ⟨hk, rfl⟩ := hk0
      have hE2 : Ext W w2 := Ext.but hI.ext hg2 (Nat.le_refl _)
      have hX3 : Ext w2 (w2.alloc (.cells #[.int .i64 (n : Int), .int .i64 (s.kc n : Int)] 65)) := (Below.refl _ _).alloc (Nat.le_refl _) _
      have hO2 := hI.own.kept hg2 (.inr (own_range_ne hI.own hI.rg))
      have hO3 := hO2.ext hX3
      have hlie : LieAt ⟨w2.heap.size, 0, none⟩ (1 * 2) (kpI (n : Int) (s.kc n : Int)) (w2.alloc (.cells #[.int .i64 (n : Int), .int .i64 (s.kc n : Int)] 65)) := RowAt.lie (RowAt.newOf w2 2 _ 65 _ fun j hj => by
        rcases (by omega : j = 0 ∨ j = 1) with rfl | rfl <;> rfl) 2 (Nat.le_refl _)
      have hkN := hI.kN
      obtain ⟨hp1, hp2⟩ := kpV_snoc s ks k (n : Int)
      rw [Int.toNat_natCast] at hp2
      have hR3 : RangeAt Try.prog 3 M.mb W.heap.size C M.m (fun y => left y && !decide (y = (n : Int))) cnt' (w2.alloc (.cells #[.int .i64 (n : Int), .int .i64 (s.kc n : Int)] 65)) := hR2.kept (row := none) (World.grownBy_alloc _ _ _) (by simp) (by simp)
      have hE3 := Ext.trans hE2 hX3
      have hmb := h.out.lt _ h.out.fm
      have hme0 := hideit hI.rg.left_eq
      replace hcl := hideit hcl
      replace hI := hideit hI
      clear hS
      go_upto_region 5 with (fail)
      refine wp_region_lit ?_
      refine wpList_to rfl (.tuple #[.bool true, .int .i64 (n : Int), .slice lo (s.kc n) lc]) w2 (exec_next (.tmp 12) rfl rfl hrn) ?_
      simp only [Act.put, List.setIfInBounds_toArray, List.set_cons_zero, List.set_cons_succ]
      go_upto_region 6 with (fail)
      refine wp_region_lit ?_
      refine wpList_run rfl (.tuple #[.int .i64 (n : Int), .slice lo (s.kc n) lc]) (exec_entry (.tmp 12) rfl rfl hen) ?_
      simp only [Act.put, List.setIfInBounds_toArray, List.set_cons_zero, List.set_cons_succ]
      refine wpList_run rfl (.int .i64 (n : Int)) (by simp [go_sem]) ?_
      simp only [Act.put, List.setIfInBounds_toArray, List.set_cons_zero, List.set_cons_succ]
      refine wpList_run rfl (.slice lo (s.kc n) lc) (by simp [go_sem]) ?_
      simp only [Act.put, List.setIfInBounds_toArray, List.set_cons_zero, List.set_cons_succ]
      refine wpList_run rfl (.int .i64 (n : Int)) (by simp [go_sem]) ?_
      simp only [Act.put, List.setIfInBounds_toArray, List.set_cons_zero, List.set_cons_succ]
      refine wpList_run rfl (.slice lo (s.kc n) lc) (by simp [go_sem]) ?_
      simp only [Act.put, List.setIfInBounds_toArray, List.set_cons_zero, List.set_cons_succ]
      clear hrn hen
      go_upto_region 7 with (fail)
      refine wp_region_lit ?_
      refine wpList_run rfl (.slice yo k yc) (by simp [go_sem]) ?_
      simp only [Act.put, List.setIfInBounds_toArray, List.set_cons_zero, List.set_cons_succ]
      refine wpList_run rfl (.int .i64 (n : Int)) (by simp [go_sem]) ?_
      simp only [Act.put, List.setIfInBounds_toArray, List.set_cons_zero, List.set_cons_succ]
      refine wpList_run rfl (.slice lo (s.kc n) lc) (by simp [go_sem]) ?_
      simp only [Act.put, List.setIfInBounds_toArray, List.set_cons_zero, List.set_cons_succ]
      refine wpList_run rfl (.int .i64 (s.kc n : Int)) (by simp [go_sem]) ?_
      simp only [Act.put, List.setIfInBounds_toArray, List.set_cons_zero, List.set_cons_succ]
      refine wpList_run rfl (.agg #[.int .i64 (n : Int), .int .i64 (s.kc n : Int)]) (by simp [go_sem]) ?_
      simp only [Act.put, List.setIfInBounds_toArray, List.set_cons_zero, List.set_cons_succ]
      refine wpList_to rfl (.slice (some ⟨w2.heap.size, 0, none⟩) 1 1) (w2.alloc (.cells #[.int .i64 (n : Int), .int .i64 (s.kc n : Int)] 65)) (by simp [go_sem]) ?_
      simp only [Act.put, List.setIfInBounds_toArray, List.set_cons_zero, List.set_cons_succ]
      generalize w2.alloc (.cells #[.int .i64 (n : Int), .int .i64 (s.kc n : Int)] 65) = w3 at *
      refine wpList_growK (n := k) (base := W.heap.size) elem32K (by decide) rfl (.tmp 18) (.tmp 23) rfl rfl hO3 ⟨w2.heap.size, 0, none⟩ 1 1 _ (kpV (upN ks k (n : Int)) (kcI s (upN ks k (n : Int)))) rfl hlie (fun j hj => by unfold kpI; split <;> rfl) hp1 hp2 (by omega) (by omega) (Below.size hE3) ?_
      intro v4 w4 hO4 hg4
      have hE4 : Ext W w4 := Below.trans hE3 (below_grown (Below.size hE3) hg4 fun b hb => (hO3.lt b hb).1)
      have hR4 := hR3.kept hg4 (fun e => by have := (hO3.lt _ e.symm).1; omega) (fun e => own_range_ne hO3 hR3 e.symm)
      have hI4 := hideit (hI.out.next hlx hn hk hE4 hR4 hO4)
      have hme := hideit hR4.left_eq
      simp only [Act.put, List.setIfInBounds_toArray, List.set_cons_zero, List.set_cons_succ]
      clear hO4 hg4 hE4 hR4 hO3 hlie hO2 hE2 hE3 hX3 hR2 hR3 hp1 hp2 hg2 hs2 hlx hmx hx hls hlo hlc9
      obtain ⟨zo, zc, rfl⟩ := hI4.out.own.form
      go_wp2
      exact ⟨⟨_, _, _, _, hI4.out⟩, by rw [hme.out, hme0.out]; exact hcl.out⟩
end
end Go.Proofs.Ytfaeieaelfjlpaa
