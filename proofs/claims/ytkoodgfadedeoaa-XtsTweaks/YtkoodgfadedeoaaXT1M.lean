/-
  XT1, XT2.
-/
import Derived.Test.YtkoodgfadedeoaaXR1
import Derived.Test.YtkoodgfadedeoaaMadeM
import Derived.Test.YtkoodgfadedeoaaLenM
import Derived.Test.YtkoodgfadedeoaaArr
import Derived.Test.YtkoodgfadedeoaaABv
namespace Go.Proofs.Ytkoodgfadedeoaa
open Go.RowKit Go.BigFrame
theorem tT_pwr (t : BitVec 128) (n : Nat) : tT t (pwr n) = dK 135#128 n t := by
  unfold tT pwr
  rw [tK_comm, tK_dK, tK_one]
set_option maxRecDepth 20000 in
set_option maxHeartbeats 1000000 in
theorem xtweak_nil (u n : Value) (w : World) :
    Calls Try.prog 25 #[.pointer none, u, n] w fun e w' => e = .returned (.agg (row 16 (yv fun _ => 0#8)).toArray) ∧ Below w.heap.size w w' := by
  have hz := store_Y16
  obtain ⟨c, hc⟩ : ∃ c, c = w.heap.size := ⟨_, rfl⟩
  obtain ⟨W1, hW1⟩ : ∃ W1, W1 = w.alloc (.cells (row 16 (yv fun _ => 0#8)).toArray 23) := ⟨_, rfl⟩
  have HE1 : Hid (Ext w W1) := by rw [hW1]; exact (Below.refl _ _).alloc (Nat.le_refl _) _
  have HR1 : Hid (RowAt c 16 (yv fun _ => 0#8) W1) := by rw [hW1, hc]; exact RowAt.new w 16 (yv fun _ => 0#8) 23
  replace hW1 := hideit hW1
  go_enter Try.func25, Try.ntmps25
  go_upto_region 1 with (fail)
  rw [← hW1.out, ← hc]
  have hcw : w.heap.size ≤ c := by omega
  clear hc hW1
  go_wp2_with (refine wpList_store_mid rfl 23 (.tmp 6) (.tmp 9) rfl _ 0 (row 16 (yv fun _ => 0#8)).toArray rfl rfl (by rw [row_size]; exact HR1.out.there) (by rw [row_size]; exact info32) (row_one fun _ _ => rfl) ?_)
  exact bodyPost_ret (ret_row Try.results25 rfl (HR1.out.cells (g' := yv fun _ => 0#8)) Try.underlying23 rfl info32) rfl ⟨rfl, below_setCells _ hcw _ _ _ HE1.out⟩
set_option maxRecDepth 20000 in
set_option maxHeartbeats 1000000 in
theorem xtweak_any (q c1 c2 r : Nat) (S1 S2 : Nat → BitVec 8) (hr : 1 ≤ r) (hr2 : r ≤ 14) (u : BitVec 64) (n : Int) (h0 : -4611686018427387904 < n) (h1 : n < 4611686018427387904) (w : World) (hP : PairAt q c1 c2 r S1 S2 w) :
    Calls Try.prog 25 #[.pointer (some ⟨q, 0, none⟩), .int .u64 (u.toNat : Int), .int .i64 n] w fun e w' => e = .returned (.agg (row 16 (yv (byB (dK 135#128 n.toNat (tw0 S2 r u))))).toArray) ∧ Below w.heap.size w w' := by
  have hz := store_Y16
  have hfirst : Hid (∀ X, Ext w X → Calls Try.prog 42 #[.pointer (some ⟨q, 0, none⟩), .int .u64 (u.toNat : Int)] X fun e w' => e = .returned (.agg #[.int .u64 ((lo (tw0 S2 r u)).toNat : Int), .int .u64 ((hi (tw0 S2 r u)).toNat : Int)]) ∧ Below X.heap.size X w') := fun X hX => first_any q c1 c2 r S1 S2 hr hr2 u X (hP.ext hX)
  have hpow : Hid (∀ X : World, Calls Try.prog 48 #[.int .i64 n] X fun e w' => e = .returned (.agg #[.int .u64 ((lo (pwr n.toNat)).toNat : Int), .int .u64 ((hi (pwr n.toNat)).toNat : Int)]) ∧ Below X.heap.size X w') := fun X => power_any n h0 h1 X
  have htim : Hid (∀ X : World, Calls Try.prog 47 #[.agg #[.int .u64 ((lo (tw0 S2 r u)).toNat : Int), .int .u64 ((hi (tw0 S2 r u)).toNat : Int)], .agg #[.int .u64 ((lo (pwr n.toNat)).toNat : Int), .int .u64 ((hi (pwr n.toNat)).toNat : Int)]] X fun e w' => e = .returned (.agg #[.int .u64 ((lo (dK 135#128 n.toNat (tw0 S2 r u))).toNat : Int), .int .u64 ((hi (dK 135#128 n.toNat (tw0 S2 r u))).toNat : Int)]) ∧ Below X.heap.size X w') := fun X => times_as' (tT_pwr _ _) X
  generalize tw0 S2 r u = t at *
  generalize dK 135#128 n.toNat t = s at *
  generalize pwr n.toNat = p at *
  clear hP h0 h1
  obtain ⟨c, hc⟩ : ∃ c, c = w.heap.size := ⟨_, rfl⟩
  obtain ⟨W1, hW1⟩ : ∃ W1, W1 = w.alloc (.cells (row 16 (yv fun _ => 0#8)).toArray 23) := ⟨_, rfl⟩
  have HE1 : Hid (Ext w W1) := by rw [hW1]; exact (Below.refl _ _).alloc (Nat.le_refl _) _
  have HR1 : Hid (RowAt c 16 (yv fun _ => 0#8) W1) := by rw [hW1, hc]; exact RowAt.new w 16 (yv fun _ => 0#8) 23
  replace hW1 := hideit hW1
  go_enter Try.func25, Try.ntmps25
  go_upto_region 1 with (fail)
  rw [← hW1.out, ← hc]
  have hcw : w.heap.size ≤ c := by omega
  clear hc hW1
  go_wp2_with (first
    | (go_at_call 42; refine (hfirst.out _ HE1.out).mono ?_; rintro e w2 ⟨rfl, h2⟩; have HX2 : Hid (Ext W1 w2) := hideit h2; clear h2)
    | (go_at_call 48; refine (hpow.out _).mono ?_; rintro e w3 ⟨rfl, h2⟩; have HX3 : Hid (Ext W1 w3) := hideit (Ext.trans HX2.out h2); clear h2)
    | (go_at_call 47; refine (htim.out _).mono ?_; rintro e w4 ⟨rfl, h2⟩; have HX4 : Hid (Ext W1 w4) := hideit (Ext.trans HX3.out h2); clear h2)
    | (go_at_call 46; refine (bytes_any s _).mono ?_; rintro e w5 ⟨rfl, h2⟩; have HX5 : Hid (Ext W1 w5) := hideit (Ext.trans HX4.out h2); clear h2; have HR5 := hideit (HR1.out.carry HX5.out))
    | (refine wpList_store_mid rfl 23 (.tmp 6) (.tmp 16) rfl _ 0 (row 16 (yv (byB s))).toArray rfl rfl (by rw [row_size]; exact HR5.out.there) (by rw [row_size]; exact info32) (row_one fun _ _ => rfl) ?_))
  exact bodyPost_ret (ret_row Try.results25 rfl (HR5.out.cells (g' := yv (byB s))) Try.underlying23 rfl info32) rfl ⟨rfl, below_setCells _ hcw _ _ _ (Ext.trans HE1.out HX5.out)⟩
set_option maxRecDepth 20000 in
set_option maxHeartbeats 2000000 in
/-- halves of which one is no key -/
theorem xnew_bad (a : Option Addr) (len cap : Nat) (h1 : len ≠ 32) (h2 : len ≠ 64) (hcap : len ≤ cap) (hle : len ≤ 140737488351232) (ha : a = none → cap = 0) (key : Nat → BitVec 8) (w : World) (hk : ∀ b, a = some b → LieAt b len (yv key) w) :
    Calls Try.prog 18 #[.slice a len cap] w fun e w' => e = .returned (.tuple #[.pointer none, .int .i64 20]) ∧ Below w.heap.size w w' := by
  have hany : Hid (∀ (b : Option Addr) (m cp : Nat) (g : Nat → BitVec 8) (X : World), m ≤ cp → (b = none → m = 0) → (∀ d, b = some d → LieAt d m (yv g) X) → Calls Try.prog 9 #[.slice b m cp] X fun e w' => (∃ p x, e = .returned (.tuple #[p, .int .i64 x]) ∧ (x = 0 ∨ x = 20) ∧ (x = 0 → m = 16 ∨ m = 32)) ∧ Below X.heap.size X w') := fun b m cp g X hm hb hl => by
    by_cases e1 : m = 16
    · subst e1
      cases b with
      | none => exact absurd (hb rfl) (by omega)
      | some d => exact (new4_any d cp g X (hl d rfl) hm).mono fun e w' h => ⟨⟨_, 0, h.1, .inl rfl, fun _ => .inl rfl⟩, h.2.2⟩
    · by_cases e2 : m = 32
      · subst e2
        cases b with
        | none => exact absurd (hb rfl) (by omega)
        | some d => exact (new8_any d cp g X (hl d rfl) hm).mono fun e w' h => ⟨⟨_, 0, h.1, .inl rfl, fun _ => .inr rfl⟩, h.2.2⟩
      · exact (new_bad b m cp e1 e2 X).mono fun e w' h => ⟨⟨_, 20, h.1, .inr rfl, fun h => by omega⟩, by rw [h.2]; exact Below.refl _ _⟩
  cases a with
  | none =>
    have hc0 : cap = 0 := ha rfl
    subst hc0
    have hl0 : len = 0 := by omega
    subst hl0
    clear hk ha hany
    go_enter Try.func18, Try.ntmps18
    go_wp2_with (go_at_call 9; refine (new_bad none 0 0 (by omega) (by omega) _).mono ?_; rintro e w1 ⟨rfl, rfl⟩)
    refine bodyPost_ret (results_tmp2 Try.results18 _ _ _) rfl ?_
    exact ⟨rfl, Below.refl _ _⟩
  | some b =>
    have hk' := hk b rfl
    clear hk ha
    obtain ⟨h, hh⟩ : ∃ h, h = len / 2 := ⟨_, rfl⟩
    have hdiv : (len : Int) / 2 = (h : Int) := by omega
    have htd : (len : Int).tdiv 2 = (h : Int) := by rw [Int.tdiv_eq_ediv_of_nonneg (by omega)]; exact hdiv
    have hwr : wrap64 (h : Int) = (h : Int) := by unfold wrap64; omega
    have i1 : (h : Int) ≤ (cap : Int) := by omega
    have i2 : (h : Int) ≤ (len : Int) := by omega
    have i3 : h ≤ cap := by omega
    have i4 : h ≤ len := by omega
    have i0 : (0 : Int) ≤ (h : Int) := by omega
    have hno : Hid (¬ ((h = 16 ∨ h = 32) ∧ (len - h = 16 ∨ len - h = 32))) := by
      intro hx; omega
    have hn1 := hideit (hany.out (some b) h cap key w i3 (fun e => by cases e) (fun d e => by cases e; exact ⟨fun j hj => hk'.1 j (by omega), hk'.2⟩))
    obtain ⟨sa, hsa⟩ : ∃ sa : Addr, sa = b.add h := ⟨_, rfl⟩
    have hn2 : Hid (∀ X, Ext w X → Calls Try.prog 9 #[.slice (some sa) (len - h) (cap - h)] X fun e w' => (∃ p x, e = .returned (.tuple #[p, .int .i64 x]) ∧ (x = 0 ∨ x = 20) ∧ (x = 0 → len - h = 16 ∨ len - h = 32)) ∧ Below X.heap.size X w') := fun X hX => by
      have h1 := hk'.carry hX
      refine hany.out (some sa) (len - h) (cap - h) (fun j => key (h + j)) X (by omega) (fun e => by cases e) (fun d e => ?_)
      cases e
      refine ⟨fun j hj => ?_, by rw [hsa, add_block]; exact h1.2⟩
      rw [hsa, add_add', h1.1 (h + j) (by omega)]
      rfl
    by_cases hz : h = 0
    · have hl : len - h ≠ 16 ∧ len - h ≠ 32 := by omega
      have hl1 : len < 2 := by omega
      have hz' : (h : Int) = 0 := by omega
      have hb1 := hideit (fun (X : World) => new_bad (some b) 0 cap (by omega) (by omega) X)
      have hb2 := hideit (fun (X : World) => new_bad (some b) len cap (by omega) (by omega) X)
      subst hz
      clear hany hk' hsa hh h1 h2 hn1 hn2 hno hl
      go_enter Try.func18, Try.ntmps18
      go_upto_region 3 with (go_at_call 9; refine (hb1.out _).mono ?_; rintro e w1 ⟨rfl, rfl⟩)
      go_upto_region 4 with (go_at_call 9; refine (hb2.out _).mono ?_; rintro e w1 ⟨rfl, rfl⟩)
      go_wp2
      refine bodyPost_ret (results_tmp2 Try.results18 _ _ _) rfl ?_
      exact ⟨rfl, Below.refl _ _⟩
    · have hsa' : (⟨b.block, b.off + h, none⟩ : Addr) = sa := by rw [hsa]; unfold Addr.add; rw [if_neg hz]
      have hsa2 : b.add h = sa := hsa.symm
      clear hany hk' hsa hh h1 h2
      go_enter Try.func18, Try.ntmps18
      go_upto_region 3 with (go_at_call 9; refine hn1.out.mono ?_; rintro e w1 ⟨⟨p1, x1, rfl, hx1, hm1⟩, h4⟩; have HX1 : Hid (Ext w w1) := hideit h4; clear h4; replace hx1 := hideit hx1; replace hm1 := hideit hm1)
      have hn2' := hideit (hn2.out w1 HX1.out)
      clear hn2 hn1
      go_upto_region 4 with (go_at_call 9; refine hn2'.out.mono ?_; rintro e w2 ⟨⟨p2, x2, rfl, hx2, hm2⟩, h4⟩; have HX2 : Hid (Ext w w2) := hideit (Ext.trans HX1.out h4); clear h4; replace hx2 := hideit hx2; replace hm2 := hideit hm2)
      rcases hx1.out with rfl | rfl
      · rcases hx2.out with rfl | rfl
        · exact absurd ⟨hm1.out rfl, hm2.out rfl⟩ hno.out
        · go_wp2
          refine bodyPost_ret (results_tmp2 Try.results18 _ _ _) rfl ?_
          exact ⟨rfl, HX2.out⟩
      · go_wp2
        refine bodyPost_ret (results_tmp2 Try.results18 _ _ _) rfl ?_
        exact ⟨rfl, HX2.out⟩
end Go.Proofs.Ytkoodgfadedeoaa

namespace Go.Proofs.Ytkoodgfadedeoaa
open Go.RowKit Go.BigFrame
set_option maxRecDepth 20000 in
set_option maxHeartbeats 4000000 in
theorem tweaks_bad (v : Value) (u : BitVec 64) (n : Int) (w : World)
    (hnew : ∀ X, Ext w X → Calls Try.prog 18 #[v] X fun e w' => e = .returned (.tuple #[.pointer none, .int .i64 20]) ∧ Below X.heap.size X w')
    (hrnew : ∀ X, Ext w X → Calls Try.prog 19 #[v] X fun e w' => e = .returned (.tuple #[.pointer none, .int .i64 20]) ∧ w' = X) :
    Calls Try.prog 8 #[v, .int .u64 (u.toNat : Int), .int .i64 n] w fun e w' => e = .returned (.bool true) ∧ Below w.heap.size w w' := by
  have hz := store_Y16
  have hq := eq32 (fun _ => 0#8) (fun _ => 0#8)
  rw [(same16_iff _ _).2 (fun j hj => rfl)] at hq
  have hn0 := hideit (hnew w (Ext.refl _))
  replace hrnew := hideit hrnew
  clear hnew
  go_enter Try.func8, Try.ntmps8
  go_upto_region 2 with (go_at_call 18; refine hn0.out.mono ?_; rintro e w1 ⟨rfl, h1⟩; have HX1 : Hid (Ext w w1) := hideit h1; clear h1)
  have hr0 := hideit (hrnew.out w1 HX1.out)
  clear hn0 hrnew
  go_upto_region 3 with (go_at_call 19; refine hr0.out.mono ?_; rintro e w2 ⟨rfl, rfl⟩)
  go_upto_region 6 with (go_at_call 20; refine (xlives_any _).mono ?_; rintro e w2 ⟨rfl, h1⟩; have HX2 : Hid (Ext w w2) := hideit (Ext.trans HX1.out h1); clear h1)
  clear hr0 HX1
  refine wp_region_lit ?_
  refine wpList_run rfl (.pointer none) (by simp [go_sem]) ?_
  simp only [Act.put, List.setIfInBounds_toArray, List.set_cons_zero, List.set_cons_succ]
  refine wpList_run rfl (.int .u64 (u.toNat : Int)) (by simp [go_sem]) ?_
  simp only [Act.put, List.setIfInBounds_toArray, List.set_cons_zero, List.set_cons_succ]
  refine wpList_made w2 Try.underlying22 info5p rfl (.const (.int .i64 16)) (.const (.int .i64 16)) rfl 16 rfl rfl (by omega) ?_
  intro w3 _ h3
  have HX3 : Hid (Ext w w3) := hideit (Ext.trans HX2.out h3)
  clear h3 HX2
  simp only [Act.put, List.setIfInBounds_toArray, List.set_cons_zero, List.set_cons_succ]
  go_upto_region 7 with (go_at_call 21; refine (xenc_nil _ _ _).mono ?_; rintro e w4 ⟨rfl, rfl⟩)
  go_upto_region 8 with (go_at_call 23; refine (xdec_nil _ _ _).mono ?_; rintro e w4 ⟨rfl, rfl⟩)
  go_wp2_with (go_at_call 25; refine (xtweak_nil _ _ _).mono ?_; rintro e w4 ⟨rfl, h1⟩; have HX4 : Hid (Ext w w4) := hideit (Ext.trans HX3.out h1); clear h1)
  go_ret
  exact ⟨rfl, HX4.out⟩
set_option maxRecDepth 20000 in
set_option maxHeartbeats 4000000 in
theorem tweaks_good (r : Nat) (S1 S2 : Nat → BitVec 8) (hr : 1 ≤ r) (hr2 : r ≤ 14) (v : Value) (u : BitVec 64) (n : Int) (w : World)
    (hnew : ∀ X, Ext w X → Calls Try.prog 18 #[v] X fun e w' => ∃ q c1 c2, e = .returned (.tuple #[.pointer (some ⟨q, 0, none⟩), .int .i64 0]) ∧ PairAt q c1 c2 r S1 S2 w' ∧ Below X.heap.size X w')
    (hrnew : ∀ X, Ext w X → Calls Try.prog 19 #[v] X fun e w' => ∃ q, e = .returned (.tuple #[.pointer (some ⟨q, 0, none⟩), .int .i64 0]) ∧ RPairAt X.heap.size q r S1 S2 w' ∧ Below X.heap.size X w') :
    Calls Try.prog 8 #[v, .int .u64 (u.toNat : Int), .int .i64 n] w fun e w' => e = .returned (.bool true) ∧ Below w.heap.size w w' := by
  have hz := store_Y16
  have hn0 := hideit (hnew w (Ext.refl _))
  replace hrnew := hideit hrnew
  clear hnew
  obtain ⟨m, hm⟩ : ∃ m, m = n.tmod 500 := ⟨_, rfl⟩
  have hm0 : -500 < m := by rw [hm]; have := Int.lt_tmod_of_pos n (show (0 : Int) < 500 by omega); omega
  have hm1 : m < 500 := by rw [hm]; exact Int.tmod_lt_of_pos n (by omega)
  go_enter Try.func8, Try.ntmps8
  go_upto_region 2 with (go_at_call 18; refine hn0.out.mono ?_; rintro e w1 ⟨q, c1, c2, rfl, hP, h1⟩; have HP := hideit hP; have HX1 : Hid (Ext w w1) := hideit h1; clear h1 hP)
  have hr0 := hideit (hrnew.out w1 HX1.out)
  clear hn0 hrnew
  go_upto_region 3 with (go_at_call 19; refine hr0.out.mono ?_; rintro e w2 ⟨q2, rfl, hP, h1⟩; have HP2 := hideit (HP.out.ext h1); have HR2 := hideit hP; have HX2 : Hid (Ext w w2) := hideit (Ext.trans HX1.out h1); clear h1 hP)
  clear hr0 HX1 HP
  generalize w1.heap.size = base at *
  go_upto_region 10 with (go_at_call 20; refine (xlives_any _).mono ?_; rintro e w3 ⟨rfl, h1⟩; have HP3 := hideit (HP2.out.ext h1); have HR3 := hideit (HR2.out.ext h1); have HX3 : Hid (Ext w w3) := hideit (Ext.trans HX2.out h1); clear h1)
  clear HP2 HR2 HX2
  rw [← hm]
  clear hm
  by_cases hneg : m < 0
  · go_upto_region 13 with (fail)
    have hk0 : Hid (∀ X, Ext w3 X → Calls Try.prog 26 #[.pointer (some ⟨q2, 0, none⟩), .int .u64 (u.toNat : Int), .int .i64 1] X fun e w' => ∃ b cap, e = .returned (.slice (some ⟨b, 0, none⟩) (0 + 1) cap) ∧ 0 + 1 ≤ cap ∧ RowAt b ((0 + 1) * 16) (yv (twsF (tw0 S2 r u))) w' ∧ Below X.heap.size X w') := fun X hX => (rtweaks_any base q2 r (0 + 1) S1 S2 hr hr2 u (by omega) X (HR3.out.ext hX)).mono fun e w' h => by
      obtain ⟨v, h1, h2, h3⟩ := h
      obtain ⟨b, cap, rfl, _, h4, _, h5⟩ := h2.lies (by omega)
      exact ⟨b, cap, h1, h4, h5, h3⟩
    have htw := hideit (xtweak_any q c1 c2 r S1 S2 hr hr2 u m (by omega) (by omega) w3 HP3.out)
    obtain ⟨H, hH⟩ : ∃ H : Nat → BitVec 8, H = fun j => twsF (tw0 S2 r u) (0 + j) := ⟨_, rfl⟩
    have hsm : Hid (Eq16 (byB (dK 135#128 (m : Int).toNat (tw0 S2 r u))) H) := fun j hj => by
      rw [hH]
      show _ = byB (dK 135#128 ((0 + j) / 16) (tw0 S2 r u)) ((0 + j) % 16)
      rw [show (0 + j) / 16 = (m : Int).toNat by omega, show (0 + j) % 16 = j by omega]
    have hq := eq32 (byB (dK 135#128 (m : Int).toNat (tw0 S2 r u))) H
    rw [(same16_iff _ _).2 hsm.out] at hq
    have hrg : Hid (∀ (X : World) (b : Nat), RowAt b ((0 + 1) * 16) (yv (twsF (tw0 S2 r u))) X → X.rangeAt b (0) (row 16 (yv H))) := fun X b h => by
      rw [hH]
      exact h.sub (0) 16 (by omega)
    clear hH
    generalize byB (dK 135#128 (m : Int).toNat (tw0 S2 r u)) = F at *
    generalize twsF (tw0 S2 r u) = G at *
    clear hsm HP3 HR3 hz
    go_wp2_with (first
      | (go_at_call 25; refine htw.out.mono ?_; rintro e w4 ⟨rfl, h1⟩; have HX4 : Hid (Ext w3 w4) := hideit h1; clear h1)
      | (go_at_call 26; refine (hk0.out _ HX4.out).mono ?_; rintro e w5 ⟨b, cap, rfl, hcp, h5, h1⟩; have HX5 : Hid (Ext w w5) := hideit (Ext.trans HX3.out (Ext.trans HX4.out h1)); clear h1; replace h5 := hideit (hrg.out _ _ h5))
      | (refine wpList_load_mid rfl 23 (.tmp 95) rfl _ (0) rfl (row 16 (yv H)) _ h5.out Try.underlying23 rfl (by rw [row_length]; exact info32) ?_))
    go_ret
    exact ⟨rfl, HX5.out⟩
  · obtain ⟨k, rfl⟩ := Int.eq_ofNat_of_zero_le (show 0 ≤ m by omega)
    go_upto_region 13 with (fail)
    have hk0 : Hid (∀ X, Ext w3 X → Calls Try.prog 26 #[.pointer (some ⟨q2, 0, none⟩), .int .u64 (u.toNat : Int), .int .i64 ((k : Int) + 1)] X fun e w' => ∃ b cap, e = .returned (.slice (some ⟨b, 0, none⟩) (k + 1) cap) ∧ k + 1 ≤ cap ∧ RowAt b ((k + 1) * 16) (yv (twsF (tw0 S2 r u))) w' ∧ Below X.heap.size X w') := fun X hX => (rtweaks_any base q2 r (k + 1) S1 S2 hr hr2 u (by omega) X (HR3.out.ext hX)).mono fun e w' h => by
      obtain ⟨v, h1, h2, h3⟩ := h
      obtain ⟨b, cap, rfl, _, h4, _, h5⟩ := h2.lies (by omega)
      exact ⟨b, cap, h1, h4, h5, h3⟩
    have htw := hideit (xtweak_any q c1 c2 r S1 S2 hr hr2 u (k : Int) (by omega) (by omega) w3 HP3.out)
    obtain ⟨H, hH⟩ : ∃ H : Nat → BitVec 8, H = fun j => twsF (tw0 S2 r u) (k * 16 + j) := ⟨_, rfl⟩
    have hsm : Hid (Eq16 (byB (dK 135#128 ((k : Int) : Int).toNat (tw0 S2 r u))) H) := fun j hj => by
      rw [hH]
      show _ = byB (dK 135#128 ((k * 16 + j) / 16) (tw0 S2 r u)) ((k * 16 + j) % 16)
      rw [show (k * 16 + j) / 16 = ((k : Int) : Int).toNat by omega, show (k * 16 + j) % 16 = j by omega]
    have hq := eq32 (byB (dK 135#128 ((k : Int) : Int).toNat (tw0 S2 r u))) H
    rw [(same16_iff _ _).2 hsm.out] at hq
    have hrg : Hid (∀ (X : World) (b : Nat), RowAt b ((k + 1) * 16) (yv (twsF (tw0 S2 r u))) X → X.rangeAt b (k * 16) (row 16 (yv H))) := fun X b h => by
      rw [hH]
      exact h.sub (k * 16) 16 (by omega)
    clear hH
    generalize byB (dK 135#128 ((k : Int) : Int).toNat (tw0 S2 r u)) = F at *
    generalize twsF (tw0 S2 r u) = G at *
    clear hsm HP3 HR3 hz
    go_wp2_with (first
      | (go_at_call 25; refine htw.out.mono ?_; rintro e w4 ⟨rfl, h1⟩; have HX4 : Hid (Ext w3 w4) := hideit h1; clear h1)
      | (go_at_call 26; refine (hk0.out _ HX4.out).mono ?_; rintro e w5 ⟨b, cap, rfl, hcp, h5, h1⟩; have HX5 : Hid (Ext w w5) := hideit (Ext.trans HX3.out (Ext.trans HX4.out h1)); clear h1; replace h5 := hideit (hrg.out _ _ h5))
      | (refine wpList_load_mid rfl 23 (.tmp 95) rfl _ (k * 16) rfl (row 16 (yv H)) _ h5.out Try.underlying23 rfl (by rw [row_length]; exact info32) ?_))
    go_ret
    exact ⟨rfl, HX5.out⟩
theorem tweaks_walk (v : Value) (l : Nat) (D : Nat → BitVec 8) (hl : l ≤ 140737488351232) (u : BitVec 64) (n : Int) (w : World) (hB : BV v l D w) :
    Calls Try.prog 8 #[v, .int .u64 (u.toNat : Int), .int .i64 n] w fun e w' => e = .returned (.bool true) ∧ Below w.heap.size w w' := by
  by_cases h32 : l = 32
  · subst h32
    rcases hB with ⟨_, h⟩ | ⟨a, cap, rfl, hc, hk⟩
    · omega
    · exact tweaks_good 10 _ _ (by omega) (by omega) _ u n w (fun X hX => (xnew4_any a cap D X (hk.carry hX) hc).mono fun e w' ⟨q, c1, c2, h1, h2, h3, _⟩ => ⟨q, c1, c2, h1, h2, h3⟩) (fun X hX => rxnew4_any a cap D X (hk.carry hX) hc)
  · by_cases h64 : l = 64
    · subst h64
      rcases hB with ⟨_, h⟩ | ⟨a, cap, rfl, hc, hk⟩
      · omega
      · exact tweaks_good 14 _ _ (by omega) (by omega) _ u n w (fun X hX => (xnew8_any a cap D X (hk.carry hX) hc).mono fun e w' ⟨q, c1, c2, h1, h2, h3, _⟩ => ⟨q, c1, c2, h1, h2, h3⟩) (fun X hX => rxnew8_any a cap D X (hk.carry hX) hc)
    · rcases hB with ⟨rfl, rfl⟩ | ⟨a, cap, rfl, hc, hk⟩
      · exact tweaks_bad _ u n w (fun X _ => xnew_bad none 0 0 h32 h64 (Nat.le_refl _) hl (fun _ => rfl) D X (fun b h => by cases h)) (fun X _ => rxnew_bad none 0 0 h32 h64 X)
      · exact tweaks_bad _ u n w (fun X hX => xnew_bad (some a) l cap h32 h64 hc hl (fun h => by cases h) D X (fun b h => by cases h; exact hk.carry hX)) (fun X _ => rxnew_bad (some a) l cap h32 h64 X)
end Go.Proofs.Ytkoodgfadedeoaa
