/-
  XtsFronts, walked.
-/
import Derived.Test.YtkoodgfadedeoabX7
namespace Go.Proofs.Ytkoodgfadedeoab
open Go.RowKit Go.BigFrame
theorem quiet_convV {W : World} {K : Act → Prop} {op : Oper} {a : Act} (x : Operand) (v : Value) (l : Nat) (g : Nat → BitVec 8) (ho : op.op = .convert 24 9 x) (hx : a.eval x = v) (hc : ∀ w', Ext W w' → BV v l g w')
    (h : K (a.put op.dst (.string (bstr l g)))) : op.quiet Try.prog a (fun w' => ∃ k : Kept (Ext W), w' = k.w) K :=
  ⟨_, fun w hw => by
    obtain ⟨k, rfl⟩ := hw
    unfold Oper.quietAt execOp
    simp only [ho, hx, Sem.run_bind, Sem.run_pure, Result.andThen_ok, convV v l g _ (hc _ k.ok)]
    exact ⟨rfl, rfl⟩, h⟩
theorem w64 (x : Int) (h0 : 0 ≤ x) (h1 : x < 4611686018427387904) : wrap64 x = x := by unfold wrap64; omega
/-- the front of a unit is enciphered as a unit of its own -/
theorem xE_front (S1 S2 : Nat → BitVec 8) (r : Nat) (u : BitVec 64) (D : Nat → BitVec 8) (l j : Nat) (hl : 48 ≤ l) (hj : j < l / 16 * 16 - 16) : xE S1 S2 r u D l j = xE S1 S2 r u D (l / 16 * 16 - 16) j := by
  unfold xE xencF
  rw [if_pos (show (l / 16 * 16 - 16) % 16 = 0 by omega)]
  by_cases h : l % 16 = 0
  · rw [if_pos h]
  · rw [if_neg h]
    unfold stealF
    rw [if_pos]
    unfold nbOf
    rw [if_neg h]
    omega
theorem BV.front {l : Nat} {D : Nat → BitVec 8} {w : World} {a : Addr} {cap n : Nat} (h : BV (.slice (some a) l cap) l D w) (hn : n ≤ l) (F : Nat → BitVec 8) (hF : ∀ j, j < n → D j = F j) : BV (.slice (some a) n cap) n F w := by
  rcases h with ⟨h, _⟩ | ⟨b, c, h, h1, h2⟩
  · cases h
  · cases h
    exact .inr ⟨a, cap, rfl, by omega, fun j hj => by rw [h2.1 j (by omega)]; show _ = some (Value.int .u8 ((F j).toNat : Int)); rw [← hF j hj]; rfl, h2.2⟩
set_option maxRecDepth 20000 in
set_option maxHeartbeats 4000000 in
theorem fronts_walk (key : Nat → BitVec 8) (u : BitVec 64) (v : Value) (l : Nat) (D : Nat → BitVec 8) (w : World) (hB : BV v l D w) :
    Calls Try.prog 3 #[.agg (row 32 (yv key)).toArray, .int .u64 (u.toNat : Int), v] w fun e w' => e = .returned (.bool true) ∧ Below w.heap.size w w' := by
  obtain ⟨c0, hc0⟩ : ∃ c0, c0 = w.heap.size := ⟨_, rfl⟩
  obtain ⟨w0, hw0⟩ : ∃ w0, w0 = w.alloc (.cells (row 32 (yv key)).toArray 22) := ⟨_, rfl⟩
  have HK : RowAt c0 32 (yv key) w0 := by rw [hw0, hc0]; exact RowAt.new w 32 (yv key) 22
  have HE0 : Ext w w0 := by rw [hw0]; exact (Below.refl _ _).alloc (Nat.le_refl _) _
  replace HK := hideit HK
  replace HE0 := hideit HE0
  replace hB := hideit hB
  replace hw0 := hideit hw0
  go_enter Try.func3, Try.ntmps3
  go_upto_region 1 with (fail)
  rw [← hw0.out, ← hc0]
  clear hw0 hc0
  have hnw := hideit (xnew4_any ⟨c0, 0, none⟩ 32 key w0 ⟨fun j hj => (lie_of_row HK.out).1 j (by omega), HK.out.2.2⟩ (by omega))
  go_upto_region 2 with (go_at_call 4; refine hnw.out.mono ?_; rintro e w1 ⟨q, c1, c2, rfl, hP, hB1, _⟩; have HP := hideit hP; have HE1 : Hid (Ext w w1) := hideit (Ext.trans HE0.out hB1); clear hP hB1)
  obtain ⟨S1, hS1⟩ : ∃ S1, S1 = schedK 4 key := ⟨_, rfl⟩
  obtain ⟨S2, hS2⟩ : ∃ S2, S2 = schedK 4 (fun j => key (16 + j)) := ⟨_, rfl⟩
  rw [← hS1, ← hS2] at HP
  clear hS1 hS2 hnw
  go_upto_region 4 with (go_at_call 5; refine (xlives_any _).mono ?_; rintro e w2 ⟨rfl, hB2⟩; have HP2 := hideit (HP.out.ext hB2); have HE2 : Hid (Ext w w2) := hideit (Ext.trans HE1.out hB2); clear hB2)
  clear HP HE1
  obtain ⟨va, vc, hv⟩ : ∃ va vc, v = .slice va l vc := by
    rcases hB.out with ⟨h, h0⟩ | ⟨a, cap, h, _⟩
    · exact ⟨none, 0, by rw [h, h0]⟩
    · exact ⟨_, cap, h⟩
  subst hv
  by_cases h48 : l < 48
  · have i1 : (l : Int) < 48 := by omega
    go_wp2
    go_ret
    exact ⟨rfl, HE2.out⟩
  · have i1 : ¬ (l : Int) < 48 := by omega
    by_cases h4096 : 4096 < l
    · have i2 : (4096 : Int) < (l : Int) := by omega
      go_wp2
      go_ret
      exact ⟨rfl, HE2.out⟩
    · have i2 : ¬ (4096 : Int) < (l : Int) := by omega
      obtain ⟨a, hva⟩ : ∃ a, va = some a := by
        rcases hB.out with ⟨h, h0⟩ | ⟨a, cap, h, _⟩
        · omega
        · cases h; exact ⟨a, rfl⟩
      subst hva
      have hcap : l ≤ vc := by
        rcases hB.out with ⟨h, h0⟩ | ⟨b, cap, h, h1, _⟩
        · cases h
        · cases h; exact h1
      obtain ⟨Q, hQ⟩ : ∃ Q, Q = l / 16 := ⟨_, rfl⟩
      obtain ⟨N, hN⟩ : ∃ N, N = l / 16 * 16 - 16 := ⟨_, rfl⟩
      have hd : (l : Int) / 16 = (Q : Int) := by omega
      have hQ1 : 3 ≤ Q := by omega
      have hQ2 : Q ≤ 256 := by omega
      have hw4 : (Q : Int) * 16 - 16 = (N : Int) := by omega
      have b1 : (0 : Int) ≤ (Q : Int) := by omega
      have b2 : (Q : Int) < 4611686018427387904 := by omega
      have b3 : (0 : Int) ≤ (Q : Int) * 16 := by omega
      have b4 : (Q : Int) * 16 < 4611686018427387904 := by omega
      have b5 : (0 : Int) ≤ (N : Int) := by omega
      have b6 : (N : Int) < 4611686018427387904 := by omega
      have hw1 : wrap64 (Q : Int) = (Q : Int) := w64 _ b1 b2
      have hw2 : wrap64 ((Q : Int) * 16) = (Q : Int) * 16 := w64 _ b3 b4
      have hw3 : wrap64 (N : Int) = (N : Int) := w64 _ b5 b6
      replace hN := hideit hN
      replace hQ := hideit hQ
      go_upto_region 7 with (fail)
      clear hw1 hw2 hw3 hw4 b1 b2 b3 b4 b5 b6 hd
      have hN := hN.out
      have hQ := hQ.out
      have hN1 : 32 ≤ N := by omega
      have hN2 : N ≤ l := by omega
      have hN3 : N ≤ 65536 := by omega
      have hl1 : 16 ≤ l := by omega
      have hl2 : l ≤ 65536 := by omega
      have hA := hideit (xencV q c1 c2 10 l S1 S2 (by omega) (by omega) u (.slice (some a) l vc) D w2 HP2.out hl1 hl2 (hB.out.ext HE2.out))
      obtain ⟨A, hAe⟩ : ∃ A, A = xE S1 S2 10 u D l := ⟨_, rfl⟩
      obtain ⟨B, hBe⟩ : ∃ B, B = xE S1 S2 10 u D N := ⟨_, rfl⟩
      rw [← hAe] at hA
      have hAB : Hid (∀ j, j < N → A j = B j) := fun j hj => by rw [hAe, hBe, hN]; exact xE_front S1 S2 10 u D l j (by omega) (by omega)
      have hback : Hid (bstr N (xD S1 S2 10 u B N) = bstr N D) := by rw [hBe]; exact bstr_congr fun j hj => xD_xE S1 S2 10 (by omega) u D N (by omega) j hj
      replace hAe := hideit hAe
      replace hN := hideit hN
      replace hQ := hideit hQ
      have HD2 : Hid (∀ X, Ext w X → BV (.slice (some a) N vc) N D X) := fun X hX => BV.front (hB.out.ext hX) hN2 D fun _ _ => rfl
      go_upto_region 8 with (go_at_call 6; refine hA.out.mono ?_; rintro e w3 ⟨v3, rfl, hO3, hX3⟩; have HO3 := hideit hO3; have HX3 : Hid (Ext w2 w3) := hideit hX3; clear hO3 hX3)
      obtain ⟨b3, cap3, rfl, hc3, hlie3, hrow3, _⟩ := lies_own HO3.out (by omega)
      have HA3 : Hid (BV (.slice (some ⟨b3, 0, none⟩) l cap3) l A w3) := .inr ⟨_, _, rfl, hc3, hlie3⟩
      clear hlie3 hrow3 HO3 hA
      have i3 : (N : Int) ≤ (vc : Int) := by omega
      have i4 : (N : Int) ≤ (cap3 : Int) := by omega
      have i5 : N ≤ vc := by omega
      have i6 : N ≤ cap3 := by omega
      have hEb := xencV q c1 c2 10 N S1 S2 (by omega) (by omega) u (.slice (some a) N vc) D w3 (HP2.out.ext HX3.out) (by omega) hN3 (HD2.out w3 (Ext.trans HE2.out HX3.out))
      rw [← hBe] at hEb
      replace hEb := hideit hEb
      replace hBe := hideit hBe
      go_upto_region 11 with (go_at_call 6; refine hEb.out.mono ?_; rintro e w4 ⟨v4, rfl, hO4, hX4⟩; have HB4 := hideit hO4.bv; have HX4 : Hid (Ext w2 w4) := hideit (Ext.trans HX3.out hX4); have HA4 := hideit (HA3.out.ext hX4); clear hO4 hX4)
      have hDc := hideit (xdecV q c1 c2 10 N S1 S2 (by omega) (by omega) u (.slice (some ⟨b3, 0, none⟩) N cap3) B w4 (HP2.out.ext HX4.out) (by omega) hN3 (BV.front HA4.out hN2 B hAB.out))
      go_upto_region 12 with (go_at_call 7; refine hDc.out.mono ?_; rintro e w5 ⟨v5, rfl, hO5, hX5⟩; have HC5 := hideit hO5.bv; have HB5 := hideit (HB4.out.ext hX5); have HX5 : Hid (Ext w2 w5) := hideit (Ext.trans HX4.out hX5); have HA5 := hideit (HA4.out.ext hX5); clear hO5 hX5)
      have HF5 := hideit (BV.front HA5.out hN2 B hAB.out)
      have HG5 := hideit (HD2.out w5 (Ext.trans HE2.out HX5.out))
      have HE5 : Hid (Ext w w5) := hideit (Ext.trans HE2.out HX5.out)
      clear hEb hDc HA3 HB4 HA4 HA5 HX3 HX4 HX5 HP2 HE2 hB HK HE0
      have hd5 : Ext w5 w5.drew := (Below.refl _ _).drew
      have hne := kept_ne w5.drew
      refine wp_region_kept (Ok := Ext w5.drew) (by kernel_rfl) (by kernel_rfl) (Ext.refl _) ?_
      repeat (go_big_quiet_step (exact rfl))
      go_big_quiet_want
      refine quiet_convV (.tmp 86) (.slice (some ⟨b3, 0, none⟩) N cap3) N B rfl rfl (fun w' hw' => (HF5.out.ext hd5).ext hw') ?_
      simp only [Act.put, List.setIfInBounds_toArray, List.set_cons_zero, List.set_cons_succ]
      go_big_quiet_on
      repeat (go_big_quiet_step (exact rfl))
      go_big_quiet_want
      refine quiet_convV (.tmp 88) v4 N B rfl rfl (fun w' hw' => (HB5.out.ext hd5).ext hw') ?_
      simp only [Act.put, List.setIfInBounds_toArray, List.set_cons_zero, List.set_cons_succ]
      go_big_quiet_on
      repeat (go_big_quiet_step (exact rfl))
      go_big_quiet_want
      refine quiet_convV (.tmp 93) v5 N (xD S1 S2 10 u B N) rfl rfl (fun w' hw' => (HC5.out.ext hd5).ext hw') ?_
      rw [hback.out]
      simp only [Act.put, List.setIfInBounds_toArray, List.set_cons_zero, List.set_cons_succ]
      go_big_quiet_on
      repeat (go_big_quiet_step (exact rfl))
      go_big_quiet_want
      refine quiet_convV (.tmp 97) (.slice (some a) N vc) N D rfl rfl (fun w' hw' => (HG5.out.ext hd5).ext hw') ?_
      simp only [Act.put, List.setIfInBounds_toArray, List.set_cons_zero, List.set_cons_succ]
      go_big_quiet_on
      repeat (go_big_quiet_step (exact rfl))
      refine wpQuiet_nil ?_
      intro _ hw'
      obtain ⟨k, hk⟩ := hw'
      subst hk
      go_wp2
      go_ret
      exact ⟨rfl, Ext.trans (Ext.trans HE5.out hd5) k.ok⟩
end Go.Proofs.Ytkoodgfadedeoab
