/-
  XtsBack, walked.
-/
import Derived.Test.YtkoodgfadedeoaaX7
namespace Go.Proofs.Ytkoodgfadedeoaa
open Go.RowKit Go.BigFrame
set_option maxRecDepth 20000 in
set_option maxHeartbeats 4000000 in
theorem back_walk (key : Nat → BitVec 8) (wide : Bool) (u : BitVec 64) (v : Value) (l : Nat) (D : Nat → BitVec 8) (w : World) (hB : BV v l D w) :
    Calls Try.prog 6 #[.agg (row 64 (yv key)).toArray, .bool wide, .int .u64 (u.toNat : Int), v] w fun e w' => e = .returned (.bool true) ∧ Below w.heap.size w w' := by
  obtain ⟨c0, hc0⟩ : ∃ c0, c0 = w.heap.size := ⟨_, rfl⟩
  obtain ⟨w0, hw0⟩ : ∃ w0, w0 = w.alloc (.cells (row 64 (yv key)).toArray 51) := ⟨_, rfl⟩
  have HK : RowAt c0 64 (yv key) w0 := by rw [hw0, hc0]; exact RowAt.new w 64 (yv key) 51
  have HE0 : Ext w w0 := by rw [hw0]; exact (Below.refl _ _).alloc (Nat.le_refl _) _
  replace HK := hideit HK
  replace HE0 := hideit HE0
  replace hB := hideit hB
  replace hw0 := hideit hw0
  go_enter Try.func6, Try.ntmps6
  go_upto_region 1 with (fail)
  rw [← hw0.out, ← hc0]
  clear hw0 hc0
  cases wide with
  | false =>
    go_upto_region 4 with (fail)
    have hnw := hideit (xnew4_any ⟨c0, 0, none⟩ 64 key w0 ⟨fun j hj => (lie_of_row HK.out).1 j (by omega), HK.out.2.2⟩ (by omega))
    go_upto_region 5 with (go_at_call 18; refine hnw.out.mono ?_; rintro e w1 ⟨q, c1, c2, rfl, hP, hB1, _⟩; have HP := hideit hP; have HE1 : Hid (Ext w w1) := hideit (Ext.trans HE0.out hB1); clear hP hB1)
    obtain ⟨S1, hS1⟩ : ∃ S1, S1 = schedK 4 key := ⟨_, rfl⟩
    obtain ⟨S2, hS2⟩ : ∃ S2, S2 = schedK 4 (fun j => key (16 + j)) := ⟨_, rfl⟩
    rw [← hS1, ← hS2] at HP
    clear hS1 hS2 hnw
    go_upto_region 7 with (go_at_call 20; refine (xlives_any _).mono ?_; rintro e w2 ⟨rfl, hB2⟩; have HP2 := hideit (HP.out.ext hB2); have HE2 : Hid (Ext w w2) := hideit (Ext.trans HE1.out hB2); clear hB2)
    clear HP HE1
    by_cases hlen : l < 16 ∨ 65536 < l
    · obtain ⟨va, vc, hv⟩ : ∃ va vc, v = .slice va l vc := by
        rcases hB.out with ⟨h, h0⟩ | ⟨a, cap, h, _⟩
        · exact ⟨none, 0, by rw [h, h0]⟩
        · exact ⟨_, cap, h⟩
      subst hv
      have hlen' := hideit hlen
      by_cases h16 : l < 16
      · have i1 : (l : Int) < 16 := by omega
        clear hlen
        go_wp2_with (go_at_call 21; refine (xenc_bad ⟨q, 0, none⟩ _ va l vc hlen'.out _).mono ?_; rintro e w3 ⟨rfl, rfl⟩)
        go_ret
        exact ⟨rfl, HE2.out⟩
      · have i1 : ¬ (l : Int) < 16 := by omega
        have i2 : (65536 : Int) < (l : Int) := by omega
        clear hlen
        go_wp2_with (go_at_call 21; refine (xenc_bad ⟨q, 0, none⟩ _ va l vc hlen'.out _).mono ?_; rintro e w3 ⟨rfl, rfl⟩)
        go_ret
        exact ⟨rfl, HE2.out⟩
    · have hl1 : 16 ≤ l := by omega
      have hl2 : l ≤ 65536 := by omega
      clear hlen
      have i1 : ¬ (l : Int) < 16 := by omega
      have i2 : ¬ (65536 : Int) < (l : Int) := by omega
      have hcv0 : Hid (∀ X, Ext w X → (convert 22 9 v).run Try.prog X = .ok (.string (bstr l D)) X) := fun X hX => convV v l D X (hB.out.ext hX)
      obtain ⟨va, vc, hv⟩ : ∃ va vc, v = .slice va l vc := by
        rcases hB.out with ⟨h, h0⟩ | ⟨a, cap, h, _⟩
        · omega
        · exact ⟨_, cap, h⟩
      have hA := hideit (xencV q c1 c2 10 l S1 S2 (by omega) (by omega) u v D w2 HP2.out hl1 hl2 (hB.out.ext HE2.out))
      obtain ⟨A, hAe⟩ : ∃ A, A = xE S1 S2 10 u D l := ⟨_, rfl⟩
      obtain ⟨Cc, hCe⟩ : ∃ Cc, Cc = xD S1 S2 10 u D l := ⟨_, rfl⟩
      rw [← hAe] at hA
      have hbs : Hid (bstr l (xD S1 S2 10 u A l) = bstr l D) := by rw [hAe]; exact bstr_congr fun j hj => xD_xE S1 S2 10 (by omega) u D l hl1 j hj
      have hbs2 : Hid (bstr l (xE S1 S2 10 u Cc l) = bstr l D) := by rw [hCe]; exact bstr_congr fun j hj => xE_xD S1 S2 10 (by omega) u D l hl1 j hj
      replace hAe := hideit hAe
      replace hCe := hideit hCe
      subst hv
      go_upto_region 10 with (go_at_call 21; refine hA.out.mono ?_; rintro e w3 ⟨v3, rfl, hO3, hX3⟩; have HA3 := hideit hO3.bv; have HX3 := hideit hX3; clear hO3 hX3)
      have hDb := hideit (xdecV q c1 c2 10 l S1 S2 (by omega) (by omega) u v3 A w3 (HP2.out.ext HX3.out) hl1 hl2 HA3.out)
      go_upto_region 11 with (go_at_call 23; refine hDb.out.mono ?_; rintro e w4 ⟨v4, rfl, hO4, hX4⟩; have HB4 := hideit hO4.bv; have HX4 : Hid (Ext w2 w4) := hideit (Ext.trans HX3.out hX4); clear hO4 hX4)
      have hDc := xdecV q c1 c2 10 l S1 S2 (by omega) (by omega) u (.slice va l vc) D w4 (HP2.out.ext HX4.out) hl1 hl2 (hB.out.ext (Ext.trans HE2.out HX4.out))
      rw [← hCe.out] at hDc
      replace hDc := hideit hDc
      go_upto_region 12 with (go_at_call 23; refine hDc.out.mono ?_; rintro e w5 ⟨v5, rfl, hO5, hX5⟩; have HC5 := hideit hO5.bv; have HB5 := hideit (HB4.out.ext hX5); have HX5 : Hid (Ext w2 w5) := hideit (Ext.trans HX4.out hX5); clear hO5 hX5)
      have hDd := hideit (xencV q c1 c2 10 l S1 S2 (by omega) (by omega) u v5 Cc w5 (HP2.out.ext HX5.out) hl1 hl2 HC5.out)
      go_upto_region 13 with (go_at_call 21; refine hDd.out.mono ?_; rintro e w6 ⟨v6, rfl, hO6, hX6⟩; have HD6 := hideit hO6.bv; have HB6 := hideit (HB5.out.ext hX6); have HX6 : Hid (Ext w2 w6) := hideit (Ext.trans HX5.out hX6); clear hO6 hX6)
      have k1 := convV v4 l _ w6 HB6.out
      have k2 := convV v6 l _ w6 HD6.out
      have k3 := hcv0.out w6 (Ext.trans HE2.out HX6.out)
      rw [hbs.out] at k1
      rw [hbs2.out] at k2
      generalize bstr l D = St at *
      have HEF : Hid (Ext w w6) := hideit (Ext.trans HE2.out HX6.out)
      clear hA hDb hDc hDd HA3 HB4 HC5 HB5 HD6 HB6 HX3 HX4 HX5 HX6 hcv0 hbs hbs2 HP2 HE2
      go_wp2
      go_ret
      exact ⟨rfl, HEF.out⟩
  | true =>
    go_upto_region 4 with (fail)
    have hnw := hideit (xnew8_any ⟨c0, 0, none⟩ 64 key w0 ⟨fun j hj => (lie_of_row HK.out).1 j (by omega), HK.out.2.2⟩ (by omega))
    go_upto_region 5 with (go_at_call 18; refine hnw.out.mono ?_; rintro e w1 ⟨q, c1, c2, rfl, hP, hB1, _⟩; have HP := hideit hP; have HE1 : Hid (Ext w w1) := hideit (Ext.trans HE0.out hB1); clear hP hB1)
    obtain ⟨S1, hS1⟩ : ∃ S1, S1 = schedK 8 key := ⟨_, rfl⟩
    obtain ⟨S2, hS2⟩ : ∃ S2, S2 = schedK 8 (fun j => key (32 + j)) := ⟨_, rfl⟩
    rw [← hS1, ← hS2] at HP
    clear hS1 hS2 hnw
    go_upto_region 7 with (go_at_call 20; refine (xlives_any _).mono ?_; rintro e w2 ⟨rfl, hB2⟩; have HP2 := hideit (HP.out.ext hB2); have HE2 : Hid (Ext w w2) := hideit (Ext.trans HE1.out hB2); clear hB2)
    clear HP HE1
    by_cases hlen : l < 16 ∨ 65536 < l
    · obtain ⟨va, vc, hv⟩ : ∃ va vc, v = .slice va l vc := by
        rcases hB.out with ⟨h, h0⟩ | ⟨a, cap, h, _⟩
        · exact ⟨none, 0, by rw [h, h0]⟩
        · exact ⟨_, cap, h⟩
      subst hv
      have hlen' := hideit hlen
      by_cases h16 : l < 16
      · have i1 : (l : Int) < 16 := by omega
        clear hlen
        go_wp2_with (go_at_call 21; refine (xenc_bad ⟨q, 0, none⟩ _ va l vc hlen'.out _).mono ?_; rintro e w3 ⟨rfl, rfl⟩)
        go_ret
        exact ⟨rfl, HE2.out⟩
      · have i1 : ¬ (l : Int) < 16 := by omega
        have i2 : (65536 : Int) < (l : Int) := by omega
        clear hlen
        go_wp2_with (go_at_call 21; refine (xenc_bad ⟨q, 0, none⟩ _ va l vc hlen'.out _).mono ?_; rintro e w3 ⟨rfl, rfl⟩)
        go_ret
        exact ⟨rfl, HE2.out⟩
    · have hl1 : 16 ≤ l := by omega
      have hl2 : l ≤ 65536 := by omega
      clear hlen
      have i1 : ¬ (l : Int) < 16 := by omega
      have i2 : ¬ (65536 : Int) < (l : Int) := by omega
      have hcv0 : Hid (∀ X, Ext w X → (convert 22 9 v).run Try.prog X = .ok (.string (bstr l D)) X) := fun X hX => convV v l D X (hB.out.ext hX)
      obtain ⟨va, vc, hv⟩ : ∃ va vc, v = .slice va l vc := by
        rcases hB.out with ⟨h, h0⟩ | ⟨a, cap, h, _⟩
        · omega
        · exact ⟨_, cap, h⟩
      have hA := hideit (xencV q c1 c2 14 l S1 S2 (by omega) (by omega) u v D w2 HP2.out hl1 hl2 (hB.out.ext HE2.out))
      obtain ⟨A, hAe⟩ : ∃ A, A = xE S1 S2 14 u D l := ⟨_, rfl⟩
      obtain ⟨Cc, hCe⟩ : ∃ Cc, Cc = xD S1 S2 14 u D l := ⟨_, rfl⟩
      rw [← hAe] at hA
      have hbs : Hid (bstr l (xD S1 S2 14 u A l) = bstr l D) := by rw [hAe]; exact bstr_congr fun j hj => xD_xE S1 S2 14 (by omega) u D l hl1 j hj
      have hbs2 : Hid (bstr l (xE S1 S2 14 u Cc l) = bstr l D) := by rw [hCe]; exact bstr_congr fun j hj => xE_xD S1 S2 14 (by omega) u D l hl1 j hj
      replace hAe := hideit hAe
      replace hCe := hideit hCe
      subst hv
      go_upto_region 10 with (go_at_call 21; refine hA.out.mono ?_; rintro e w3 ⟨v3, rfl, hO3, hX3⟩; have HA3 := hideit hO3.bv; have HX3 := hideit hX3; clear hO3 hX3)
      have hDb := hideit (xdecV q c1 c2 14 l S1 S2 (by omega) (by omega) u v3 A w3 (HP2.out.ext HX3.out) hl1 hl2 HA3.out)
      go_upto_region 11 with (go_at_call 23; refine hDb.out.mono ?_; rintro e w4 ⟨v4, rfl, hO4, hX4⟩; have HB4 := hideit hO4.bv; have HX4 : Hid (Ext w2 w4) := hideit (Ext.trans HX3.out hX4); clear hO4 hX4)
      have hDc := xdecV q c1 c2 14 l S1 S2 (by omega) (by omega) u (.slice va l vc) D w4 (HP2.out.ext HX4.out) hl1 hl2 (hB.out.ext (Ext.trans HE2.out HX4.out))
      rw [← hCe.out] at hDc
      replace hDc := hideit hDc
      go_upto_region 12 with (go_at_call 23; refine hDc.out.mono ?_; rintro e w5 ⟨v5, rfl, hO5, hX5⟩; have HC5 := hideit hO5.bv; have HB5 := hideit (HB4.out.ext hX5); have HX5 : Hid (Ext w2 w5) := hideit (Ext.trans HX4.out hX5); clear hO5 hX5)
      have hDd := hideit (xencV q c1 c2 14 l S1 S2 (by omega) (by omega) u v5 Cc w5 (HP2.out.ext HX5.out) hl1 hl2 HC5.out)
      go_upto_region 13 with (go_at_call 21; refine hDd.out.mono ?_; rintro e w6 ⟨v6, rfl, hO6, hX6⟩; have HD6 := hideit hO6.bv; have HB6 := hideit (HB5.out.ext hX6); have HX6 : Hid (Ext w2 w6) := hideit (Ext.trans HX5.out hX6); clear hO6 hX6)
      have k1 := convV v4 l _ w6 HB6.out
      have k2 := convV v6 l _ w6 HD6.out
      have k3 := hcv0.out w6 (Ext.trans HE2.out HX6.out)
      rw [hbs.out] at k1
      rw [hbs2.out] at k2
      generalize bstr l D = St at *
      have HEF : Hid (Ext w w6) := hideit (Ext.trans HE2.out HX6.out)
      clear hA hDb hDc hDd HA3 HB4 HC5 HB5 HD6 HB6 HX3 HX4 HX5 HX6 hcv0 hbs hbs2 HP2 HE2
      go_wp2
      go_ret
      exact ⟨rfl, HEF.out⟩
end Go.Proofs.Ytkoodgfadedeoaa
