/-
  XtsPlaces, walked.
-/
import Derived.Test.YtkoodgfadedeoaaX7
import Derived.Test.YtkoodgfadedeoaaGrowV
import Derived.Laws.Strings
namespace Go.Proofs.Ytkoodgfadedeoaa
open Go.RowKit Go.BigFrame
/-- all bytes but those of one block, changed -/
def chg (D : Nat → BitVec 8) (o : BitVec 8) (k j : Nat) : BitVec 8 := if j / 16 = k then D j else xB (D j) o
theorem push_all : ∀ (l : List Int) (b : ByteArray), (l.foldl (fun r n => r.push (UInt8.ofNat n.toNat)) b).data.toList = b.data.toList ++ l.map (fun n => UInt8.ofNat n.toNat)
  | [], b => by simp
  | x :: l, b => by
    rw [List.foldl_cons, push_all l]
    show (b.data.push _).toList ++ _ = _
    simp
theorem bstr_list (n : Nat) (f : Nat → BitVec 8) : (bstr n f).toList = (List.range n).map (fun j => UInt8.ofNat (f j).toNat) := by
  rw [ByteArray.toList_eq]
  unfold bstr
  rw [push_all]
  show [] ++ _ = _
  rw [List.nil_append, List.map_map]
  rfl
theorem bstr_eq (n : Nat) (f g : Nat → BitVec 8) : (bstr n f).toList = (bstr n g).toList ↔ ∀ j, j < n → f j = g j := by
  rw [bstr_list, bstr_list]
  constructor
  · intro h j hj
    have h1 := congrArg (fun l : List UInt8 => l[j]?) h
    simp [hj] at h1
    exact h1
  · intro h
    exact List.map_congr_left fun j hj => by rw [h j (by simpa using hj)]
theorem xE_block (S1 S2 : Nat → BitVec 8) (u : BitVec 64) (D : Nat → BitVec 8) (n i j : Nat) (hj : j < 16) :
    xE S1 S2 10 u D (16 * n) (16 * i + j) = chF (encF S1 bxT twT 10) (dK 135#128 i (tw0 S2 10 u)) (fun x => D (16 * i + x)) j := by
  unfold xE xencF
  rw [if_pos (by omega)]
  unfold fronts
  rw [show (16 * i + j) / 16 = i by omega, show (16 * i + j) % 16 = j by omega]
theorem xB_self : ∀ a o : BitVec 8, xB a o = a ↔ o = 0#8 := by
  intro a o
  constructor
  · intro h
    have h2 : a ^^^ (a ^^^ o) = a ^^^ a := by rw [show a ^^^ o = a from h]
    rwa [← BitVec.xor_assoc, BitVec.xor_self, BitVec.zero_xor] at h2
  · rintro rfl
    show a ^^^ 0#8 = a
    rw [BitVec.xor_zero]
theorem places_str (S1 S2 : Nat → BitVec 8) (u : BitVec 64) (D : Nat → BitVec 8) (o : BitVec 8) (k n i : Nat) :
    (i = k → bstr 16 (fun j => xE S1 S2 10 u D (16 * n) (16 * i + j)) = bstr 16 (fun j => xE S1 S2 10 u (chg D o k) (16 * n) (16 * i + j))) ∧
    (i ≠ k → ((bstr 16 (fun j => xE S1 S2 10 u D (16 * n) (16 * i + j))).toList == (bstr 16 (fun j => xE S1 S2 10 u (chg D o k) (16 * n) (16 * i + j))).toList) = ((o.toNat : Int) == 0)) := by
  constructor
  · rintro rfl
    refine bstr_congr fun j hj => ?_
    rw [xE_block _ _ _ _ _ _ _ hj, xE_block _ _ _ _ _ _ _ hj]
    have h : (fun x => chg D o i (16 * i + x)) = fun x => if x < 16 then D (16 * i + x) else chg D o i (16 * i + x) := by
      funext x
      by_cases hx : x < 16
      · rw [if_pos hx]; unfold chg; rw [if_pos (by omega)]
      · rw [if_neg hx]
    rw [h]
    exact (undoes_dec S1 10 (by omega)).congr _ _ _ (fun x hx => by show D (16 * i + x) = if x < 16 then D (16 * i + x) else _; rw [if_pos hx]) j hj
  · intro hik
    have key : (bstr 16 (fun j => xE S1 S2 10 u D (16 * n) (16 * i + j))).toList = (bstr 16 (fun j => xE S1 S2 10 u (chg D o k) (16 * n) (16 * i + j))).toList ↔ o = 0#8 := by
      rw [bstr_eq]
      constructor
      · intro h
        have e : Eq16 (chF (encF S1 bxT twT 10) (dK 135#128 i (tw0 S2 10 u)) (fun x => D (16 * i + x))) (chF (encF S1 bxT twT 10) (dK 135#128 i (tw0 S2 10 u)) (fun x => chg D o k (16 * i + x))) := fun j hj => by
          have h1 := h j hj
          rwa [xE_block _ _ _ _ _ _ _ hj, xE_block _ _ _ _ _ _ _ hj] at h1
        have U := undoes_enc S1 10 (by omega)
        have e2 := ((U.back (dK 135#128 i (tw0 S2 10 u)) (fun x => D (16 * i + x))).symm.trans (U.congr _ _ _ e)).trans (U.back _ _)
        have e3 : D (16 * i + 0) = chg D o k (16 * i + 0) := e2 0 (by omega)
        unfold chg at e3
        rw [if_neg (by omega)] at e3
        exact (xB_self _ _).1 e3.symm
      · rintro rfl j hj
        rw [xE_block _ _ _ _ _ _ _ hj, xE_block _ _ _ _ _ _ _ hj]
        have h : (fun x => chg D 0#8 k (16 * i + x)) = fun x => D (16 * i + x) := by
          funext x
          unfold chg
          split
          · rfl
          · exact (xB_self _ _).2 rfl
        rw [h]
    rw [Bool.eq_iff_iff, beq_iff_eq, beq_iff_eq, key]
    constructor
    · rintro rfl; rfl
    · intro h
      exact BitVec.eq_of_toNat_eq (by simpa using h)
set_option maxRecDepth 20000 in
set_option maxHeartbeats 4000000 in
theorem places_walk (key : Nat → BitVec 8) (u : BitVec 64) (v : Value) (l : Nat) (D : Nat → BitVec 8) (ai : Int) (ha : (Lit.int .i64 ai).wf = true) (o : BitVec 8) (w : World) (hB : BV v l D w) :
    Calls Try.prog 7 #[.agg (row 32 (yv key)).toArray, .int .u64 (u.toNat : Int), v, .int .i64 ai, .int .u8 (o.toNat : Int)] w fun e w' => e = .returned (.bool true) ∧ Below w.heap.size w w' := by
  have hab := bounds_i64 ha
  clear ha
  obtain ⟨c0, hc0⟩ : ∃ c0, c0 = w.heap.size := ⟨_, rfl⟩
  obtain ⟨w0, hw0⟩ : ∃ w0, w0 = w.alloc (.cells (row 32 (yv key)).toArray 53) := ⟨_, rfl⟩
  have HK : RowAt c0 32 (yv key) w0 := by rw [hw0, hc0]; exact RowAt.new w 32 (yv key) 53
  have HE0 : Ext w w0 := by rw [hw0]; exact (Below.refl _ _).alloc (Nat.le_refl _) _
  replace HK := hideit HK
  replace HE0 := hideit HE0
  replace hB := hideit hB
  replace hw0 := hideit hw0
  go_enter Try.func7, Try.ntmps7
  go_upto_region 1 with (fail)
  rw [← hw0.out, ← hc0]
  clear hw0 hc0
  have hnw := hideit (xnew4_any ⟨c0, 0, none⟩ 32 key w0 (lie_of_row HK.out) (by omega))
  go_upto_region 2 with (go_at_call 18; refine hnw.out.mono ?_; rintro e w1 ⟨q, c1, c2, rfl, hP, hB1, _⟩; have HP := hideit hP; have HE1 : Hid (Ext w w1) := hideit (Ext.trans HE0.out hB1); clear hP hB1)
  obtain ⟨S1, hS1⟩ : ∃ S1, S1 = schedK 4 key := ⟨_, rfl⟩
  obtain ⟨S2, hS2⟩ : ∃ S2, S2 = schedK 4 (fun j => key (16 + j)) := ⟨_, rfl⟩
  rw [← hS1, ← hS2] at HP
  clear hS1 hS2 hnw
  go_upto_region 4 with (go_at_call 20; refine (xlives_any _).mono ?_; rintro e w2 ⟨rfl, hB2⟩; have HP2 := hideit (HP.out.ext hB2); have HE2 : Hid (Ext w w2) := hideit (Ext.trans HE1.out hB2); clear hB2)
  clear HP HE1 HK HE0
  obtain ⟨va, vc, hv⟩ : ∃ va vc, v = .slice va l vc := by
    rcases hB.out with ⟨h, h0⟩ | ⟨a, cap, h, _⟩
    · exact ⟨none, 0, by rw [h, h0]⟩
    · exact ⟨_, cap, h⟩
  subst hv
  have l0 : (0 : Int) ≤ (l : Int) := by omega
  have hmod : ((l : Int)).tmod 16 = ((l % 16 : Nat) : Int) := by rw [Int.tmod_eq_emod_of_nonneg (by omega)]; omega
  by_cases h16 : l < 16
  · have i1 : (l : Int) < 16 := by omega
    go_wp2
    go_ret
    exact ⟨rfl, HE2.out⟩
  by_cases h64 : 65536 < l
  · have i1 : ¬ (l : Int) < 16 := by omega
    have i2 : (65536 : Int) < (l : Int) := by omega
    go_wp2
    go_ret
    exact ⟨rfl, HE2.out⟩
  by_cases hm16 : l % 16 = 0
  · obtain ⟨n, rfl⟩ : ∃ n, l = 16 * n := ⟨l / 16, by omega⟩
    have i1 : ¬ 16 * (n : Int) < 16 := by omega
    have i2 : ¬ (65536 : Int) < 16 * (n : Int) := by omega
    have i3 : (16 * (n : Int)).tmod 16 = 0 := by rw [Int.mul_tmod_right]
    have hn1 : Hid (1 ≤ n) := by unfold Hid; omega
    have hn2 : Hid (16 * n ≤ 65536) := by unfold Hid; omega
    have n0 : (0 : Int) < (n : Int) := by omega
    have n1 : (n : Int) ≤ 4096 := by omega
    have n2 : ¬ (n : Int) = 0 := by omega
    clear hmod h16 h64 hm16
    have ht1 : ai.tmod (n : Int) < (n : Int) := Int.tmod_lt_of_pos _ n0
    have ht2 : -(n : Int) < ai.tmod (n : Int) := Int.neg_lt_of_neg_lt (by rw [← Int.neg_tmod]; exact Int.tmod_lt_of_pos _ n0)
    by_cases hneg : ai.tmod (n : Int) < 0
    · go_upto_region 10 with (fail)
      obtain ⟨k, hk⟩ : ∃ k : Nat, ai.tmod (n : Int) + (n : Int) = (k : Int) := ⟨(ai.tmod (n : Int) + (n : Int)).toNat, by omega⟩
      rw [hk]
      have hkn : k < n := by omega
      clear hk ht1 ht2 hneg hab
      replace hkn := hideit hkn
      have k0 : (0 : Int) ≤ (k : Int) := by omega
      have k1 : (k : Int) < (n : Int) := by have := hkn.out; omega
      refine wp_region_lit ?_
      have HOe := hideit (own_empty w2 w2.heap.size 5 (yv D) (Nat.le_refl _))
      have HEe : Ext w2 (w2.alloc (.cells #[] 5)) := (Below.refl _ _).alloc (Nat.le_refl _) _
      have HBe := hideit (hB.out.ext (Ext.trans HE2.out HEe))
      refine wpList_to rfl (.slice (some ⟨w2.heap.size, 0, none⟩) 0 0) (w2.alloc (.cells #[] 5)) (by simp [go_sem]) ?_
      simp only [Act.put, List.setIfInBounds_toArray, List.set_cons_zero, List.set_cons_succ]
      refine wpList_run rfl (.slice va (16 * n) vc) (by simp [go_sem]) ?_
      simp only [Act.put, List.setIfInBounds_toArray, List.set_cons_zero, List.set_cons_succ]
      refine wpList_growV (n := 0) (base := w2.heap.size) elem22 rfl (.tmp 62) (.tmp 63) rfl rfl HOe.out (.slice va (16 * n) vc) (16 * n) D (yv D) rfl HBe.out (fun j hj => by omega) (fun j hj => by rw [Nat.zero_add]) (by have := hn2.out; omega) (by simp) ?_
      intro vo w3 hO3 hg3
      rw [Nat.zero_add] at hO3
      have HE3 : Hid (Ext w2 w3) := hideit (gr_ext HEe hg3 fun j hj => (HOe.out.lt j hj).1)
      obtain ⟨ob, oc, hvo, hob, hoc, _, hR3⟩ := hO3.lies (by have := hn1.out; omega)
      subst hvo
      have HR3 := hideit hR3
      clear hO3 hg3 HOe HEe HBe hR3
      simp only [Act.put, List.setIfInBounds_toArray, List.set_cons_zero, List.set_cons_succ]
      go_upto_region 12 with (fail)
      go_loopw [16] (fun i wr => ∃ m : Nat, m ≤ 16 * n ∧ i = .int .i64 (m : Int) ∧ RowAt ob (16 * n) (yv fun j => if j < m then chg D o k j else D j) wr ∧ Ext w2 wr) (fun i _ => 16 * n - (intOf i).toNat)
      case atStart => exact ⟨0, by omega, rfl, HR3.out.congr fun j _ => by simp only [yv]; rw [if_neg (by omega)], HE3.out⟩
      case round =>
        clear HR3 HE3
        obtain ⟨m, hm, rfl, hR, hE⟩ := hrel
        have HR := hideit hR
        have HE := hideit hE
        clear hE
        by_cases hlt : m < 16 * n
        · have m0 : (0 : Int) ≤ (m : Int) := by omega
          have m1 : (m : Int) < 16 * (n : Int) := by omega
          have m2 : 16 * (n : Int) ≤ 65536 := by have := hn2.out; omega
          by_cases hmk : m / 16 = k
          · have hmk' : ((m : Int) / 16 != (k : Int)) = false := by simp; omega
            clear hR
            have hmk2 : ¬ ((m : Int) / 16 ≠ (k : Int)) := by omega
            go_wp2
            go_roundw
            case rel =>
              have h1 : RowAt ob (16 * n) (yv fun j => if j < m + 1 then chg D o k j else D j) wr := HR.out.congr fun j _ => by
                simp only [yv]
                by_cases e : j = m
                · subst e; rw [if_neg (by omega), if_pos (by omega)]; unfold chg; rw [if_pos hmk]
                · by_cases h : j < m
                  · rw [if_pos h, if_pos (by omega)]
                  · rw [if_neg h, if_neg (by omega)]
              first | exact ⟨(m + 1 : Nat), by omega, by go_num, h1, HE.out⟩ | ((repeat apply Exists.intro); exact ⟨⟨m + 1, by omega, by go_num, h1, HE.out⟩, rfl⟩)
            case measure => simp [intOf]; omega
          · have hmk' : ((m : Int) / 16 != (k : Int)) = true := by simp; omega
            have e1 : wr.cell? ⟨ob, m, none⟩ = some (.int .u8 ((D m).toNat : Int)) := by
              have h := hR.1 m hlt
              simp only [yv] at h
              rwa [if_neg (by omega)] at h
            have g1 := hR.2.1 m hlt
            have o3 : bits .xor .u8 ((D m).toNat : Int) (o.toNat : Int) = ((xB (D m) o).toNat : Int) := xB_fact _ _
            clear hR
            go_upto_region 13 with (fail)
            have HS := hideit (RowAt.set HR.out m (.int .u8 ((xB (D m) o).toNat : Int)))
            have HBu : But ob wr (wr.setCell ⟨ob, m, none⟩ (.int .u8 ((xB (D m) o).toNat : Int))) := but_setCell _ _ _ _
            have HE' : Hid (Ext w2 _) := hideit (Ext.but HE.out HBu hob)
            clear HR HE HBu e1 g1
            generalize wr.setCell ⟨ob, m, none⟩ (.int .u8 ((xB (D m) o).toNat : Int)) = Y at *
            go_wp2
            go_roundw
            case rel =>
              have h1 : RowAt ob (16 * n) (yv fun j => if j < m + 1 then chg D o k j else D j) Y := HS.out.congr fun j _ => by
                simp only [yv]
                by_cases e : j = m
                · subst e; rw [if_pos rfl, if_pos (by omega)]; unfold chg; rw [if_neg hmk]
                · rw [if_neg e]
                  by_cases h : j < m
                  · rw [if_pos h, if_pos (by omega)]
                  · rw [if_neg h, if_neg (by omega)]
              first | exact ⟨(m + 1 : Nat), by omega, by go_num, h1, HE'.out⟩ | ((repeat apply Exists.intro); exact ⟨⟨m + 1, by omega, by go_num, h1, HE'.out⟩, rfl⟩)
            case measure => simp [intOf]; omega
        · obtain rfl : m = 16 * n := by omega
          have HR4 : Hid (RowAt ob (16 * n) (yv (chg D o k)) wr) := hideit (HR.out.congr fun j hj => by simp only [yv]; rw [if_pos hj])
          clear HR hR
          have HV4 : Hid (BV (.slice (some ⟨ob, 0, none⟩) (16 * n) oc) (16 * n) (chg D o k) wr) := .inr ⟨_, oc, rfl, hoc, lie_of_row HR4.out⟩
          have hA := xencV q c1 c2 10 (16 * n) S1 S2 (by omega) (by omega) u (.slice va (16 * n) vc) D wr (HP2.out.ext HE.out) (by have := hn1.out; omega) hn2.out (hB.out.ext (Ext.trans HE2.out HE.out))
          obtain ⟨A, hAe⟩ : ∃ A, A = xE S1 S2 10 u D (16 * n) := ⟨_, rfl⟩
          obtain ⟨B, hBe⟩ : ∃ B, B = xE S1 S2 10 u (chg D o k) (16 * n) := ⟨_, rfl⟩
          rw [← hAe] at hA
          have hAB1 : Hid (bstr 16 (fun j => A (16 * k + j)) = bstr 16 (fun j => B (16 * k + j))) := by rw [hAe, hBe]; exact (places_str S1 S2 u D o k n k).1 rfl
          have hAB2 : Hid (∀ i, i < n → i ≠ k → ((bstr 16 (fun j => A (16 * i + j))).toList == (bstr 16 (fun j => B (16 * i + j))).toList) = ((o.toNat : Int) == 0)) := fun i _ hik => by rw [hAe, hBe]; exact (places_str S1 S2 u D o k n i).2 hik
          replace hA := hideit hA
          replace hAe := hideit hAe
          replace hBe := hideit hBe
          go_upto_region 17 with (go_at_call 21; refine hA.out.mono ?_; rintro e w5 ⟨v5, rfl, hO5, hX5⟩; have HO5 := hideit hO5; have HX5 := hideit hX5; clear hO5 hX5)
          have hBb := xencV q c1 c2 10 (16 * n) S1 S2 (by omega) (by omega) u (.slice (some ⟨ob, 0, none⟩) (16 * n) oc) (chg D o k) w5 (HP2.out.ext (Ext.trans HE.out HX5.out)) (by have := hn1.out; omega) hn2.out (HV4.out.ext HX5.out)
          rw [← hBe.out] at hBb
          replace hBb := hideit hBb
          go_upto_region 18 with (go_at_call 21; refine hBb.out.mono ?_; rintro e w6 ⟨v6, rfl, hO6, hX6⟩; have HO6 := hideit hO6; have HX6 := hideit hX6; clear hO6 hX6)
          obtain ⟨ab, ac, hva, _, hac, _, hRA⟩ := (HO5.out.ext HX6.out).lies (by have := hn1.out; omega)
          obtain ⟨bb, bc, hvb, _, hbc, _, hRB⟩ := HO6.out.lies (by have := hn1.out; omega)
          subst hva
          subst hvb
          have HRA := hideit hRA
          have HRB := hideit hRB
          have HE6 : Hid (Ext w w6) := hideit (Ext.trans (Ext.trans (Ext.trans HE2.out HE.out) HX5.out) HX6.out)
          clear hRA hRB HO5 HO6 HX5 HX6 hA hBb HR4 HV4 HE
          have j1 : 16 * (k : Int) + 16 ≤ 16 * (n : Int) := by omega
          have j2 : 16 * (k : Int) + 16 ≤ (ac : Int) := by omega
          have j3 : 16 * (k : Int) + 16 ≤ (bc : Int) := by omega
          have j4 : (0 : Int) ≤ 16 * (k : Int) := by omega
          have j5 : 16 * (k : Int) ≤ 16 * (k : Int) + 16 := by omega
          have j6 : 16 * (k : Int) + 16 ≤ 65536 := by omega
          have hne := kept_ne w6.drew
          refine wp_region_kept (Ok := Ext w6.drew) (by kernel_rfl) (by kernel_rfl) (Ext.refl _) ?_
          have j7 : 16 * k + 16 - 16 * k = 16 := by omega
          have hkn' := hkn.out
          repeat (go_big_quiet_step (exact rfl))
          go_big_quiet_want
          refine quiet_conv (.tmp 117) ab (16 * k) (16 * k + 16 - 16 * k) (ac - 16 * k) (fun j => A (16 * k + j)) rfl rfl (fun w' hw' => by rw [j7]; exact (RowAt.carry (RowAt.drew HRA.out) hw').sub (16 * k) 16 (by omega)) ?_
          simp only [Act.put, List.setIfInBounds_toArray, List.set_cons_zero, List.set_cons_succ]
          rw [j7]
          go_big_quiet_on
          repeat (go_big_quiet_step (exact rfl))
          have hS := hAB1.out
          go_big_quiet_want
          refine quiet_conv (.tmp 125) bb (16 * k) (16 * k + 16 - 16 * k) (bc - 16 * k) (fun j => B (16 * k + j)) rfl rfl (fun w' hw' => by rw [j7]; exact (RowAt.carry (RowAt.drew HRB.out) hw').sub (16 * k) 16 (by omega)) ?_
          simp only [Act.put, List.setIfInBounds_toArray, List.set_cons_zero, List.set_cons_succ]
          rw [j7]
          go_big_quiet_on
          repeat (go_big_quiet_step (exact rfl))
          refine wpQuiet_nil ?_
          intro _ hw'
          obtain ⟨p, hp⟩ := hw'
          subst hp
          clear hS j1 j2 j3 j4 j5 j6 j7 hne
          go_upto_region 21 with (fail)
          go_loopw [21] (fun i wr => ∃ m : Nat, m ≤ n ∧ i = .int .i64 (m : Int) ∧ Ext w6 wr) (fun i _ => n - (intOf i).toNat)
          case atStart => exact ⟨0, by omega, rfl, Ext.trans ((Below.refl _ _).drew) p.ok⟩
          case round =>
            obtain ⟨m, hm, rfl, hX⟩ := hrel
            have HX := hideit hX
            clear hX
            by_cases hlt : m < n
            · have m0 : (0 : Int) ≤ (m : Int) := by omega
              have m1 : (m : Int) < (n : Int) := by omega
              have j1 : 16 * (m : Int) + 16 ≤ 16 * (n : Int) := by omega
              have j2 : 16 * (m : Int) + 16 ≤ (ac : Int) := by omega
              have j3 : 16 * (m : Int) + 16 ≤ (bc : Int) := by omega
              have j4 : (0 : Int) ≤ 16 * (m : Int) := by omega
              have j5 : 16 * (m : Int) ≤ 16 * (m : Int) + 16 := by omega
              have j6 : 16 * (m : Int) + 16 ≤ 65536 := by omega
              have j7 : 16 * m + 16 - 16 * m = 16 := by omega
              have HRA := hideit (HRA.out.carry HX.out)
              have HRB := hideit (HRB.out.carry HX.out)
              have hne := kept_ne wr.drew
              go_upto_region 23 with (fail)
              by_cases hmk : m = k
              · have hmk' : ((m : Int) != (k : Int)) = false := by simp; omega
                refine wp_region_kept (Ok := Ext wr.drew) (by kernel_rfl) (by kernel_rfl) (Ext.refl _) ?_
                repeat (go_big_quiet_step (exact rfl))
                refine wpQuiet_nil ?_
                intro _ hw'
                obtain ⟨p, hp⟩ := hw'
                subst hp
                have hfin : Hid (Ext w6 p.w) := hideit (Ext.trans (Ext.trans HX.out ((Below.refl _ _).drew)) p.ok)
                clear hne
                go_wp2
                go_roundw
                case rel =>
                  first | exact ⟨(m + 1 : Nat), by omega, by go_num, hfin.out⟩ | ((repeat apply Exists.intro); exact ⟨⟨m + 1, by omega, by go_num, hfin.out⟩, rfl⟩)
                case measure => simp [intOf]; omega
              · have hmk' : ((m : Int) != (k : Int)) = true := by simp; omega
                have hS := hAB2.out m hlt hmk
                refine wp_region_kept (Ok := Ext wr.drew) (by kernel_rfl) (by kernel_rfl) (Ext.refl _) ?_
                repeat (go_big_quiet_step (exact rfl))
                go_big_quiet_want
                refine quiet_conv (.tmp 144) ab (16 * m) (16 * m + 16 - 16 * m) (ac - 16 * m) (fun j => A (16 * m + j)) rfl rfl (fun w' hw' => by rw [j7]; exact (RowAt.carry (RowAt.drew HRA.out) hw').sub (16 * m) 16 (by omega)) ?_
                simp only [Act.put, List.setIfInBounds_toArray, List.set_cons_zero, List.set_cons_succ]
                rw [j7]
                go_big_quiet_on
                repeat (go_big_quiet_step (exact rfl))
                go_big_quiet_want
                refine quiet_conv (.tmp 152) bb (16 * m) (16 * m + 16 - 16 * m) (bc - 16 * m) (fun j => B (16 * m + j)) rfl rfl (fun w' hw' => by rw [j7]; exact (RowAt.carry (RowAt.drew HRB.out) hw').sub (16 * m) 16 (by omega)) ?_
                simp only [Act.put, List.setIfInBounds_toArray, List.set_cons_zero, List.set_cons_succ]
                rw [j7]
                go_big_quiet_on
                repeat (go_big_quiet_step (exact rfl))
                refine wpQuiet_nil ?_
                intro _ hw'
                obtain ⟨p, hp⟩ := hw'
                subst hp
                have hfin : Hid (Ext w6 p.w) := hideit (Ext.trans (Ext.trans HX.out ((Below.refl _ _).drew)) p.ok)
                clear hne hS
                go_wp2
                go_roundw
                case rel =>
                  first | exact ⟨(m + 1 : Nat), by omega, by go_num, hfin.out⟩ | ((repeat apply Exists.intro); exact ⟨⟨m + 1, by omega, by go_num, hfin.out⟩, rfl⟩)
                case measure => simp [intOf]; omega
            · obtain rfl : m = n := by omega
              go_wp2
              go_ret
              exact ⟨rfl, Ext.trans HE6.out HX.out⟩
    · go_upto_region 10 with (fail)
      obtain ⟨k, hk⟩ : ∃ k : Nat, ai.tmod (n : Int) = (k : Int) := ⟨(ai.tmod (n : Int)).toNat, by omega⟩
      rw [hk]
      have hkn : k < n := by omega
      clear ht1 ht2 hneg hab
      replace hk := hideit hk
      replace hkn := hideit hkn
      have k0 : (0 : Int) ≤ (k : Int) := by omega
      have k1 : (k : Int) < (n : Int) := by have := hkn.out; omega
      refine wp_region_lit ?_
      have HOe := hideit (own_empty w2 w2.heap.size 5 (yv D) (Nat.le_refl _))
      have HEe : Ext w2 (w2.alloc (.cells #[] 5)) := (Below.refl _ _).alloc (Nat.le_refl _) _
      have HBe := hideit (hB.out.ext (Ext.trans HE2.out HEe))
      refine wpList_to rfl (.slice (some ⟨w2.heap.size, 0, none⟩) 0 0) (w2.alloc (.cells #[] 5)) (by simp [go_sem]) ?_
      simp only [Act.put, List.setIfInBounds_toArray, List.set_cons_zero, List.set_cons_succ]
      refine wpList_run rfl (.slice va (16 * n) vc) (by simp [go_sem]) ?_
      simp only [Act.put, List.setIfInBounds_toArray, List.set_cons_zero, List.set_cons_succ]
      refine wpList_growV (n := 0) (base := w2.heap.size) elem22 rfl (.tmp 62) (.tmp 63) rfl rfl HOe.out (.slice va (16 * n) vc) (16 * n) D (yv D) rfl HBe.out (fun j hj => by omega) (fun j hj => by rw [Nat.zero_add]) (by have := hn2.out; omega) (by simp) ?_
      intro vo w3 hO3 hg3
      rw [Nat.zero_add] at hO3
      have HE3 : Hid (Ext w2 w3) := hideit (gr_ext HEe hg3 fun j hj => (HOe.out.lt j hj).1)
      obtain ⟨ob, oc, hvo, hob, hoc, _, hR3⟩ := hO3.lies (by have := hn1.out; omega)
      subst hvo
      have HR3 := hideit hR3
      clear hO3 hg3 HOe HEe HBe hR3
      simp only [Act.put, List.setIfInBounds_toArray, List.set_cons_zero, List.set_cons_succ]
      go_upto_region 12 with (fail)
      go_loopw [16] (fun i wr => ∃ m : Nat, m ≤ 16 * n ∧ i = .int .i64 (m : Int) ∧ RowAt ob (16 * n) (yv fun j => if j < m then chg D o k j else D j) wr ∧ Ext w2 wr) (fun i _ => 16 * n - (intOf i).toNat)
      case atStart => exact ⟨0, by omega, rfl, HR3.out.congr fun j _ => by simp only [yv]; rw [if_neg (by omega)], HE3.out⟩
      case round =>
        clear HR3 HE3
        obtain ⟨m, hm, rfl, hR, hE⟩ := hrel
        have HR := hideit hR
        have HE := hideit hE
        clear hE
        by_cases hlt : m < 16 * n
        · have m0 : (0 : Int) ≤ (m : Int) := by omega
          have m1 : (m : Int) < 16 * (n : Int) := by omega
          have m2 : 16 * (n : Int) ≤ 65536 := by have := hn2.out; omega
          by_cases hmk : m / 16 = k
          · have hmk' : ((m : Int) / 16 != (k : Int)) = false := by simp; omega
            clear hR
            have hmk2 : ¬ ((m : Int) / 16 ≠ (k : Int)) := by omega
            go_wp2
            go_roundw
            case rel =>
              have h1 : RowAt ob (16 * n) (yv fun j => if j < m + 1 then chg D o k j else D j) wr := HR.out.congr fun j _ => by
                simp only [yv]
                by_cases e : j = m
                · subst e; rw [if_neg (by omega), if_pos (by omega)]; unfold chg; rw [if_pos hmk]
                · by_cases h : j < m
                  · rw [if_pos h, if_pos (by omega)]
                  · rw [if_neg h, if_neg (by omega)]
              first | exact ⟨(m + 1 : Nat), by omega, by go_num, h1, HE.out⟩ | ((repeat apply Exists.intro); exact ⟨⟨m + 1, by omega, by go_num, h1, HE.out⟩, rfl⟩)
            case measure => simp [intOf]; omega
          · have hmk' : ((m : Int) / 16 != (k : Int)) = true := by simp; omega
            have e1 : wr.cell? ⟨ob, m, none⟩ = some (.int .u8 ((D m).toNat : Int)) := by
              have h := hR.1 m hlt
              simp only [yv] at h
              rwa [if_neg (by omega)] at h
            have g1 := hR.2.1 m hlt
            have o3 : bits .xor .u8 ((D m).toNat : Int) (o.toNat : Int) = ((xB (D m) o).toNat : Int) := xB_fact _ _
            clear hR
            go_upto_region 13 with (fail)
            have HS := hideit (RowAt.set HR.out m (.int .u8 ((xB (D m) o).toNat : Int)))
            have HBu : But ob wr (wr.setCell ⟨ob, m, none⟩ (.int .u8 ((xB (D m) o).toNat : Int))) := but_setCell _ _ _ _
            have HE' : Hid (Ext w2 _) := hideit (Ext.but HE.out HBu hob)
            clear HR HE HBu e1 g1
            generalize wr.setCell ⟨ob, m, none⟩ (.int .u8 ((xB (D m) o).toNat : Int)) = Y at *
            go_wp2
            go_roundw
            case rel =>
              have h1 : RowAt ob (16 * n) (yv fun j => if j < m + 1 then chg D o k j else D j) Y := HS.out.congr fun j _ => by
                simp only [yv]
                by_cases e : j = m
                · subst e; rw [if_pos rfl, if_pos (by omega)]; unfold chg; rw [if_neg hmk]
                · rw [if_neg e]
                  by_cases h : j < m
                  · rw [if_pos h, if_pos (by omega)]
                  · rw [if_neg h, if_neg (by omega)]
              first | exact ⟨(m + 1 : Nat), by omega, by go_num, h1, HE'.out⟩ | ((repeat apply Exists.intro); exact ⟨⟨m + 1, by omega, by go_num, h1, HE'.out⟩, rfl⟩)
            case measure => simp [intOf]; omega
        · obtain rfl : m = 16 * n := by omega
          have HR4 : Hid (RowAt ob (16 * n) (yv (chg D o k)) wr) := hideit (HR.out.congr fun j hj => by simp only [yv]; rw [if_pos hj])
          clear HR hR
          have HV4 : Hid (BV (.slice (some ⟨ob, 0, none⟩) (16 * n) oc) (16 * n) (chg D o k) wr) := .inr ⟨_, oc, rfl, hoc, lie_of_row HR4.out⟩
          have hA := xencV q c1 c2 10 (16 * n) S1 S2 (by omega) (by omega) u (.slice va (16 * n) vc) D wr (HP2.out.ext HE.out) (by have := hn1.out; omega) hn2.out (hB.out.ext (Ext.trans HE2.out HE.out))
          obtain ⟨A, hAe⟩ : ∃ A, A = xE S1 S2 10 u D (16 * n) := ⟨_, rfl⟩
          obtain ⟨B, hBe⟩ : ∃ B, B = xE S1 S2 10 u (chg D o k) (16 * n) := ⟨_, rfl⟩
          rw [← hAe] at hA
          have hAB1 : Hid (bstr 16 (fun j => A (16 * k + j)) = bstr 16 (fun j => B (16 * k + j))) := by rw [hAe, hBe]; exact (places_str S1 S2 u D o k n k).1 rfl
          have hAB2 : Hid (∀ i, i < n → i ≠ k → ((bstr 16 (fun j => A (16 * i + j))).toList == (bstr 16 (fun j => B (16 * i + j))).toList) = ((o.toNat : Int) == 0)) := fun i _ hik => by rw [hAe, hBe]; exact (places_str S1 S2 u D o k n i).2 hik
          replace hA := hideit hA
          replace hAe := hideit hAe
          replace hBe := hideit hBe
          go_upto_region 17 with (go_at_call 21; refine hA.out.mono ?_; rintro e w5 ⟨v5, rfl, hO5, hX5⟩; have HO5 := hideit hO5; have HX5 := hideit hX5; clear hO5 hX5)
          have hBb := xencV q c1 c2 10 (16 * n) S1 S2 (by omega) (by omega) u (.slice (some ⟨ob, 0, none⟩) (16 * n) oc) (chg D o k) w5 (HP2.out.ext (Ext.trans HE.out HX5.out)) (by have := hn1.out; omega) hn2.out (HV4.out.ext HX5.out)
          rw [← hBe.out] at hBb
          replace hBb := hideit hBb
          go_upto_region 18 with (go_at_call 21; refine hBb.out.mono ?_; rintro e w6 ⟨v6, rfl, hO6, hX6⟩; have HO6 := hideit hO6; have HX6 := hideit hX6; clear hO6 hX6)
          obtain ⟨ab, ac, hva, _, hac, _, hRA⟩ := (HO5.out.ext HX6.out).lies (by have := hn1.out; omega)
          obtain ⟨bb, bc, hvb, _, hbc, _, hRB⟩ := HO6.out.lies (by have := hn1.out; omega)
          subst hva
          subst hvb
          have HRA := hideit hRA
          have HRB := hideit hRB
          have HE6 : Hid (Ext w w6) := hideit (Ext.trans (Ext.trans (Ext.trans HE2.out HE.out) HX5.out) HX6.out)
          clear hRA hRB HO5 HO6 HX5 HX6 hA hBb HR4 HV4 HE
          have j1 : 16 * (k : Int) + 16 ≤ 16 * (n : Int) := by omega
          have j2 : 16 * (k : Int) + 16 ≤ (ac : Int) := by omega
          have j3 : 16 * (k : Int) + 16 ≤ (bc : Int) := by omega
          have j4 : (0 : Int) ≤ 16 * (k : Int) := by omega
          have j5 : 16 * (k : Int) ≤ 16 * (k : Int) + 16 := by omega
          have j6 : 16 * (k : Int) + 16 ≤ 65536 := by omega
          have hne := kept_ne w6.drew
          refine wp_region_kept (Ok := Ext w6.drew) (by kernel_rfl) (by kernel_rfl) (Ext.refl _) ?_
          have j7 : 16 * k + 16 - 16 * k = 16 := by omega
          have hkn' := hkn.out
          repeat (go_big_quiet_step (exact rfl))
          go_big_quiet_want
          refine quiet_conv (.tmp 117) ab (16 * k) (16 * k + 16 - 16 * k) (ac - 16 * k) (fun j => A (16 * k + j)) rfl rfl (fun w' hw' => by rw [j7]; exact (RowAt.carry (RowAt.drew HRA.out) hw').sub (16 * k) 16 (by omega)) ?_
          simp only [Act.put, List.setIfInBounds_toArray, List.set_cons_zero, List.set_cons_succ]
          rw [j7]
          go_big_quiet_on
          repeat (go_big_quiet_step (exact rfl))
          have hS := hAB1.out
          go_big_quiet_want
          refine quiet_conv (.tmp 125) bb (16 * k) (16 * k + 16 - 16 * k) (bc - 16 * k) (fun j => B (16 * k + j)) rfl rfl (fun w' hw' => by rw [j7]; exact (RowAt.carry (RowAt.drew HRB.out) hw').sub (16 * k) 16 (by omega)) ?_
          simp only [Act.put, List.setIfInBounds_toArray, List.set_cons_zero, List.set_cons_succ]
          rw [j7]
          go_big_quiet_on
          repeat (go_big_quiet_step (exact rfl))
          refine wpQuiet_nil ?_
          intro _ hw'
          obtain ⟨p, hp⟩ := hw'
          subst hp
          clear hS j1 j2 j3 j4 j5 j6 j7 hne
          go_upto_region 21 with (fail)
          go_loopw [21] (fun i wr => ∃ m : Nat, m ≤ n ∧ i = .int .i64 (m : Int) ∧ Ext w6 wr) (fun i _ => n - (intOf i).toNat)
          case atStart => exact ⟨0, by omega, rfl, Ext.trans ((Below.refl _ _).drew) p.ok⟩
          case round =>
            obtain ⟨m, hm, rfl, hX⟩ := hrel
            have HX := hideit hX
            clear hX
            by_cases hlt : m < n
            · have m0 : (0 : Int) ≤ (m : Int) := by omega
              have m1 : (m : Int) < (n : Int) := by omega
              have j1 : 16 * (m : Int) + 16 ≤ 16 * (n : Int) := by omega
              have j2 : 16 * (m : Int) + 16 ≤ (ac : Int) := by omega
              have j3 : 16 * (m : Int) + 16 ≤ (bc : Int) := by omega
              have j4 : (0 : Int) ≤ 16 * (m : Int) := by omega
              have j5 : 16 * (m : Int) ≤ 16 * (m : Int) + 16 := by omega
              have j6 : 16 * (m : Int) + 16 ≤ 65536 := by omega
              have j7 : 16 * m + 16 - 16 * m = 16 := by omega
              have HRA := hideit (HRA.out.carry HX.out)
              have HRB := hideit (HRB.out.carry HX.out)
              have hne := kept_ne wr.drew
              go_upto_region 23 with (fail)
              by_cases hmk : m = k
              · have hmk' : ((m : Int) != (k : Int)) = false := by simp; omega
                refine wp_region_kept (Ok := Ext wr.drew) (by kernel_rfl) (by kernel_rfl) (Ext.refl _) ?_
                repeat (go_big_quiet_step (exact rfl))
                refine wpQuiet_nil ?_
                intro _ hw'
                obtain ⟨p, hp⟩ := hw'
                subst hp
                have hfin : Hid (Ext w6 p.w) := hideit (Ext.trans (Ext.trans HX.out ((Below.refl _ _).drew)) p.ok)
                clear hne
                go_wp2
                go_roundw
                case rel =>
                  first | exact ⟨(m + 1 : Nat), by omega, by go_num, hfin.out⟩ | ((repeat apply Exists.intro); exact ⟨⟨m + 1, by omega, by go_num, hfin.out⟩, rfl⟩)
                case measure => simp [intOf]; omega
              · have hmk' : ((m : Int) != (k : Int)) = true := by simp; omega
                have hS := hAB2.out m hlt hmk
                refine wp_region_kept (Ok := Ext wr.drew) (by kernel_rfl) (by kernel_rfl) (Ext.refl _) ?_
                repeat (go_big_quiet_step (exact rfl))
                go_big_quiet_want
                refine quiet_conv (.tmp 144) ab (16 * m) (16 * m + 16 - 16 * m) (ac - 16 * m) (fun j => A (16 * m + j)) rfl rfl (fun w' hw' => by rw [j7]; exact (RowAt.carry (RowAt.drew HRA.out) hw').sub (16 * m) 16 (by omega)) ?_
                simp only [Act.put, List.setIfInBounds_toArray, List.set_cons_zero, List.set_cons_succ]
                rw [j7]
                go_big_quiet_on
                repeat (go_big_quiet_step (exact rfl))
                go_big_quiet_want
                refine quiet_conv (.tmp 152) bb (16 * m) (16 * m + 16 - 16 * m) (bc - 16 * m) (fun j => B (16 * m + j)) rfl rfl (fun w' hw' => by rw [j7]; exact (RowAt.carry (RowAt.drew HRB.out) hw').sub (16 * m) 16 (by omega)) ?_
                simp only [Act.put, List.setIfInBounds_toArray, List.set_cons_zero, List.set_cons_succ]
                rw [j7]
                go_big_quiet_on
                repeat (go_big_quiet_step (exact rfl))
                refine wpQuiet_nil ?_
                intro _ hw'
                obtain ⟨p, hp⟩ := hw'
                subst hp
                have hfin : Hid (Ext w6 p.w) := hideit (Ext.trans (Ext.trans HX.out ((Below.refl _ _).drew)) p.ok)
                clear hne hS
                go_wp2
                go_roundw
                case rel =>
                  first | exact ⟨(m + 1 : Nat), by omega, by go_num, hfin.out⟩ | ((repeat apply Exists.intro); exact ⟨⟨m + 1, by omega, by go_num, hfin.out⟩, rfl⟩)
                case measure => simp [intOf]; omega
            · obtain rfl : m = n := by omega
              go_wp2
              go_ret
              exact ⟨rfl, Ext.trans HE6.out HX.out⟩
  · have i1 : ¬ (l : Int) < 16 := by omega
    have i2 : ¬ (65536 : Int) < (l : Int) := by omega
    obtain ⟨s, hs⟩ : ∃ s, s = l % 16 := ⟨_, rfl⟩
    rw [← hs] at hmod hm16
    have i3 : ((s : Int) != 0) = true := by simp; omega
    clear hs
    go_wp2
    go_ret
    exact ⟨rfl, HE2.out⟩
end Go.Proofs.Ytkoodgfadedeoaa
