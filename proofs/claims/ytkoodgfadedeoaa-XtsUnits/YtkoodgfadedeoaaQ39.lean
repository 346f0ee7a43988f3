/-
  What Power answers: for every number, in every world, of which nothing that was there turns. A place's tweak, and a pair of any key.
-/
import Derived.Test.YtkoodgfadedeoaaQ4
import Derived.Test.YtkoodgfadedeoaaQ38
import Derived.Test.YtkoodgfadedeoaaQ34
import Derived.Test.YtkoodgfadedeoaaQ22
namespace Go.Proofs.Ytkoodgfadedeoaa
open Go.RowKit
theorem lt_bitLen (x : Nat) (hx : x < 2 ^ 64) : x < 2 ^ Lib.bitLen x := by
  induction x using Nat.strongRecOn with
  | ind x ih =>
    by_cases h0 : x = 0
    · subst h0; exact Nat.two_pow_pos _
    · have h := ih (x / 2) (by omega) (by omega)
      rw [Lib.bitLen_half x h0 hx, Nat.add_comm, Nat.pow_succ]
      omega
/-- x to a power -/
def pwr (n : Nat) : BitVec 128 := dK 135#128 n 1#128
theorem pwr_add (m n : Nat) : tT (pwr m) (pwr n) = pwr (m + n) := by
  unfold tT pwr
  rw [tK_dK, tK_one, dK_dK]
theorem pwr_succ (m : Nat) : dX 135#128 (pwr m) = pwr (m + 1) := rfl
def PowerAt (B : Nat) (w : World) (x : BitVec 128) (wr : World) : Prop :=
  HalfAt (B + 1) x wr ∧ HalfAt B 0#128 wr ∧ Below B w wr ∧ B + 2 ≤ wr.heap.size
theorem PowerAt.carry {B : Nat} {w X w' : World} {x : BitVec 128} (h : PowerAt B w x X) (hB : Below X.heap.size X w') : PowerAt B w x w' := by
  obtain ⟨h1, h3, h4, h5⟩ := h
  exact ⟨h1.carry hB (by omega), h3.carry hB (by omega), h4.trans (hB.mono (by omega)), Nat.le_trans h5 hB.size⟩
theorem PowerAt.setX {B : Nat} {w X : World} {x : BitVec 128} (y : BitVec 128) (h : PowerAt B w x X) : PowerAt B w y ((X.setCell ⟨B + 1, 0, none⟩ (.int .u64 ((lo y).toNat : Int))).setCell ⟨B + 1, 1, none⟩ (.int .u64 ((hi y).toNat : Int))) := by
  obtain ⟨h1, h3, h4, h5⟩ := h
  exact ⟨h1.set y, (h3.other _ _ (by omega)).other _ _ (by omega), (h4.setCell (by simp) _).setCell (by simp) _, by simpa using h5⟩
theorem times_as' {x y z : BitVec 128} (h : tT x y = z) (w : World) :
    Calls Try.prog 47 #[.agg #[.int .u64 ((lo x).toNat : Int), .int .u64 ((hi x).toNat : Int)], .agg #[.int .u64 ((lo y).toNat : Int), .int .u64 ((hi y).toNat : Int)]] w fun e w' => e = .returned (.agg #[.int .u64 ((lo z).toNat : Int), .int .u64 ((hi z).toNat : Int)]) ∧ Below w.heap.size w w' := by
  subst h; exact times_any x y w
theorem and_one_i64 (a : Nat) (ha : a < 2 ^ 62) (k : Nat) : (bits .and .i64 ((a : Int) / 2 ^ k) 1 == 1) = a.testBit k := by
  have hd : a / 2 ^ k < 2 ^ 62 := Nat.lt_of_le_of_lt (Nat.div_le_self _ _) ha
  have h1 : (BitVec.ofInt 64 ((a / 2 ^ k : Nat) : Int)).toNat = a / 2 ^ k := by
    rw [BitVec.ofInt_natCast, BitVec.toNat_ofNat]; exact Nat.mod_eq_of_lt (by omega)
  rw [int_div_pow, ← nat_bit]
  have e : bits .and .i64 ((a / 2 ^ k : Nat) : Int) 1 = ((a / 2 ^ k % 2 : Nat) : Int) := by
    show IntKind.i64.wrap ((BitVec.ofInt 64 ((a / 2 ^ k : Nat) : Int) &&& BitVec.ofInt 64 1).toNat : Int) = _
    rw [BitVec.toNat_and, h1, show (BitVec.ofInt 64 1).toNat = 1 from rfl, Nat.and_one_is_mod, IntKind.wrap_i64]
    omega
  rw [e, Bool.eq_iff_iff]
  simp only [beq_iff_eq]; omega
theorem power_nat (n : Nat) (hn : n < 2 ^ 62) (w : World) :
    Calls Try.prog 48 #[.int .i64 (n : Int)] w fun e w' => e = .returned (.agg #[.int .u64 ((lo (pwr n)).toNat : Int), .int .u64 ((hi (pwr n)).toNat : Int)]) ∧ Below w.heap.size w w' := by
  have hn' : (n : Int) < 4611686018427387904 := by omega
  have hl := Lib.bitLen_le n 62 (by omega) hn
  have hlt := lt_bitLen n (by omega)
  have HL := hideit hlt
  clear hlt
  go_enter Try.func48, Try.ntmps48
  go_wp2_with (go_at_call 61; refine (Try.bits_Len _ _ (by omega) (by omega)).mono ?_; rintro e w' ⟨rfl, rfl⟩)
  go_loopw [4] (fun i wr => ∃ j : Nat, j ≤ Lib.bitLen n ∧ i = .int .i64 ((j : Int) - 1) ∧ PowerAt w.heap.size w (pwr (n / 2 ^ j)) wr) (fun i _ => (intOf i + 1).toNat)
  case atStart =>
    refine ⟨Lib.bitLen n, Nat.le_refl _, rfl, ?_⟩
    rw [Nat.div_eq_of_lt HL.out]
    refine ⟨⟨?_, ?_, ?_, ?_⟩, ⟨?_, ?_, ?_, ?_⟩, ?_, ?_⟩
    case refine_9 => exact (((Below.refl _ _).alloc (Nat.le_refl _) _).alloc (by simp) _)
    all_goals first | (simp [pwr, dK, lo, hi, go_sem]; done) | simp
  case round =>
    obtain ⟨j, hj, rfl, hT⟩ := hrel
    by_cases hlt : j = 0
    · subst hlt
      obtain ⟨⟨c3, c4, f3, f4⟩, ⟨c5, c6, f5, f6⟩, hB, hz⟩ := hT
      go_wp2
      refine bodyPost_ret (v := .agg #[.int .u64 ((lo (pwr n)).toNat : Int), .int .u64 ((hi (pwr n)).toNat : Int)]) (by simp [results, Try.results48, go_sem, c5, c6]) rfl ⟨rfl, ?_⟩
      exact (hB.setCell (by simp) _).setCell (by simp) _
    · obtain ⟨i, rfl⟩ : ∃ i, j = i + 1 := ⟨j - 1, by omega⟩
      rw [show (((i + 1 : Nat) : Int) - 1) = (i : Int) from by omega]
      have hi : (i : Int) < 62 := by omega
      have hbt := and_one_i64 n hn i
      have HT := hideit hT
      have hdiv : n / 2 ^ i = 2 * (n / 2 ^ (i + 1)) + n / 2 ^ i % 2 := by
        rw [Nat.pow_succ, ← Nat.div_div_eq_div_mul]; omega
      rcases hb : n.testBit i with _ | _
      · rw [hb] at hbt
        have HS : Hid (n / 2 ^ i = n / 2 ^ (i + 1) + n / 2 ^ (i + 1)) := by
          have := nat_bit n i
          rw [hb] at this
          simp at this
          show _ = _
          omega
        clear hdiv hb
        generalize n / 2 ^ (i + 1) = m at *
        obtain ⟨⟨c1, c2, f1, f2⟩, _, _, _⟩ := hT
        go_wp2_with fail
        refine (times_as' (pwr_add m m) _).mono ?_
        rintro e w' ⟨rfl, hb⟩
        have HT' := hideit (HT.out.carry hb)
        clear hb
        obtain ⟨⟨d1, d2, g1, g2⟩, _, _, _⟩ := HT'.out
        go_wp2
        go_roundw
        case rel =>
          first | refine ⟨(i : Nat), by omega, by go_num, ?_⟩ | ((repeat apply Exists.intro); refine ⟨⟨i, by omega, by go_num, ?_⟩, rfl⟩)
          rw [HS.out]
          exact HT'.out.setX _
        case measure => simp [intOf]
      · rw [hb] at hbt
        have HS : Hid (n / 2 ^ i = n / 2 ^ (i + 1) + n / 2 ^ (i + 1) + 1) := by
          have := nat_bit n i
          rw [hb] at this
          simp at this
          show _ = _
          omega
        clear hdiv hb
        generalize n / 2 ^ (i + 1) = m at *
        obtain ⟨⟨c1, c2, f1, f2⟩, _, _, _⟩ := hT
        go_wp2_with fail
        refine (times_as' (pwr_add m m) _).mono ?_
        rintro e w' ⟨rfl, hb⟩
        have HT' := hideit ((HT.out.carry hb).setX (pwr (m + m)))
        obtain ⟨⟨d1, d2, g1, g2⟩, _, _, _⟩ := HT.out.carry hb
        clear hb
        obtain ⟨⟨d3, d4, g3, g4⟩, _, _, _⟩ := HT'.out
        go_wp2_with fail
        refine (double_any (pwr (m + m)) _).mono ?_
        rintro e w'' ⟨rfl, hb⟩
        have HT'' := hideit (HT'.out.carry hb)
        clear hb
        obtain ⟨⟨d5, d6, g5, g6⟩, _, _, _⟩ := HT''.out
        go_wp2
        go_roundw
        case rel =>
          first | refine ⟨(i : Nat), by omega, by go_num, ?_⟩ | ((repeat apply Exists.intro); refine ⟨⟨i, by omega, by go_num, ?_⟩, rfl⟩)
          rw [HS.out]
          exact HT''.out.setX _
        case measure => simp [intOf]
theorem power_neg (n : Int) (h0 : -4611686018427387904 < n) (hn : n < 0) (w : World) :
    Calls Try.prog 48 #[.int .i64 n] w fun e w' => e = .returned (.agg #[.int .u64 ((lo (pwr 0)).toNat : Int), .int .u64 ((hi (pwr 0)).toNat : Int)]) ∧ Below w.heap.size w w' := by
  have hmax : max n 0 = 0 := by omega
  have hb0 : Lib.bitLen 0 = 0 := by decide +kernel
  go_enter Try.func48, Try.ntmps48
  go_wp2_with (go_at_call 61; refine (Try.bits_Len _ _ (by omega) (by omega)).mono ?_; rintro e w' ⟨rfl, rfl⟩)
  go_loopw [4] (fun i wr => i = .int .i64 (-1) ∧ PowerAt w.heap.size w (pwr 0) wr) (fun _ _ => 0)
  case atStart =>
    refine ⟨by first | rfl | simp, ?_⟩
    refine ⟨⟨?_, ?_, ?_, ?_⟩, ⟨?_, ?_, ?_, ?_⟩, ?_, ?_⟩
    case refine_9 => exact (((Below.refl _ _).alloc (Nat.le_refl _) _).alloc (by simp) _)
    all_goals first | (simp [pwr, dK, lo, hi, go_sem]; done) | simp
  case round =>
    obtain ⟨rfl, hT⟩ := hrel
    obtain ⟨⟨c3, c4, f3, f4⟩, ⟨c5, c6, f5, f6⟩, hB, hz⟩ := hT
    go_wp2
    refine bodyPost_ret (v := .agg #[.int .u64 ((lo (pwr 0)).toNat : Int), .int .u64 ((hi (pwr 0)).toNat : Int)]) (by simp [results, Try.results48, go_sem, c5, c6]) rfl ⟨rfl, ?_⟩
    exact (hB.setCell (by simp) _).setCell (by simp) _
theorem power_any (n : Int) (h0 : -4611686018427387904 < n) (h1 : n < 4611686018427387904) (w : World) :
    Calls Try.prog 48 #[.int .i64 n] w fun e w' => e = .returned (.agg #[.int .u64 ((lo (pwr n.toNat)).toNat : Int), .int .u64 ((hi (pwr n.toNat)).toNat : Int)]) ∧ Below w.heap.size w w' := by
  by_cases h : n < 0
  · have := power_neg n h0 h w
    rwa [show (0 : Nat) = n.toNat from by omega] at this
  · obtain ⟨m, rfl⟩ := Int.eq_ofNat_of_zero_le (show 0 ≤ n by omega)
    exact power_nat m (by omega) w
end Go.Proofs.Ytkoodgfadedeoaa
namespace Go.Proofs.Ytkoodgfadedeoaa
open Go.RowKit Go.BigFrame
theorem tT_pwr (t : BitVec 128) (n : Nat) : tT t (pwr n) = dK 135#128 n t := by
  unfold tT pwr
  rw [tK_comm, tK_dK, tK_one]
set_option maxRecDepth 20000 in
set_option maxHeartbeats 1000000 in
theorem xtweak_nil (u n : Value) (w : World) :
    Calls Try.prog 25 #[.pointer none, u, n] w fun e w' => e = .returned (.agg (row 16 (yv fun _ => 0#8)).toArray) ∧ Below w.heap.size w w' := by
  have hz := store_Y16
  obtain ⟨c, hc⟩ : ∃ c, c = w.heap.size := ⟨_, rfl⟩
  obtain ⟨W1, hW1⟩ : ∃ W1, W1 = w.alloc (.cells (row 16 (yv fun _ => 0#8)).toArray 23) := ⟨_, rfl⟩
  have HE1 : Hid (Ext w W1) := by rw [hW1]; exact (Below.refl _ _).alloc (Nat.le_refl _) _
  have HR1 : Hid (RowAt c 16 (yv fun _ => 0#8) W1) := by rw [hW1, hc]; exact RowAt.new w 16 (yv fun _ => 0#8) 23
  replace hW1 := hideit hW1
  go_enter Try.func25, Try.ntmps25
  go_upto_region 1 with (fail)
  rw [← hW1.out, ← hc]
  have hcw : w.heap.size ≤ c := by omega
  clear hc hW1
  go_wp2_with (refine wpList_store_mid rfl 23 (.tmp 6) (.tmp 9) rfl _ 0 (row 16 (yv fun _ => 0#8)).toArray rfl rfl (by rw [row_size]; exact HR1.out.there) (by rw [row_size]; exact info32) (row_one fun _ _ => rfl) ?_)
  exact bodyPost_ret (ret_row Try.results25 rfl (HR1.out.cells (g' := yv fun _ => 0#8)) Try.underlying23 rfl info32) rfl ⟨rfl, below_setCells _ hcw _ _ _ HE1.out⟩
set_option maxRecDepth 20000 in
set_option maxHeartbeats 1000000 in
theorem xtweak_any (q c1 c2 r : Nat) (S1 S2 : Nat → BitVec 8) (hr : 1 ≤ r) (hr2 : r ≤ 14) (u : BitVec 64) (n : Int) (h0 : -4611686018427387904 < n) (h1 : n < 4611686018427387904) (w : World) (hP : PairAt q c1 c2 r S1 S2 w) :
    Calls Try.prog 25 #[.pointer (some ⟨q, 0, none⟩), .int .u64 (u.toNat : Int), .int .i64 n] w fun e w' => e = .returned (.agg (row 16 (yv (byB (dK 135#128 n.toNat (tw0 S2 r u))))).toArray) ∧ Below w.heap.size w w' := by
  have hz := store_Y16
  have hfirst : Hid (∀ X, Ext w X → Calls Try.prog 42 #[.pointer (some ⟨q, 0, none⟩), .int .u64 (u.toNat : Int)] X fun e w' => e = .returned (.agg #[.int .u64 ((lo (tw0 S2 r u)).toNat : Int), .int .u64 ((hi (tw0 S2 r u)).toNat : Int)]) ∧ Below X.heap.size X w') := fun X hX => first_any q c1 c2 r S1 S2 hr hr2 u X (hP.ext hX)
  have hpow : Hid (∀ X : World, Calls Try.prog 48 #[.int .i64 n] X fun e w' => e = .returned (.agg #[.int .u64 ((lo (pwr n.toNat)).toNat : Int), .int .u64 ((hi (pwr n.toNat)).toNat : Int)]) ∧ Below X.heap.size X w') := fun X => power_any n h0 h1 X
  have htim : Hid (∀ X : World, Calls Try.prog 47 #[.agg #[.int .u64 ((lo (tw0 S2 r u)).toNat : Int), .int .u64 ((hi (tw0 S2 r u)).toNat : Int)], .agg #[.int .u64 ((lo (pwr n.toNat)).toNat : Int), .int .u64 ((hi (pwr n.toNat)).toNat : Int)]] X fun e w' => e = .returned (.agg #[.int .u64 ((lo (dK 135#128 n.toNat (tw0 S2 r u))).toNat : Int), .int .u64 ((hi (dK 135#128 n.toNat (tw0 S2 r u))).toNat : Int)]) ∧ Below X.heap.size X w') := fun X => times_as' (tT_pwr _ _) X
  generalize tw0 S2 r u = t at *
  generalize dK 135#128 n.toNat t = s at *
  generalize pwr n.toNat = p at *
  clear hP h0 h1
  obtain ⟨c, hc⟩ : ∃ c, c = w.heap.size := ⟨_, rfl⟩
  obtain ⟨W1, hW1⟩ : ∃ W1, W1 = w.alloc (.cells (row 16 (yv fun _ => 0#8)).toArray 23) := ⟨_, rfl⟩
  have HE1 : Hid (Ext w W1) := by rw [hW1]; exact (Below.refl _ _).alloc (Nat.le_refl _) _
  have HR1 : Hid (RowAt c 16 (yv fun _ => 0#8) W1) := by rw [hW1, hc]; exact RowAt.new w 16 (yv fun _ => 0#8) 23
  replace hW1 := hideit hW1
  go_enter Try.func25, Try.ntmps25
  go_upto_region 1 with (fail)
  rw [← hW1.out, ← hc]
  have hcw : w.heap.size ≤ c := by omega
  clear hc hW1
  go_wp2_with (first
    | (go_at_call 42; refine (hfirst.out _ HE1.out).mono ?_; rintro e w2 ⟨rfl, h2⟩; have HX2 : Hid (Ext W1 w2) := hideit h2; clear h2)
    | (go_at_call 48; refine (hpow.out _).mono ?_; rintro e w3 ⟨rfl, h2⟩; have HX3 : Hid (Ext W1 w3) := hideit (Ext.trans HX2.out h2); clear h2)
    | (go_at_call 47; refine (htim.out _).mono ?_; rintro e w4 ⟨rfl, h2⟩; have HX4 : Hid (Ext W1 w4) := hideit (Ext.trans HX3.out h2); clear h2)
    | (go_at_call 46; refine (bytes_any s _).mono ?_; rintro e w5 ⟨rfl, h2⟩; have HX5 : Hid (Ext W1 w5) := hideit (Ext.trans HX4.out h2); clear h2; have HR5 := hideit (HR1.out.carry HX5.out))
    | (refine wpList_store_mid rfl 23 (.tmp 6) (.tmp 16) rfl _ 0 (row 16 (yv (byB s))).toArray rfl rfl (by rw [row_size]; exact HR5.out.there) (by rw [row_size]; exact info32) (row_one fun _ _ => rfl) ?_))
  exact bodyPost_ret (ret_row Try.results25 rfl (HR5.out.cells (g' := yv (byB s))) Try.underlying23 rfl info32) rfl ⟨rfl, below_setCells _ hcw _ _ _ (Ext.trans HE1.out HX5.out)⟩
set_option maxRecDepth 20000 in
set_option maxHeartbeats 2000000 in
/-- halves of which one is no key -/
theorem xnew_bad (a : Option Addr) (len cap : Nat) (h1 : len ≠ 32) (h2 : len ≠ 64) (hcap : len ≤ cap) (hle : len ≤ 140737488351232) (ha : a = none → cap = 0) (key : Nat → BitVec 8) (w : World) (hk : ∀ b, a = some b → LieAt b len (yv key) w) :
    Calls Try.prog 18 #[.slice a len cap] w fun e w' => e = .returned (.tuple #[.pointer none, .int .i64 20]) ∧ Below w.heap.size w w' := by
  have hany : Hid (∀ (b : Option Addr) (m cp : Nat) (g : Nat → BitVec 8) (X : World), m ≤ cp → (b = none → m = 0) → (∀ d, b = some d → LieAt d m (yv g) X) → Calls Try.prog 9 #[.slice b m cp] X fun e w' => (∃ p x, e = .returned (.tuple #[p, .int .i64 x]) ∧ (x = 0 ∨ x = 20) ∧ (x = 0 → m = 16 ∨ m = 32)) ∧ Below X.heap.size X w') := fun b m cp g X hm hb hl => by
    by_cases e1 : m = 16
    · subst e1
      cases b with
      | none => exact absurd (hb rfl) (by omega)
      | some d => exact (new4_any d cp g X (hl d rfl) hm).mono fun e w' h => ⟨⟨_, 0, h.1, .inl rfl, fun _ => .inl rfl⟩, h.2.2⟩
    · by_cases e2 : m = 32
      · subst e2
        cases b with
        | none => exact absurd (hb rfl) (by omega)
        | some d => exact (new8_any d cp g X (hl d rfl) hm).mono fun e w' h => ⟨⟨_, 0, h.1, .inl rfl, fun _ => .inr rfl⟩, h.2.2⟩
      · exact (new_bad b m cp e1 e2 X).mono fun e w' h => ⟨⟨_, 20, h.1, .inr rfl, fun h => by omega⟩, by rw [h.2]; exact Below.refl _ _⟩
  cases a with
  | none =>
    have hc0 : cap = 0 := ha rfl
    subst hc0
    have hl0 : len = 0 := by omega
    subst hl0
    clear hk ha hany
    go_enter Try.func18, Try.ntmps18
    go_wp2_with (go_at_call 9; refine (new_bad none 0 0 (by omega) (by omega) _).mono ?_; rintro e w1 ⟨rfl, rfl⟩)
    refine bodyPost_ret (results_tmp2 Try.results18 _ _ _) rfl ?_
    exact ⟨rfl, Below.refl _ _⟩
  | some b =>
    have hk' := hk b rfl
    clear hk ha
    obtain ⟨h, hh⟩ : ∃ h, h = len / 2 := ⟨_, rfl⟩
    have hdiv : (len : Int) / 2 = (h : Int) := by omega
    have htd : (len : Int).tdiv 2 = (h : Int) := by rw [Int.tdiv_eq_ediv_of_nonneg (by omega)]; exact hdiv
    have hwr : wrap64 (h : Int) = (h : Int) := by unfold wrap64; omega
    have i1 : (h : Int) ≤ (cap : Int) := by omega
    have i2 : (h : Int) ≤ (len : Int) := by omega
    have i3 : h ≤ cap := by omega
    have i4 : h ≤ len := by omega
    have i0 : (0 : Int) ≤ (h : Int) := by omega
    have hno : Hid (¬ ((h = 16 ∨ h = 32) ∧ (len - h = 16 ∨ len - h = 32))) := by
      intro hx; omega
    have hn1 := hideit (hany.out (some b) h cap key w i3 (fun e => by cases e) (fun d e => by cases e; exact ⟨fun j hj => hk'.1 j (by omega), hk'.2⟩))
    obtain ⟨sa, hsa⟩ : ∃ sa : Addr, sa = b.add h := ⟨_, rfl⟩
    have hn2 : Hid (∀ X, Ext w X → Calls Try.prog 9 #[.slice (some sa) (len - h) (cap - h)] X fun e w' => (∃ p x, e = .returned (.tuple #[p, .int .i64 x]) ∧ (x = 0 ∨ x = 20) ∧ (x = 0 → len - h = 16 ∨ len - h = 32)) ∧ Below X.heap.size X w') := fun X hX => by
      have h1 := hk'.carry hX
      refine hany.out (some sa) (len - h) (cap - h) (fun j => key (h + j)) X (by omega) (fun e => by cases e) (fun d e => ?_)
      cases e
      refine ⟨fun j hj => ?_, by rw [hsa, add_block]; exact h1.2⟩
      rw [hsa, add_add', h1.1 (h + j) (by omega)]
      rfl
    by_cases hz : h = 0
    · have hl : len - h ≠ 16 ∧ len - h ≠ 32 := by omega
      have hl1 : len < 2 := by omega
      have hz' : (h : Int) = 0 := by omega
      have hb1 := hideit (fun (X : World) => new_bad (some b) 0 cap (by omega) (by omega) X)
      have hb2 := hideit (fun (X : World) => new_bad (some b) len cap (by omega) (by omega) X)
      subst hz
      clear hany hk' hsa hh h1 h2 hn1 hn2 hno hl
      go_enter Try.func18, Try.ntmps18
      go_upto_region 3 with (go_at_call 9; refine (hb1.out _).mono ?_; rintro e w1 ⟨rfl, rfl⟩)
      go_upto_region 4 with (go_at_call 9; refine (hb2.out _).mono ?_; rintro e w1 ⟨rfl, rfl⟩)
      go_wp2
      refine bodyPost_ret (results_tmp2 Try.results18 _ _ _) rfl ?_
      exact ⟨rfl, Below.refl _ _⟩
    · have hsa' : (⟨b.block, b.off + h, none⟩ : Addr) = sa := by rw [hsa]; unfold Addr.add; rw [if_neg hz]
      have hsa2 : b.add h = sa := hsa.symm
      clear hany hk' hsa hh h1 h2
      go_enter Try.func18, Try.ntmps18
      go_upto_region 3 with (go_at_call 9; refine hn1.out.mono ?_; rintro e w1 ⟨⟨p1, x1, rfl, hx1, hm1⟩, h4⟩; have HX1 : Hid (Ext w w1) := hideit h4; clear h4; replace hx1 := hideit hx1; replace hm1 := hideit hm1)
      have hn2' := hideit (hn2.out w1 HX1.out)
      clear hn2 hn1
      go_upto_region 4 with (go_at_call 9; refine hn2'.out.mono ?_; rintro e w2 ⟨⟨p2, x2, rfl, hx2, hm2⟩, h4⟩; have HX2 : Hid (Ext w w2) := hideit (Ext.trans HX1.out h4); clear h4; replace hx2 := hideit hx2; replace hm2 := hideit hm2)
      rcases hx1.out with rfl | rfl
      · rcases hx2.out with rfl | rfl
        · exact absurd ⟨hm1.out rfl, hm2.out rfl⟩ hno.out
        · go_wp2
          refine bodyPost_ret (results_tmp2 Try.results18 _ _ _) rfl ?_
          exact ⟨rfl, HX2.out⟩
      · go_wp2
        refine bodyPost_ret (results_tmp2 Try.results18 _ _ _) rfl ?_
        exact ⟨rfl, HX2.out⟩
end Go.Proofs.Ytkoodgfadedeoaa
