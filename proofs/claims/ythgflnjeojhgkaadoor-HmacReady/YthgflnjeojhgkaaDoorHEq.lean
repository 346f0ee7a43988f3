/-
  Whether bytes are the same.
-/
import Derived.Test.YthgflnjeojhgkaaDoorBV
import Derived.Laws.Bits64b
import Derived.Laws.BitsAllLaws
import Derived.LoopTactic
namespace Go.Proofs.YthgflnjeojhgkaaDoor
open Go.RowKit Go.BigFrame
def atF (l : Nat) (D : Nat → BitVec 8) (i : Nat) : BitVec 8 := if i < l then D i else 0#8
theorem or_nat (a b : Nat) (ha : a < 2 ^ 62) (hb : b < 2 ^ 62) : bits .or .i64 (a : Int) (b : Int) = ((a ||| b : Nat) : Int) := by
  have h1 : (BitVec.ofInt 64 (a : Int)).toNat = a := by rw [BitVec.ofInt_natCast, BitVec.toNat_ofNat]; exact Nat.mod_eq_of_lt (by omega)
  have h2 : (BitVec.ofInt 64 (b : Int)).toNat = b := by rw [BitVec.ofInt_natCast, BitVec.toNat_ofNat]; exact Nat.mod_eq_of_lt (by omega)
  have h3 : a ||| b < 2 ^ 62 := Nat.or_lt_two_pow ha hb
  show IntKind.i64.wrap ((BitVec.ofInt 64 (a : Int) ||| BitVec.ofInt 64 (b : Int)).toNat : Int) = _
  rw [BitVec.toNat_or, h1, h2, IntKind.wrap_i64]
  omega
theorem xor_nat (a b : Nat) (ha : a < 2 ^ 62) (hb : b < 2 ^ 62) : bits .xor .i64 (a : Int) (b : Int) = ((a ^^^ b : Nat) : Int) := by
  have h1 : (BitVec.ofInt 64 (a : Int)).toNat = a := by rw [BitVec.ofInt_natCast, BitVec.toNat_ofNat]; exact Nat.mod_eq_of_lt (by omega)
  have h2 : (BitVec.ofInt 64 (b : Int)).toNat = b := by rw [BitVec.ofInt_natCast, BitVec.toNat_ofNat]; exact Nat.mod_eq_of_lt (by omega)
  have h3 : a ^^^ b < 2 ^ 62 := Nat.xor_lt_two_pow ha hb
  show IntKind.i64.wrap ((BitVec.ofInt 64 (a : Int) ^^^ BitVec.ofInt 64 (b : Int)).toNat : Int) = _
  rw [BitVec.toNat_xor, h1, h2, IntKind.wrap_i64]
  omega
set_option maxRecDepth 20000 in
theorem byteAt_any (v : Value) (l : Nat) (D : Nat → BitVec 8) (i : Nat) (w : World) (h : BV v l D w) :
    Calls Tryd.prog 25 #[v, .int .i64 (i : Int)] w fun e w' => e = .returned (.int .u8 ((atF l D i).toNat : Int)) ∧ w' = w := by
  rcases h with ⟨rfl, rfl⟩ | ⟨a, cap, rfl, hc, hl⟩
  · have i0 : (0 : Int) ≤ (i : Int) := by omega
    go_enter Tryd.func25, Tryd.ntmps25
    go_wp2
    go_ret
    exact ⟨rfl, rfl⟩
  · by_cases hi : i < l
    · have i1 : ¬ (l : Int) ≤ (i : Int) := by omega
      have i2 : (i : Int) < (l : Int) := by omega
      have hcell := hl.1 i hi
      unfold atF
      rw [if_pos hi]
      go_enter Tryd.func25, Tryd.ntmps25
      go_wp2
      go_ret
      exact ⟨rfl, rfl⟩
    · have i1 : (l : Int) ≤ (i : Int) := by omega
      unfold atF
      rw [if_neg hi]
      go_enter Tryd.func25, Tryd.ntmps25
      go_wp2
      go_ret
      exact ⟨rfl, rfl⟩
def xE8 (a b : BitVec 8) : BitVec 8 := a ^^^ b
theorem xor8' (a b : BitVec 8) : bits .xor .u8 (a.toNat : Int) (b.toNat : Int) = ((xE8 a b).toNat : Int) := by
  rw [u8_xor_nat _ _ a.isLt b.isLt, xE8, BitVec.toNat_xor]
theorem xE8_zero (a b : BitVec 8) : (xE8 a b).toNat = 0 ↔ a = b := by
  unfold xE8
  constructor
  · intro h
    have h1 : a ^^^ b = 0#8 := BitVec.eq_of_toNat_eq (by rw [h]; rfl)
    have h2 : a ^^^ (a ^^^ b) = a ^^^ 0#8 := by rw [h1]
    rw [← BitVec.xor_assoc, BitVec.xor_self, BitVec.zero_xor, BitVec.xor_zero] at h2
    exact h2.symm
  · rintro rfl
    rw [BitVec.xor_self]; rfl
theorem or_zero (a b : Nat) : a ||| b = 0 ↔ a = 0 ∧ b = 0 := by
  constructor
  · intro h
    have ha : a ≤ a ||| b := Nat.left_le_or
    have hb : b ≤ a ||| b := Nat.right_le_or
    omega
  · rintro ⟨rfl, rfl⟩; rfl
theorem xor_zero (a b : Nat) : a ^^^ b = 0 ↔ a = b := by
  constructor
  · intro h
    have h2 : a ^^^ (a ^^^ b) = a ^^^ 0 := by rw [h]
    rw [← Nat.xor_assoc, Nat.xor_self, Nat.zero_xor, Nat.xor_zero] at h2
    exact h2.symm
  · rintro rfl; exact Nat.xor_self _
set_option maxRecDepth 20000 in
set_option maxHeartbeats 1000000 in
theorem equal_any (v1 v2 : Value) (l1 l2 : Nat) (D1 D2 : Nat → BitVec 8) (w : World) (h1 : BV v1 l1 D1 w) (h2 : BV v2 l2 D2 w) (hb1 : l1 ≤ 140737488351232) (hb2 : l2 ≤ 140737488351232) (r : Bool) (hr : r = true ↔ l1 = l2 ∧ ∀ j, j < l1 → D1 j = D2 j) :
    Calls Tryd.prog 17 #[v1, v2] w fun e w' => e = .returned (.bool r) ∧ w' = w := by
  obtain ⟨a1, p1, e1⟩ : ∃ a p, v1 = .slice a l1 p := by
    rcases h1 with ⟨h, h0⟩ | ⟨a, cap, h, _⟩
    · exact ⟨none, 0, by rw [h, h0]⟩
    · exact ⟨_, cap, h⟩
  obtain ⟨a2, p2, e2⟩ : ∃ a p, v2 = .slice a l2 p := by
    rcases h2 with ⟨h, h0⟩ | ⟨a, cap, h, _⟩
    · exact ⟨none, 0, by rw [h, h0]⟩
    · exact ⟨_, cap, h⟩
  subst e1 e2
  have hy1 := hideit (fun i : Nat => byteAt_any _ l1 D1 i w h1)
  have hy2 := hideit (fun i : Nat => byteAt_any _ l2 D2 i w h2)
  clear h1 h2
  have hx := xor_nat l1 l2 (by omega) (by omega)
  have hxl : l1 ^^^ l2 < 2 ^ 62 := Nat.xor_lt_two_pow (by omega) (by omega)
  have hxz := hideit (xor_zero l1 l2)
  replace hr := hideit hr
  generalize l1 ^^^ l2 = X0 at *
  rcases Nat.lt_or_ge l1 l2 with hc | hc
  · have k1 : (l1 : Int) < (l2 : Int) := by omega
    have k2 : ¬ (l2 : Int) < (l1 : Int) := by omega
    have k3 : ¬ (l2 : Int) ≤ (l1 : Int) := by omega
    have k4 : (l1 : Int) ≤ (l2 : Int) := by omega
    go_enter Tryd.func17, Tryd.ntmps17
    go_wp2
    go_loop [5, 17] (fun x i => ∃ n X : Nat, n ≤ l2 ∧ i = .int .i64 n ∧ x = .int .i64 X ∧ X < 2 ^ 62 ∧ (X = 0 ↔ l1 = l2 ∧ ∀ j, j < n → atF l1 D1 j = atF l2 D2 j)) (fun _ i => l2 - (intOf i).toNat)
    case atStart => exact ⟨0, X0, Nat.zero_le _, rfl, rfl, hxl, hxz.out.trans ⟨fun h => ⟨h, fun j hj => absurd hj (by omega)⟩, fun h => h.1⟩⟩
    case round =>
      obtain ⟨n, X, hn, rfl, rfl, hX, hz⟩ := hrel
      by_cases hlt : n < l2
      · have j1 : (n : Int) < (l2 : Int) := by omega
        replace hz := hideit hz
        have hx8 := xor8' (atF l1 D1 n) (atF l2 D2 n)
        have hz8 := hideit (xE8_zero (atF l1 D1 n) (atF l2 D2 n))
        have hlt8 : (xE8 (atF l1 D1 n) (atF l2 D2 n)).toNat < 256 := (xE8 (atF l1 D1 n) (atF l2 D2 n)).isLt
        generalize (xE8 (atF l1 D1 n) (atF l2 D2 n)).toNat = y at *
        have ho := or_nat X y hX (by omega)
        have hol : X ||| y < 2 ^ 62 := Nat.or_lt_two_pow hX (by omega)
        have hoz := hideit (or_zero X y)
        generalize X ||| y = Z at *
        go_wp2_with (go_at_call 25; first | (refine (hy1.out n).mono ?_; rintro e w1 ⟨rfl, rfl⟩; clear hy1) | (refine (hy2.out n).mono ?_; rintro e w1 ⟨rfl, rfl⟩))
        go_round
        case rel =>
          refine ⟨n + 1, Z, by omega, by go_num, rfl, hol, ?_⟩
          rw [hoz.out, hz.out, hz8.out]
          constructor
          · rintro ⟨⟨h1, h2⟩, h3⟩
            refine ⟨h1, fun j hj => ?_⟩
            rcases Nat.lt_or_ge j n with h | h
            · exact h2 j h
            · rw [show j = n by omega]; exact h3
          · rintro ⟨h1, h2⟩
            exact ⟨⟨h1, fun j hj => h2 j (by omega)⟩, h2 n (by omega)⟩
        case measure => simp [intOf]; omega
      · have j1 : ¬ (n : Int) < (l2 : Int) := by omega
        have hv : ((X : Int) == 0) = r := by
          have : (X = 0 ↔ r = true) := hz.trans (Iff.trans ⟨fun ⟨a, b⟩ => ⟨a, fun j hj => by have := b j (by omega); unfold atF at this; rwa [if_pos hj, if_pos (by omega)] at this⟩, fun ⟨a, b⟩ => ⟨a, fun j hj => by unfold atF; subst a; by_cases h : j < l1 <;> simp [h]; exact b j h⟩⟩ hr.out.symm)
          cases r <;> simp_all <;> omega
        clear hz hr
        go_wp2
        go_ret
        exact ⟨rfl, rfl⟩
  · have k1 : ¬ (l1 : Int) < (l2 : Int) := by omega
    have k3 : (l2 : Int) ≤ (l1 : Int) := by omega
    go_enter Tryd.func17, Tryd.ntmps17
    go_wp2
    go_loop [5, 17] (fun x i => ∃ n X : Nat, n ≤ l1 ∧ i = .int .i64 n ∧ x = .int .i64 X ∧ X < 2 ^ 62 ∧ (X = 0 ↔ l1 = l2 ∧ ∀ j, j < n → atF l1 D1 j = atF l2 D2 j)) (fun _ i => l1 - (intOf i).toNat)
    case atStart => exact ⟨0, X0, Nat.zero_le _, rfl, rfl, hxl, hxz.out.trans ⟨fun h => ⟨h, fun j hj => absurd hj (by omega)⟩, fun h => h.1⟩⟩
    case round =>
      obtain ⟨n, X, hn, rfl, rfl, hX, hz⟩ := hrel
      by_cases hlt : n < l1
      · have j1 : (n : Int) < (l1 : Int) := by omega
        replace hz := hideit hz
        have hx8 := xor8' (atF l1 D1 n) (atF l2 D2 n)
        have hz8 := hideit (xE8_zero (atF l1 D1 n) (atF l2 D2 n))
        have hlt8 : (xE8 (atF l1 D1 n) (atF l2 D2 n)).toNat < 256 := (xE8 (atF l1 D1 n) (atF l2 D2 n)).isLt
        generalize (xE8 (atF l1 D1 n) (atF l2 D2 n)).toNat = y at *
        have ho := or_nat X y hX (by omega)
        have hol : X ||| y < 2 ^ 62 := Nat.or_lt_two_pow hX (by omega)
        have hoz := hideit (or_zero X y)
        generalize X ||| y = Z at *
        go_wp2_with (go_at_call 25; first | (refine (hy1.out n).mono ?_; rintro e w1 ⟨rfl, rfl⟩; clear hy1) | (refine (hy2.out n).mono ?_; rintro e w1 ⟨rfl, rfl⟩))
        go_round
        case rel =>
          refine ⟨n + 1, Z, by omega, by go_num, rfl, hol, ?_⟩
          rw [hoz.out, hz.out, hz8.out]
          constructor
          · rintro ⟨⟨h1, h2⟩, h3⟩
            refine ⟨h1, fun j hj => ?_⟩
            rcases Nat.lt_or_ge j n with h | h
            · exact h2 j h
            · rw [show j = n by omega]; exact h3
          · rintro ⟨h1, h2⟩
            exact ⟨⟨h1, fun j hj => h2 j (by omega)⟩, h2 n (by omega)⟩
        case measure => simp [intOf]; omega
      · have j1 : ¬ (n : Int) < (l1 : Int) := by omega
        have hv : ((X : Int) == 0) = r := by
          have : (X = 0 ↔ r = true) := hz.trans (Iff.trans ⟨fun ⟨a, b⟩ => ⟨a, fun j hj => by have := b j (by omega); unfold atF at this; rwa [if_pos hj, if_pos (by omega)] at this⟩, fun ⟨a, b⟩ => ⟨a, fun j hj => by unfold atF; subst a; by_cases h : j < l1 <;> simp [h]; exact b j h⟩⟩ hr.out.symm)
          cases r <;> simp_all <;> omega
        clear hz hr
        go_wp2
        go_ret
        exact ⟨rfl, rfl⟩
end Go.Proofs.YthgflnjeojhgkaaDoor
