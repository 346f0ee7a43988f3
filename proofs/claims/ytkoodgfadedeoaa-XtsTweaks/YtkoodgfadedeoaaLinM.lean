/-
  Lin, Words, Bytes.
-/
import Derived.Test.YtkoodgfadedeoaaKept
import Derived.WalkKit
import Derived.Laws.BitsAllLaws
import Derived.Laws.Bits64b
import Derived.Test.YtkoodgfadedeoaaChecked
import Derived.WalkSpells
import Derived.WalkLawsBesides
import Derived.LoopTactic
namespace Go.Proofs.Ytkoodgfadedeoaa

/-- a times x, the modulus' rest r -/
def dX {n : Nat} (r : BitVec n) (x : BitVec n) : BitVec n := (x <<< 1) ^^^ (if x.msb then r else 0#n)
def dK {n : Nat} (r : BitVec n) : Nat → BitVec n → BitVec n
  | 0, a => a
  | k + 1, a => dX r (dK r k a)
/-- the sum of the doublings of a that b's first k bits name -/
def tK {n m : Nat} (r : BitVec n) (a : BitVec n) (b : BitVec m) : Nat → BitVec n
  | 0 => 0#n
  | k + 1 => if b.getLsbD k then tK r a b k ^^^ dK r k a else tK r a b k

theorem x4 {n : Nat} (a b c d : BitVec n) : (a ^^^ b) ^^^ (c ^^^ d) = (a ^^^ c) ^^^ (b ^^^ d) := by
  ext i; simp; cases a[i] <;> cases b[i] <;> cases c[i] <;> cases d[i] <;> rfl
theorem xx {n : Nat} (a b : BitVec n) : (a ^^^ b) ^^^ b = a := by
  ext i; simp

section
variable {n m : Nat} (r : BitVec n)
theorem dX_add (x y : BitVec n) : dX r (x ^^^ y) = dX r x ^^^ dX r y := by
  unfold dX
  rw [BitVec.msb_xor, BitVec.shiftLeft_xor_distrib, x4]
  congr 1
  cases x.msb <;> cases y.msb <;> simp
theorem dX_zero : dX r 0#n = 0#n := by
  unfold dX; simp
theorem dK_add (k : Nat) (x y : BitVec n) : dK r k (x ^^^ y) = dK r k x ^^^ dK r k y := by
  induction k with
  | zero => rfl
  | succ k ih => simp only [dK, ih, dX_add]
theorem dK_zero (k : Nat) : dK r k 0#n = 0#n := by
  induction k with
  | zero => rfl
  | succ k ih => simp only [dK, ih, dX_zero]
theorem dK_succ (k : Nat) (x : BitVec n) : dK r k (dX r x) = dX r (dK r k x) := by
  induction k with
  | zero => rfl
  | succ k ih => simp only [dK, ih]
theorem dK_dK (j k : Nat) (x : BitVec n) : dK r j (dK r k x) = dK r (j + k) x := by
  induction j with
  | zero => simp [dK]
  | succ j ih => rw [Nat.add_right_comm]; simp only [dK, ih]
theorem tK_add_left (a a' : BitVec n) (b : BitVec m) (k : Nat) : tK r (a ^^^ a') b k = tK r a b k ^^^ tK r a' b k := by
  induction k with
  | zero => simp [tK]
  | succ k ih =>
    simp only [tK]
    split
    · rw [ih, dK_add, x4]
    · exact ih
theorem tK_zero_left (b : BitVec m) (k : Nat) : tK r 0#n b k = 0#n := by
  induction k with
  | zero => rfl
  | succ k ih =>
    simp only [tK, ih, dK_zero]
    split <;> simp
theorem tK_zero_right (a : BitVec n) (k : Nat) : tK r a 0#m k = 0#n := by
  induction k with
  | zero => rfl
  | succ k ih => simp [tK, ih]
theorem tK_add_right (a : BitVec n) (b b' : BitVec m) (k : Nat) : tK r a (b ^^^ b') k = tK r a b k ^^^ tK r a b' k := by
  induction k with
  | zero => simp [tK]
  | succ k ih =>
    simp only [tK, BitVec.getLsbD_xor, ih]
    generalize dK r k a = d
    cases b.getLsbD k <;> cases b'.getLsbD k
    · simp
    · simp [BitVec.xor_assoc]
    · have := x4 (tK r a b k) d (tK r a b' k) 0#n
      simpa using this.symm
    · have := x4 (tK r a b k) d (tK r a b' k) d
      simpa using this.symm
theorem tK_dX (a : BitVec n) (b : BitVec m) (k : Nat) : tK r (dX r a) b k = dX r (tK r a b k) := by
  induction k with
  | zero => simp [tK, dX_zero]
  | succ k ih =>
    simp only [tK]
    split
    · rw [ih, dK_succ, dX_add]
    · exact ih
theorem tK_dK (j : Nat) (a : BitVec n) (b : BitVec m) (k : Nat) : tK r (dK r j a) b k = dK r j (tK r a b k) := by
  induction j with
  | zero => rfl
  | succ j ih => simp only [dK, tK_dX, ih]
theorem tK_swap (x : BitVec n) (a b : BitVec m) (j k : Nat) : tK r (tK r x a j) b k = tK r (tK r x b k) a j := by
  induction j with
  | zero => simp [tK, tK_zero_left]
  | succ j ih =>
    simp only [tK]
    split
    · rw [tK_add_left, ih, tK_dK]
    · exact ih
theorem tK_twoPow (a : BitVec n) (j k : Nat) (hj : j < m) : tK r a (BitVec.twoPow m j) k = if j < k then dK r j a else 0#n := by
  induction k with
  | zero => simp [tK]
  | succ k ih =>
    simp only [tK, BitVec.getLsbD_twoPow, ih]
    by_cases h : j = k
    · subst h; simp [hj]
    · by_cases h2 : j < k
      · simp [h2, h]; omega
      · have h3 : ¬ j < k + 1 := by omega
        simp [h2, h, h3]
/-- so long as nothing runs over, a doubling is the next power -/
theorem dK_one (k : Nat) (hk : k < n) : dK r k 1#n = BitVec.twoPow n k := by
  induction k with
  | zero => ext i hi; simp [dK, BitVec.getElem_twoPow]
  | succ k ih =>
    simp only [dK]
    rw [ih (by omega)]
    unfold dX
    have hm : (BitVec.twoPow n k).msb = false := by
      rw [BitVec.msb_eq_getLsbD_last]; simp [BitVec.getLsbD_twoPow]; omega
    rw [hm]
    ext i hi
    simp [BitVec.getElem_twoPow, BitVec.getElem_shiftLeft]
    by_cases h : i = k + 1
    · subst h; simp
    · by_cases h2 : i = 0
      · subst h2; simp
      · simp [h]; omega
theorem tK_one_bit (b : BitVec m) (k : Nat) (hk : k ≤ n) (j : Nat) : (tK r 1#n b k).getLsbD j = (decide (j < k) && b.getLsbD j) := by
  induction k with
  | zero => simp [tK]
  | succ k ih =>
    simp only [tK]
    split
    · rename_i h
      rw [BitVec.getLsbD_xor, ih (by omega), dK_one r k (by omega), BitVec.getLsbD_twoPow]
      by_cases e : j = k
      · subst e; simp [h]; omega
      · by_cases h2 : j < k
        · have h3 : j < k + 1 := by omega
          have h4 : ¬ k = j := fun h => e h.symm
          simp [h2, h3, h4]
        · have h3 : ¬ j < k + 1 := by omega
          have h4 : ¬ k = j := fun h => e h.symm
          simp [h2, h3, h4]
    · rename_i h
      rw [ih (by omega)]
      by_cases e : j = k
      · subst e; simp [h]
      · by_cases h2 : j < k
        · have h3 : j < k + 1 := by omega
          simp [h2, h3]
        · have h3 : ¬ j < k + 1 := by omega
          simp [h2, h3]
theorem tK_one (b : BitVec n) : tK r 1#n b n = b := by
  apply BitVec.eq_of_getLsbD_eq
  intro i hi
  rw [tK_one_bit r b n (Nat.le_refl _)]
  simp [hi]
theorem tK_comm (a b : BitVec n) : tK r a b n = tK r b a n := by
  have h := tK_swap r 1#n a b n n
  rwa [tK_one, tK_one] at h
theorem tK_assoc (a b c : BitVec n) : tK r (tK r a b n) c n = tK r a (tK r b c n) n := by
  rw [tK_comm r a b, tK_swap, tK_comm r (tK r b c n) a]
theorem tK_unit (a : BitVec n) : tK r a 1#n n = a := by
  rw [tK_comm, tK_one]
end
end Go.Proofs.Ytkoodgfadedeoaa

namespace Go.Proofs.Ytkoodgfadedeoaa
open Go.RowKit
theorem xor8 (x y : BitVec 8) : bits .xor .u8 (x.toNat : Int) (y.toNat : Int) = ((x ^^^ y).toNat : Int) := by
  rw [u8_xor_nat _ _ x.isLt y.isLt, BitVec.toNat_xor]
theorem xor64 (x y : BitVec 64) : bits .xor .u64 (x.toNat : Int) (y.toNat : Int) = ((x ^^^ y).toNat : Int) := by
  rw [bits_xor_u64_nat _ _ x.isLt y.isLt, BitVec.toNat_xor]
theorem nat_bit (b k : Nat) : (b / 2 ^ k % 2 == 1) = b.testBit k := by
  rw [Nat.testBit_eq_decide_div_mod_eq]
  by_cases h : b / 2 ^ k % 2 = 1 <;> simp [h]
theorem int_div_pow (b k : Nat) : ((b : Int) / 2 ^ k) = ((b / 2 ^ k : Nat) : Int) := by simp
theorem tmod_bit (b k : Nat) : (((b : Int) / 2 ^ k).tmod 2 == 1) = b.testBit k := by
  rw [int_div_pow, Int.tmod_eq_emod_of_nonneg (Int.natCast_nonneg _), ← nat_bit]
  rw [Bool.eq_iff_iff]; simp only [beq_iff_eq]; omega
theorem and_bit8 (b : BitVec 8) (k : Nat) : (bits .and .u8 ((b.toNat : Int) / 2 ^ k) 1 == 1) = b.getLsbD k := by
  have h : b.toNat / 2 ^ k < 256 := Nat.lt_of_le_of_lt (Nat.div_le_self _ _) b.isLt
  rw [int_div_pow]
  have e := u8_and_nat (b.toNat / 2 ^ k) 1 h (by decide)
  rw [show ((1 : Nat) : Int) = 1 from rfl] at e
  rw [e, BitVec.getLsbD, ← nat_bit, Nat.and_one_is_mod, Bool.eq_iff_iff]
  simp only [beq_iff_eq]; omega
theorem and_bit64 (b : BitVec 64) (k : Nat) : (bits .and .u64 ((b.toNat : Int) / 2 ^ k) 1 == 1) = b.getLsbD k := by
  have h : b.toNat / 2 ^ k < 18446744073709551616 := Nat.lt_of_le_of_lt (Nat.div_le_self _ _) b.isLt
  rw [int_div_pow]
  have e := bits_and_u64_nat (b.toNat / 2 ^ k) 1 h (by decide)
  rw [show ((1 : Nat) : Int) = 1 from rfl] at e
  rw [e, BitVec.getLsbD, ← nat_bit, Nat.and_one_is_mod, Bool.eq_iff_iff]
  simp only [beq_iff_eq]; omega
theorem xor_i64 (a b : Nat) (ha : a < 2 ^ 62) (hb : b < 2 ^ 62) : bits .xor .i64 (a : Int) (b : Int) = ((a ^^^ b : Nat) : Int) := by
  have hx : a ^^^ b < 2 ^ 62 := Nat.xor_lt_two_pow ha hb
  have h1 : (BitVec.ofInt 64 (a : Int)).toNat = a := by
    rw [BitVec.ofInt_natCast, BitVec.toNat_ofNat]; exact Nat.mod_eq_of_lt (by omega)
  have h2 : (BitVec.ofInt 64 (b : Int)).toNat = b := by
    rw [BitVec.ofInt_natCast, BitVec.toNat_ofNat]; exact Nat.mod_eq_of_lt (by omega)
  show IntKind.i64.wrap ((BitVec.ofInt 64 (a : Int) ^^^ BitVec.ofInt 64 (b : Int)).toNat : Int) = _
  rw [BitVec.toNat_xor, h1, h2, IntKind.wrap_i64]
  omega
end Go.Proofs.Ytkoodgfadedeoaa

namespace Go.Proofs.Ytkoodgfadedeoaa
open Go.RowKit
theorem dbl_fact : ∀ a : BitVec 8, bits BinOp.xor IntKind.u8 (↑a.toNat * 2 % 256) (↑a.toNat / 128 * 27) = ↑(dX 27#8 a).toNat := by decide +kernel
theorem dbl_any (a : BitVec 8) (w : World) :
    Calls Try.prog 66 #[.int .u8 (a.toNat : Int)] w fun e w' => e = .returned (.int .u8 ((dX 27#8 a).toNat:Int)) ∧ w' = w := by
  have ha := a.isLt
  go_enter Try.func66, Try.ntmps66
  go_wp2
  go_ret
  exact ⟨ret_int (dbl_fact a), rfl⟩
def mB (a b : BitVec 8) : BitVec 8 := tK 27#8 a b 8
theorem mul_any (a b : BitVec 8) (w : World) :
    Calls Try.prog 53 #[.int .u8 (a.toNat : Int), .int .u8 (b.toNat : Int)] w fun e w' => e = .returned (.int .u8 ((mB a b).toNat:Int)) ∧ w' = w := by
  have hb := b.isLt
  go_enter Try.func53, Try.ntmps53
  go_wp2
  go_loop [0, 5, 7] (fun a' s i => ∃ k : Nat, k ≤ 8 ∧ i = .int .i64 k ∧ a' = .int .u8 (dK 27#8 k a).toNat ∧ s = .int .u8 (tK 27#8 a b k).toNat) (fun _ _ i => 8 - (intOf i).toNat)
  case atStart => exact ⟨0, Nat.zero_le _, rfl, rfl, rfl⟩
  case round =>
    obtain ⟨k, hk, rfl, rfl, rfl⟩ := hrel
    have ha := (dK 27#8 k a).isLt
    have hs := (tK 27#8 a b k).isLt
    by_cases hlt : k < 8
    · rcases hbit : b.getLsbD k with _ | _
      all_goals
        have hbt := and_bit8 b k
        rw [hbit] at hbt
        go_wp2_with (go_at_call 66; refine (dbl_any _ _).mono ?_; rintro e w' ⟨rfl, rfl⟩)
        go_round
        case rel => exact ⟨k + 1, by omega, by go_num, rfl, by simp only [tK, hbit, xor8]; simp⟩
        case measure => simp [intOf]; omega
    · obtain rfl : k = 8 := by omega
      go_wp2
      go_ret
      exact ⟨rfl, rfl⟩
/-- the document's product ahead of the modulus, and behind so many of its steps -/
def clK (a b : BitVec 8) : Nat → BitVec 16
  | 0 => 0
  | k + 1 => if b.getLsbD k then clK a b k ^^^ (a.setWidth 16 <<< k) else clK a b k
def rdK (p : BitVec 16) : Nat → BitVec 16
  | 0 => p
  | k + 1 => if (rdK p k).getLsbD (14 - k) then rdK p k ^^^ (283#16 <<< (6 - k)) else rdK p k
theorem shl_bound : ∀ (a : BitVec 8), ∀ k < 8, wrap64 (↑a.toNat * 2 ^ k) = ↑(a.setWidth 16 <<< k).toNat := by
  intro a k hk
  have ha := a.isLt
  have h : k = 0 ∨ k = 1 ∨ k = 2 ∨ k = 3 ∨ k = 4 ∨ k = 5 ∨ k = 6 ∨ k = 7 := by omega
  rcases h with rfl | rfl | rfl | rfl | rfl | rfl | rfl | rfl <;> (unfold wrap64; simp [BitVec.toNat_shiftLeft, Nat.shiftLeft_eq]; omega)
theorem xor_p (p q : BitVec 16) : bits .xor .i64 (p.toNat : Int) (q.toNat : Int) = ((p ^^^ q).toNat : Int) := by
  rw [xor_i64 _ _ (Nat.lt_trans p.isLt (by decide)) (Nat.lt_trans q.isLt (by decide)), BitVec.toNat_xor]
theorem mod283 : ∀ k < 7, wrap64 (283 * 2 ^ (14 - k - 8)) = ↑(283#16 <<< (6 - k)).toNat := by decide +kernel
/-- what a polynomial is in the field -/
def ev (p : BitVec 16) : BitVec 8 := tK 27#8 1#8 p 16
theorem ev_add (p q : BitVec 16) : ev (p ^^^ q) = ev p ^^^ ev q := tK_add_right _ _ _ _ _
theorem ev_shl : ∀ k < 8, ∀ a : BitVec 8, ev (a.setWidth 16 <<< k) = dK 27#8 k a := by decide +kernel
theorem ev_mod : ∀ k < 7, ev (283#16 <<< (6 - k)) = 0#8 := by decide +kernel
theorem ev_small : ∀ a : BitVec 8, ev (a.setWidth 16) = a := by decide +kernel
theorem ev_cl (a b : BitVec 8) (k : Nat) (hk : k ≤ 8) : ev (clK a b k) = tK 27#8 a b k := by
  induction k with
  | zero => exact tK_zero_right _ _ _
  | succ k ih =>
    simp only [clK, tK]
    split
    · rw [ev_add, ih (by omega), ev_shl k (by omega)]
    · exact ih (by omega)
theorem ev_rd (p : BitVec 16) (k : Nat) (hk : k ≤ 7) : ev (rdK p k) = ev p := by
  induction k with
  | zero => rfl
  | succ k ih =>
    simp only [rdK]
    split
    · rw [ev_add, ih (by omega), ev_mod k (by omega)]; simp
    · exact ih (by omega)
theorem mod_bit : ∀ k < 7, ∀ j, 14 - k ≤ j → (283#16 <<< (6 - k)).getLsbD j = decide (j = 14 - k) := by
  intro k hk j hj
  by_cases h : j < 16
  · have H : ∀ k < 7, ∀ j < 16, 14 - k ≤ j → (283#16 <<< (6 - k)).getLsbD j = decide (j = 14 - k) := by decide +kernel
    exact H k hk j h hj
  · rw [BitVec.getLsbD_of_ge _ _ (by omega)]; simp; omega
theorem cl_high (a b : BitVec 8) (k : Nat) (hk : k ≤ 8) (j : Nat) (hj : 15 ≤ j) : (clK a b k).getLsbD j = false := by
  induction k with
  | zero => simp [clK]
  | succ k ih =>
    simp only [clK]
    split
    · rw [BitVec.getLsbD_xor, ih (by omega), BitVec.getLsbD_shiftLeft, BitVec.getLsbD_setWidth, BitVec.getLsbD_of_ge a _ (by omega)]; simp
    · exact ih (by omega)
theorem rd_high (p : BitVec 16) (hp : ∀ j, 15 ≤ j → p.getLsbD j = false) (k : Nat) (hk : k ≤ 7) (j : Nat) (hj : 15 - k ≤ j) : (rdK p k).getLsbD j = false := by
  induction k generalizing j with
  | zero => exact hp j (by omega)
  | succ k ih =>
    simp only [rdK]
    split
    · rename_i hb
      rw [BitVec.getLsbD_xor, mod_bit k (by omega) j (by omega)]
      by_cases e : j = 14 - k
      · subst e; simp [hb]
      · rw [ih (by omega) j (by omega)]; simp [e]
    · rename_i hb
      by_cases e : j = 14 - k
      · subst e; simpa using hb
      · exact ih (by omega) j (by omega)
theorem rd_cl (a b : BitVec 8) : (rdK (clK a b 8) 7).setWidth 8 = mB a b := by
  have h1 : ((rdK (clK a b 8) 7).setWidth 8).setWidth 16 = rdK (clK a b 8) 7 := by
    apply BitVec.eq_of_getLsbD_eq
    intro i hi
    rw [BitVec.getLsbD_setWidth, BitVec.getLsbD_setWidth]
    by_cases h : i < 8
    · simp [h, hi]
    · rw [rd_high _ (cl_high a b 8 (by omega)) 7 (by omega) i (by omega)]; simp
  have h2 := ev_small ((rdK (clK a b 8) 7).setWidth 8)
  rw [h1, ev_rd _ 7 (by omega), ev_cl a b 8 (by omega)] at h2
  exact h2.symm
theorem rd_out (a b : BitVec 8) : ((rdK (clK a b 8) 7).toNat : Int) % 256 = ((mB a b).toNat : Int) := by
  rw [← rd_cl, BitVec.toNat_setWidth]; simp
theorem rmul_any (a b : BitVec 8) (w : World) :
    Calls Try.prog 30 #[.int .u8 (a.toNat : Int), .int .u8 (b.toNat : Int)] w fun e w' => e = .returned (.int .u8 ((mB a b).toNat:Int)) ∧ w' = w := by
  have hb := b.isLt
  have ha := a.isLt
  go_enter Try.func30, Try.ntmps30
  go_wp2
  go_loop [5, 6] (fun s i => ∃ k : Nat, k ≤ 8 ∧ i = .int .i64 k ∧ s = .int .i64 (clK a b k).toNat) (fun _ i => 8 - (intOf i).toNat)
  case atStart => exact ⟨0, Nat.zero_le _, rfl, rfl⟩
  case round =>
    obtain ⟨k, hk, rfl, rfl⟩ := hrel
    by_cases hlt : k < 8
    · rcases hbit : b.getLsbD k with _ | _
      all_goals
        have hbt : (((b.toNat : Int) / 2 ^ k).tmod 2 == 1) = b.getLsbD k := tmod_bit b.toNat k
        rw [hbit] at hbt
        go_wp2
        go_round
        case rel => exact ⟨k + 1, by omega, by go_num, by first | (rw [shl_bound a k hlt, xor_p]; simp only [clK, hbit]; simp) | (simp only [clK, hbit]; simp)⟩
        case measure => simp [intOf]; omega
    · obtain rfl : k = 8 := by omega
      go_wp2
      go_loop [5, 7] (fun s i => ∃ k : Nat, k ≤ 7 ∧ i = .int .i64 (14 - k) ∧ s = .int .i64 (rdK (clK a b 8) k).toNat) (fun _ i => (intOf i).toNat)
      case atStart => exact ⟨0, Nat.zero_le _, rfl, rfl⟩
      case round =>
        obtain ⟨k, hk, rfl, rfl⟩ := hrel
        by_cases hlt : k < 7
        · rcases hbit : (rdK (clK a b 8) k).getLsbD (14 - k) with _ | _
          all_goals
            have hbt : ((((rdK (clK a b 8) k).toNat : Int) / 2 ^ (14 - k)).tmod 2 == 1) = (rdK (clK a b 8) k).getLsbD (14 - k) := tmod_bit _ _
            rw [hbit] at hbt
            go_wp2
            go_round
            case rel => exact ⟨k + 1, by omega, by go_num, by first | (rw [mod283 k hlt, xor_p]; simp only [rdK, hbit]; simp) | (simp only [rdK, hbit]; simp)⟩
            case measure => simp [intOf]; omega
        · obtain rfl : k = 7 := by omega
          go_wp2
          go_ret
          exact ⟨ret_int (rd_out a b), rfl⟩
/-- the square, again and again; the product of them -/
def sqK (a : BitVec 8) : Nat → BitVec 8
  | 0 => a
  | k + 1 => mB (sqK a k) (sqK a k)
def ivK (a : BitVec 8) : Nat → BitVec 8
  | 0 => 1
  | k + 1 => mB (ivK a k) (sqK a (k + 1))
def iB (a : BitVec 8) : BitVec 8 := ivK a 7
theorem inv_any (a : BitVec 8) (w : World) :
    Calls Try.prog 64 #[.int .u8 (a.toNat : Int)] w fun e w' => e = .returned (.int .u8 ((iB a).toNat:Int)) ∧ w' = w := by
  go_enter Try.func64, Try.ntmps64
  go_wp2
  go_loop [0, 3, 4] (fun a' s i => ∃ k : Nat, k ≤ 7 ∧ i = .int .i64 k ∧ a' = .int .u8 (sqK a k).toNat ∧ s = .int .u8 (ivK a k).toNat) (fun _ _ i => 7 - (intOf i).toNat)
  case atStart => exact ⟨0, Nat.zero_le _, rfl, rfl, rfl⟩
  case round =>
    obtain ⟨k, hk, rfl, rfl, rfl⟩ := hrel
    by_cases hlt : k < 7
    · go_wp2_with (go_at_call 53; refine (mul_any _ _ _).mono ?_; rintro e w' ⟨rfl, rfl⟩)
      go_round
      case rel => exact ⟨k + 1, by omega, by go_num, rfl, rfl⟩
      case measure => simp [intOf]; omega
    · obtain rfl : k = 7 := by omega
      go_wp2
      go_ret
      exact ⟨rfl, rfl⟩
end Go.Proofs.Ytkoodgfadedeoaa
