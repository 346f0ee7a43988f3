/-
  Plain mathematics, no word of the program: products of polynomials over two elements modulo one of degree n, told as sums of doublings: they go in either order, in any groups, of sums part by part. How the walk spells bits of integers, said of bit vectors. Plain facts, no word of the program.
-/
import Derived.Test.YtkoodgfadedeoaaQ1
import Derived.WalkKit
import Derived.Laws.BitsAllLaws
import Derived.Laws.Bits64b
/-
  Plain mathematics, no word of the program: products of polynomials over two elements modulo one of degree n, told as sums of doublings: they go in either order, in any groups, of sums part by part.
-/
namespace Go.Proofs.Ytkoodgfadedeoaa

/-- a times x, the modulus' rest r -/
def dX {n : Nat} (r : BitVec n) (x : BitVec n) : BitVec n := (x <<< 1) ^^^ (if x.msb then r else 0#n)
def dK {n : Nat} (r : BitVec n) : Nat → BitVec n → BitVec n
  | 0, a => a
  | k + 1, a => dX r (dK r k a)
/-- the sum of the doublings of a that b's first k bits name -/
def tK {n m : Nat} (r : BitVec n) (a : BitVec n) (b : BitVec m) : Nat → BitVec n
  | 0 => 0#n
  | k + 1 => if b.getLsbD k then tK r a b k ^^^ dK r k a else tK r a b k

theorem x4 {n : Nat} (a b c d : BitVec n) : (a ^^^ b) ^^^ (c ^^^ d) = (a ^^^ c) ^^^ (b ^^^ d) := by
  ext i; simp; cases a[i] <;> cases b[i] <;> cases c[i] <;> cases d[i] <;> rfl
theorem xx {n : Nat} (a b : BitVec n) : (a ^^^ b) ^^^ b = a := by
  ext i; simp

section
variable {n m : Nat} (r : BitVec n)
theorem dX_add (x y : BitVec n) : dX r (x ^^^ y) = dX r x ^^^ dX r y := by
  unfold dX
  rw [BitVec.msb_xor, BitVec.shiftLeft_xor_distrib, x4]
  congr 1
  cases x.msb <;> cases y.msb <;> simp
theorem dX_zero : dX r 0#n = 0#n := by
  unfold dX; simp
theorem dK_add (k : Nat) (x y : BitVec n) : dK r k (x ^^^ y) = dK r k x ^^^ dK r k y := by
  induction k with
  | zero => rfl
  | succ k ih => simp only [dK, ih, dX_add]
theorem dK_zero (k : Nat) : dK r k 0#n = 0#n := by
  induction k with
  | zero => rfl
  | succ k ih => simp only [dK, ih, dX_zero]
theorem dK_succ (k : Nat) (x : BitVec n) : dK r k (dX r x) = dX r (dK r k x) := by
  induction k with
  | zero => rfl
  | succ k ih => simp only [dK, ih]
theorem dK_dK (j k : Nat) (x : BitVec n) : dK r j (dK r k x) = dK r (j + k) x := by
  induction j with
  | zero => simp [dK]
  | succ j ih => rw [Nat.add_right_comm]; simp only [dK, ih]
theorem tK_add_left (a a' : BitVec n) (b : BitVec m) (k : Nat) : tK r (a ^^^ a') b k = tK r a b k ^^^ tK r a' b k := by
  induction k with
  | zero => simp [tK]
  | succ k ih =>
    simp only [tK]
    split
    · rw [ih, dK_add, x4]
    · exact ih
theorem tK_zero_left (b : BitVec m) (k : Nat) : tK r 0#n b k = 0#n := by
  induction k with
  | zero => rfl
  | succ k ih =>
    simp only [tK, ih, dK_zero]
    split <;> simp
theorem tK_zero_right (a : BitVec n) (k : Nat) : tK r a 0#m k = 0#n := by
  induction k with
  | zero => rfl
  | succ k ih => simp [tK, ih]
theorem tK_add_right (a : BitVec n) (b b' : BitVec m) (k : Nat) : tK r a (b ^^^ b') k = tK r a b k ^^^ tK r a b' k := by
  induction k with
  | zero => simp [tK]
  | succ k ih =>
    simp only [tK, BitVec.getLsbD_xor, ih]
    generalize dK r k a = d
    cases b.getLsbD k <;> cases b'.getLsbD k
    · simp
    · simp [BitVec.xor_assoc]
    · have := x4 (tK r a b k) d (tK r a b' k) 0#n
      simpa using this.symm
    · have := x4 (tK r a b k) d (tK r a b' k) d
      simpa using this.symm
theorem tK_dX (a : BitVec n) (b : BitVec m) (k : Nat) : tK r (dX r a) b k = dX r (tK r a b k) := by
  induction k with
  | zero => simp [tK, dX_zero]
  | succ k ih =>
    simp only [tK]
    split
    · rw [ih, dK_succ, dX_add]
    · exact ih
theorem tK_dK (j : Nat) (a : BitVec n) (b : BitVec m) (k : Nat) : tK r (dK r j a) b k = dK r j (tK r a b k) := by
  induction j with
  | zero => rfl
  | succ j ih => simp only [dK, tK_dX, ih]
theorem tK_swap (x : BitVec n) (a b : BitVec m) (j k : Nat) : tK r (tK r x a j) b k = tK r (tK r x b k) a j := by
  induction j with
  | zero => simp [tK, tK_zero_left]
  | succ j ih =>
    simp only [tK]
    split
    · rw [tK_add_left, ih, tK_dK]
    · exact ih
theorem tK_twoPow (a : BitVec n) (j k : Nat) (hj : j < m) : tK r a (BitVec.twoPow m j) k = if j < k then dK r j a else 0#n := by
  induction k with
  | zero => simp [tK]
  | succ k ih =>
    simp only [tK, BitVec.getLsbD_twoPow, ih]
    by_cases h : j = k
    · subst h; simp [hj]
    · by_cases h2 : j < k
      · simp [h2, h]; omega
      · have h3 : ¬ j < k + 1 := by omega
        simp [h2, h, h3]
/-- so long as nothing runs over, a doubling is the next power -/
theorem dK_one (k : Nat) (hk : k < n) : dK r k 1#n = BitVec.twoPow n k := by
  induction k with
  | zero => ext i hi; simp [dK, BitVec.getElem_twoPow]
  | succ k ih =>
    simp only [dK]
    rw [ih (by omega)]
    unfold dX
    have hm : (BitVec.twoPow n k).msb = false := by
      rw [BitVec.msb_eq_getLsbD_last]; simp [BitVec.getLsbD_twoPow]; omega
    rw [hm]
    ext i hi
    simp [BitVec.getElem_twoPow, BitVec.getElem_shiftLeft]
    by_cases h : i = k + 1
    · subst h; simp
    · by_cases h2 : i = 0
      · subst h2; simp
      · simp [h]; omega
theorem tK_one_bit (b : BitVec m) (k : Nat) (hk : k ≤ n) (j : Nat) : (tK r 1#n b k).getLsbD j = (decide (j < k) && b.getLsbD j) := by
  induction k with
  | zero => simp [tK]
  | succ k ih =>
    simp only [tK]
    split
    · rename_i h
      rw [BitVec.getLsbD_xor, ih (by omega), dK_one r k (by omega), BitVec.getLsbD_twoPow]
      by_cases e : j = k
      · subst e; simp [h]; omega
      · by_cases h2 : j < k
        · have h3 : j < k + 1 := by omega
          have h4 : ¬ k = j := fun h => e h.symm
          simp [h2, h3, h4]
        · have h3 : ¬ j < k + 1 := by omega
          have h4 : ¬ k = j := fun h => e h.symm
          simp [h2, h3, h4]
    · rename_i h
      rw [ih (by omega)]
      by_cases e : j = k
      · subst e; simp [h]
      · by_cases h2 : j < k
        · have h3 : j < k + 1 := by omega
          simp [h2, h3]
        · have h3 : ¬ j < k + 1 := by omega
          simp [h2, h3]
theorem tK_one (b : BitVec n) : tK r 1#n b n = b := by
  apply BitVec.eq_of_getLsbD_eq
  intro i hi
  rw [tK_one_bit r b n (Nat.le_refl _)]
  simp [hi]
theorem tK_comm (a b : BitVec n) : tK r a b n = tK r b a n := by
  have h := tK_swap r 1#n a b n n
  rwa [tK_one, tK_one] at h
theorem tK_assoc (a b c : BitVec n) : tK r (tK r a b n) c n = tK r a (tK r b c n) n := by
  rw [tK_comm r a b, tK_swap, tK_comm r (tK r b c n) a]
theorem tK_unit (a : BitVec n) : tK r a 1#n n = a := by
  rw [tK_comm, tK_one]
end
end Go.Proofs.Ytkoodgfadedeoaa
namespace Go.Proofs.Ytkoodgfadedeoaa
open Go.RowKit
theorem xor8 (x y : BitVec 8) : bits .xor .u8 (x.toNat : Int) (y.toNat : Int) = ((x ^^^ y).toNat : Int) := by
  rw [u8_xor_nat _ _ x.isLt y.isLt, BitVec.toNat_xor]
theorem xor64 (x y : BitVec 64) : bits .xor .u64 (x.toNat : Int) (y.toNat : Int) = ((x ^^^ y).toNat : Int) := by
  rw [bits_xor_u64_nat _ _ x.isLt y.isLt, BitVec.toNat_xor]
theorem nat_bit (b k : Nat) : (b / 2 ^ k % 2 == 1) = b.testBit k := by
  rw [Nat.testBit_eq_decide_div_mod_eq]
  by_cases h : b / 2 ^ k % 2 = 1 <;> simp [h]
theorem int_div_pow (b k : Nat) : ((b : Int) / 2 ^ k) = ((b / 2 ^ k : Nat) : Int) := by simp
theorem tmod_bit (b k : Nat) : (((b : Int) / 2 ^ k).tmod 2 == 1) = b.testBit k := by
  rw [int_div_pow, Int.tmod_eq_emod_of_nonneg (Int.natCast_nonneg _), ← nat_bit]
  rw [Bool.eq_iff_iff]; simp only [beq_iff_eq]; omega
theorem and_bit8 (b : BitVec 8) (k : Nat) : (bits .and .u8 ((b.toNat : Int) / 2 ^ k) 1 == 1) = b.getLsbD k := by
  have h : b.toNat / 2 ^ k < 256 := Nat.lt_of_le_of_lt (Nat.div_le_self _ _) b.isLt
  rw [int_div_pow]
  have e := u8_and_nat (b.toNat / 2 ^ k) 1 h (by decide)
  rw [show ((1 : Nat) : Int) = 1 from rfl] at e
  rw [e, BitVec.getLsbD, ← nat_bit, Nat.and_one_is_mod, Bool.eq_iff_iff]
  simp only [beq_iff_eq]; omega
theorem and_bit64 (b : BitVec 64) (k : Nat) : (bits .and .u64 ((b.toNat : Int) / 2 ^ k) 1 == 1) = b.getLsbD k := by
  have h : b.toNat / 2 ^ k < 18446744073709551616 := Nat.lt_of_le_of_lt (Nat.div_le_self _ _) b.isLt
  rw [int_div_pow]
  have e := bits_and_u64_nat (b.toNat / 2 ^ k) 1 h (by decide)
  rw [show ((1 : Nat) : Int) = 1 from rfl] at e
  rw [e, BitVec.getLsbD, ← nat_bit, Nat.and_one_is_mod, Bool.eq_iff_iff]
  simp only [beq_iff_eq]; omega
theorem xor_i64 (a b : Nat) (ha : a < 2 ^ 62) (hb : b < 2 ^ 62) : bits .xor .i64 (a : Int) (b : Int) = ((a ^^^ b : Nat) : Int) := by
  have hx : a ^^^ b < 2 ^ 62 := Nat.xor_lt_two_pow ha hb
  have h1 : (BitVec.ofInt 64 (a : Int)).toNat = a := by
    rw [BitVec.ofInt_natCast, BitVec.toNat_ofNat]; exact Nat.mod_eq_of_lt (by omega)
  have h2 : (BitVec.ofInt 64 (b : Int)).toNat = b := by
    rw [BitVec.ofInt_natCast, BitVec.toNat_ofNat]; exact Nat.mod_eq_of_lt (by omega)
  show IntKind.i64.wrap ((BitVec.ofInt 64 (a : Int) ^^^ BitVec.ofInt 64 (b : Int)).toNat : Int) = _
  rw [BitVec.toNat_xor, h1, h2, IntKind.wrap_i64]
  omega
end Go.Proofs.Ytkoodgfadedeoaa
