/-
  How the walk spells bits of integers, said of bit vectors. Plain facts, no word of the program. What each function on bytes answers, the program's and the document's: for every byte, in every world, which it leaves as it is. What each function on boxes answers, the program's and the document's: for every byte, in every world, which it leaves as it is.
-/
import Derived.Test.YtfpfgbhdehbggaaGreatDoorQb2
import Derived.WalkKit
import Derived.Laws.BitsAllLaws
import Derived.Laws.Bits64b
import Derived.Test.YtfpfgbhdehbggaaGreatDoorQb16
import Derived.Test.YtfpfgbhdehbggaaGreatDoorChecked
import Derived.WalkSpells
import Derived.WalkLawsBesides
import Derived.LoopTactic
namespace Go.Proofs.YtfpfgbhdehbggaaGreatDoor
set_option maxRecDepth 20000
open Go.RowKit
theorem xor8 (x y : BitVec 8) : bits .xor .u8 (x.toNat : Int) (y.toNat : Int) = ((x ^^^ y).toNat : Int) := by
  rw [u8_xor_nat _ _ x.isLt y.isLt, BitVec.toNat_xor]
theorem xor64 (x y : BitVec 64) : bits .xor .u64 (x.toNat : Int) (y.toNat : Int) = ((x ^^^ y).toNat : Int) := by
  rw [bits_xor_u64_nat _ _ x.isLt y.isLt, BitVec.toNat_xor]
theorem nat_bit (b k : Nat) : (b / 2 ^ k % 2 == 1) = b.testBit k := by
  rw [Nat.testBit_eq_decide_div_mod_eq]
  by_cases h : b / 2 ^ k % 2 = 1 <;> simp [h]
theorem int_div_pow (b k : Nat) : ((b : Int) / 2 ^ k) = ((b / 2 ^ k : Nat) : Int) := by simp
theorem tmod_bit (b k : Nat) : (((b : Int) / 2 ^ k).tmod 2 == 1) = b.testBit k := by
  rw [int_div_pow, Int.tmod_eq_emod_of_nonneg (Int.natCast_nonneg _), ← nat_bit]
  rw [Bool.eq_iff_iff]; simp only [beq_iff_eq]; omega
theorem and_bit8 (b : BitVec 8) (k : Nat) : (bits .and .u8 ((b.toNat : Int) / 2 ^ k) 1 == 1) = b.getLsbD k := by
  have h : b.toNat / 2 ^ k < 256 := Nat.lt_of_le_of_lt (Nat.div_le_self _ _) b.isLt
  rw [int_div_pow]
  have e := u8_and_nat (b.toNat / 2 ^ k) 1 h (by decide)
  rw [show ((1 : Nat) : Int) = 1 from rfl] at e
  rw [e, BitVec.getLsbD, ← nat_bit, Nat.and_one_is_mod, Bool.eq_iff_iff]
  simp only [beq_iff_eq]; omega
theorem xor_i64 (a b : Nat) (ha : a < 2 ^ 62) (hb : b < 2 ^ 62) : bits .xor .i64 (a : Int) (b : Int) = ((a ^^^ b : Nat) : Int) := by
  have hx : a ^^^ b < 2 ^ 62 := Nat.xor_lt_two_pow ha hb
  have h1 : (BitVec.ofInt 64 (a : Int)).toNat = a := by
    rw [BitVec.ofInt_natCast, BitVec.toNat_ofNat]; exact Nat.mod_eq_of_lt (by omega)
  have h2 : (BitVec.ofInt 64 (b : Int)).toNat = b := by
    rw [BitVec.ofInt_natCast, BitVec.toNat_ofNat]; exact Nat.mod_eq_of_lt (by omega)
  show IntKind.i64.wrap ((BitVec.ofInt 64 (a : Int) ^^^ BitVec.ofInt 64 (b : Int)).toNat : Int) = _
  rw [BitVec.toNat_xor, h1, h2, IntKind.wrap_i64]
  omega
end Go.Proofs.YtfpfgbhdehbggaaGreatDoor
namespace Go.Proofs.YtfpfgbhdehbggaaGreatDoor
set_option maxRecDepth 20000
open Go.RowKit
theorem dbl_fact : ∀ a : BitVec 8, bits BinOp.xor IntKind.u8 (↑a.toNat * 2 % 256) (↑a.toNat / 128 * 27) = ↑(dX 27#8 a).toNat := by decide +kernel
theorem dbl_any (a : BitVec 8) (w : World) :
    Calls Tryz.prog 115 #[.int .u8 (a.toNat : Int)] w fun e w' => e = .returned (.int .u8 ((dX 27#8 a).toNat:Int)) ∧ w' = w := by
  have ha := a.isLt
  go_enter Tryz.func115, Tryz.ntmps115
  go_wp2
  go_ret
  exact ⟨ret_int (dbl_fact a), rfl⟩
def mB (a b : BitVec 8) : BitVec 8 := tK 27#8 a b 8
theorem mul_any (a b : BitVec 8) (w : World) :
    Calls Tryz.prog 100 #[.int .u8 (a.toNat : Int), .int .u8 (b.toNat : Int)] w fun e w' => e = .returned (.int .u8 ((mB a b).toNat:Int)) ∧ w' = w := by
  have hb := b.isLt
  go_enter Tryz.func100, Tryz.ntmps100
  go_wp2
  go_loop [0, 5, 7] (fun a' s i => ∃ k : Nat, k ≤ 8 ∧ i = .int .i64 k ∧ a' = .int .u8 (dK 27#8 k a).toNat ∧ s = .int .u8 (tK 27#8 a b k).toNat) (fun _ _ i => 8 - (intOf i).toNat)
  case atStart => exact ⟨0, Nat.zero_le _, rfl, rfl, rfl⟩
  case round =>
    obtain ⟨k, hk, rfl, rfl, rfl⟩ := hrel
    have ha := (dK 27#8 k a).isLt
    have hs := (tK 27#8 a b k).isLt
    by_cases hlt : k < 8
    · rcases hbit : b.getLsbD k with _ | _
      all_goals
        have hbt := and_bit8 b k
        rw [hbit] at hbt
        go_wp2_with (go_at_call 115; refine (dbl_any _ _).mono ?_; rintro e w' ⟨rfl, rfl⟩)
        go_round
        case rel => exact ⟨k + 1, by omega, by go_num, rfl, by simp only [tK, hbit, xor8]; simp⟩
        case measure => simp [intOf]; omega
    · obtain rfl : k = 8 := by omega
      go_wp2
      go_ret
      exact ⟨rfl, rfl⟩
def clK (a b : BitVec 8) : Nat → BitVec 16
  | 0 => 0
  | k + 1 => if b.getLsbD k then clK a b k ^^^ (a.setWidth 16 <<< k) else clK a b k
def rdK (p : BitVec 16) : Nat → BitVec 16
  | 0 => p
  | k + 1 => if (rdK p k).getLsbD (14 - k) then rdK p k ^^^ (283#16 <<< (6 - k)) else rdK p k
theorem shl_bound : ∀ (a : BitVec 8), ∀ k < 8, wrap64 (↑a.toNat * 2 ^ k) = ↑(a.setWidth 16 <<< k).toNat := by
  intro a k hk
  have ha := a.isLt
  have h : k = 0 ∨ k = 1 ∨ k = 2 ∨ k = 3 ∨ k = 4 ∨ k = 5 ∨ k = 6 ∨ k = 7 := by omega
  rcases h with rfl | rfl | rfl | rfl | rfl | rfl | rfl | rfl <;> (unfold wrap64; simp [BitVec.toNat_shiftLeft, Nat.shiftLeft_eq]; omega)
theorem xor_p (p q : BitVec 16) : bits .xor .i64 (p.toNat : Int) (q.toNat : Int) = ((p ^^^ q).toNat : Int) := by
  rw [xor_i64 _ _ (Nat.lt_trans p.isLt (by decide)) (Nat.lt_trans q.isLt (by decide)), BitVec.toNat_xor]
theorem mod283 : ∀ k < 7, wrap64 (283 * 2 ^ (14 - k - 8)) = ↑(283#16 <<< (6 - k)).toNat := by decide +kernel
def ev (p : BitVec 16) : BitVec 8 := tK 27#8 1#8 p 16
theorem ev_add (p q : BitVec 16) : ev (p ^^^ q) = ev p ^^^ ev q := tK_add_right _ _ _ _ _
theorem ev_shl : ∀ k < 8, ∀ a : BitVec 8, ev (a.setWidth 16 <<< k) = dK 27#8 k a := by decide +kernel
theorem ev_mod : ∀ k < 7, ev (283#16 <<< (6 - k)) = 0#8 := by decide +kernel
theorem ev_small : ∀ a : BitVec 8, ev (a.setWidth 16) = a := by decide +kernel
theorem ev_cl (a b : BitVec 8) (k : Nat) (hk : k ≤ 8) : ev (clK a b k) = tK 27#8 a b k := by
  induction k with
  | zero => exact tK_zero_right _ _ _
  | succ k ih =>
    simp only [clK, tK]
    split
    · rw [ev_add, ih (by omega), ev_shl k (by omega)]
    · exact ih (by omega)
theorem ev_rd (p : BitVec 16) (k : Nat) (hk : k ≤ 7) : ev (rdK p k) = ev p := by
  induction k with
  | zero => rfl
  | succ k ih =>
    simp only [rdK]
    split
    · rw [ev_add, ih (by omega), ev_mod k (by omega)]; simp
    · exact ih (by omega)
theorem mod_bit : ∀ k < 7, ∀ j, 14 - k ≤ j → (283#16 <<< (6 - k)).getLsbD j = decide (j = 14 - k) := by
  intro k hk j hj
  by_cases h : j < 16
  · have H : ∀ k < 7, ∀ j < 16, 14 - k ≤ j → (283#16 <<< (6 - k)).getLsbD j = decide (j = 14 - k) := by decide +kernel
    exact H k hk j h hj
  · rw [BitVec.getLsbD_of_ge _ _ (by omega)]; simp; omega
theorem cl_high (a b : BitVec 8) (k : Nat) (hk : k ≤ 8) (j : Nat) (hj : 15 ≤ j) : (clK a b k).getLsbD j = false := by
  induction k with
  | zero => simp [clK]
  | succ k ih =>
    simp only [clK]
    split
    · rw [BitVec.getLsbD_xor, ih (by omega), BitVec.getLsbD_shiftLeft, BitVec.getLsbD_setWidth, BitVec.getLsbD_of_ge a _ (by omega)]; simp
    · exact ih (by omega)
theorem rd_high (p : BitVec 16) (hp : ∀ j, 15 ≤ j → p.getLsbD j = false) (k : Nat) (hk : k ≤ 7) (j : Nat) (hj : 15 - k ≤ j) : (rdK p k).getLsbD j = false := by
  induction k generalizing j with
  | zero => exact hp j (by omega)
  | succ k ih =>
    simp only [rdK]
    split
    · rename_i hb
      rw [BitVec.getLsbD_xor, mod_bit k (by omega) j (by omega)]
      by_cases e : j = 14 - k
      · subst e; simp [hb]
      · rw [ih (by omega) j (by omega)]; simp [e]
    · rename_i hb
      by_cases e : j = 14 - k
      · subst e; simpa using hb
      · exact ih (by omega) j (by omega)
theorem rd_cl (a b : BitVec 8) : (rdK (clK a b 8) 7).setWidth 8 = mB a b := by
  have h1 : ((rdK (clK a b 8) 7).setWidth 8).setWidth 16 = rdK (clK a b 8) 7 := by
    apply BitVec.eq_of_getLsbD_eq
    intro i hi
    rw [BitVec.getLsbD_setWidth, BitVec.getLsbD_setWidth]
    by_cases h : i < 8
    · simp [h, hi]
    · rw [rd_high _ (cl_high a b 8 (by omega)) 7 (by omega) i (by omega)]; simp
  have h2 := ev_small ((rdK (clK a b 8) 7).setWidth 8)
  rw [h1, ev_rd _ 7 (by omega), ev_cl a b 8 (by omega)] at h2
  exact h2.symm
theorem rd_out (a b : BitVec 8) : ((rdK (clK a b 8) 7).toNat : Int) % 256 = ((mB a b).toNat : Int) := by
  rw [← rd_cl, BitVec.toNat_setWidth]; simp
def sqK (a : BitVec 8) : Nat → BitVec 8
  | 0 => a
  | k + 1 => mB (sqK a k) (sqK a k)
def ivK (a : BitVec 8) : Nat → BitVec 8
  | 0 => 1
  | k + 1 => mB (ivK a k) (sqK a (k + 1))
def iB (a : BitVec 8) : BitVec 8 := ivK a 7
theorem inv_any (a : BitVec 8) (w : World) :
    Calls Tryz.prog 113 #[.int .u8 (a.toNat : Int)] w fun e w' => e = .returned (.int .u8 ((iB a).toNat:Int)) ∧ w' = w := by
  go_enter Tryz.func113, Tryz.ntmps113
  go_wp2
  go_loop [0, 3, 4] (fun a' s i => ∃ k : Nat, k ≤ 7 ∧ i = .int .i64 k ∧ a' = .int .u8 (sqK a k).toNat ∧ s = .int .u8 (ivK a k).toNat) (fun _ _ i => 7 - (intOf i).toNat)
  case atStart => exact ⟨0, Nat.zero_le _, rfl, rfl, rfl⟩
  case round =>
    obtain ⟨k, hk, rfl, rfl, rfl⟩ := hrel
    by_cases hlt : k < 7
    · go_wp2_with (go_at_call 100; refine (mul_any _ _ _).mono ?_; rintro e w' ⟨rfl, rfl⟩)
      go_round
      case rel => exact ⟨k + 1, by omega, by go_num, rfl, rfl⟩
      case measure => simp [intOf]; omega
    · obtain rfl : k = 7 := by omega
      go_wp2
      go_ret
      exact ⟨rfl, rfl⟩
end Go.Proofs.YtfpfgbhdehbggaaGreatDoor
namespace Go.Proofs.YtfpfgbhdehbggaaGreatDoor
set_option maxRecDepth 20000
open Go.RowKit
def rotB (a : BitVec 8) (n : Nat) : BitVec 8 := a.rotateLeft n
theorem rot1 : ∀ a : BitVec 8, bits BinOp.or IntKind.u8 (↑a.toNat * 2 % 256) (↑a.toNat / 128) = ↑(rotB a 1).toNat := by decide +kernel
theorem rot2 : ∀ a : BitVec 8, bits BinOp.or IntKind.u8 (↑a.toNat * 4 % 256) (↑a.toNat / 64) = ↑(rotB a 2).toNat := by decide +kernel
theorem rot3 : ∀ a : BitVec 8, bits BinOp.or IntKind.u8 (↑a.toNat * 8 % 256) (↑a.toNat / 32) = ↑(rotB a 3).toNat := by decide +kernel
theorem rot4 : ∀ a : BitVec 8, bits BinOp.or IntKind.u8 (↑a.toNat * 16 % 256) (↑a.toNat / 16) = ↑(rotB a 4).toNat := by decide +kernel
theorem rot6 : ∀ a : BitVec 8, bits BinOp.or IntKind.u8 (↑a.toNat * 64 % 256) (↑a.toNat / 4) = ↑(rotB a 6).toNat := by decide +kernel
theorem rot_anyA (a : BitVec 8) (n : Int) (hn : n = 1 ∨ n = 2 ∨ n = 3 ∨ n = 4 ∨ n = 6) (w : World) :
    Calls Tryz.prog 120 #[.int .u8 (a.toNat : Int), .int .i64 n] w fun e w' => e = .returned (.int .u8 ((rotB a n.toNat).toNat:Int)) ∧ w' = w := by
  have ha := a.isLt
  have e1 : bits BinOp.and IntKind.u64 1 7 = 1 := by decide +kernel
  have e2 : bits BinOp.and IntKind.u64 2 7 = 2 := by decide +kernel
  have e3 : bits BinOp.and IntKind.u64 3 7 = 3 := by decide +kernel
  have e4 : bits BinOp.and IntKind.u64 4 7 = 4 := by decide +kernel
  have e6 : bits BinOp.and IntKind.u64 6 7 = 6 := by decide +kernel
  rcases hn with rfl | rfl | rfl | rfl | rfl
  all_goals
    go_enter Tryz.func120, Tryz.ntmps120
    go_wp2
    go_ret
    exact ⟨ret_int (by first | exact rot1 a | exact rot2 a | exact rot3 a | exact rot4 a | exact rot6 a), rfl⟩
theorem turn_anyA (a : BitVec 8) (n : Int) (hn : n = 1 ∨ n = 2 ∨ n = 3 ∨ n = 4 ∨ n = 6) (w : World) :
    Calls Tryz.prog 114 #[.int .u8 (a.toNat : Int), .int .i64 n] w fun e w' => e = .returned (.int .u8 ((rotB a n.toNat).toNat:Int)) ∧ w' = w := by
  go_enter Tryz.func114, Tryz.ntmps114
  go_wp2_with (go_at_call 120; refine (rot_anyA _ _ hn _).mono ?_; rintro e w' ⟨rfl, rfl⟩)
  go_ret
  exact ⟨rfl, rfl⟩
def turnB (b : BitVec 8) : BitVec 8 := b ^^^ rotB b 1 ^^^ rotB b 2 ^^^ rotB b 3 ^^^ rotB b 4 ^^^ 99#8
def unturnB (b : BitVec 8) : BitVec 8 := rotB b 1 ^^^ rotB b 3 ^^^ rotB b 6 ^^^ 5#8
def boxB (a : BitVec 8) : BitVec 8 := turnB (iB a)
def unboxB (a : BitVec 8) : BitVec 8 := iB (unturnB a)
theorem xor8_lit (x : BitVec 8) (n : Nat) (hn : n < 256) : bits .xor .u8 (x.toNat : Int) (n : Int) = ((x ^^^ BitVec.ofNat 8 n).toNat : Int) := by
  rw [u8_xor_nat _ _ x.isLt hn, BitVec.toNat_xor, BitVec.toNat_ofNat, Nat.mod_eq_of_lt hn]
theorem box_any (a : BitVec 8) (w : World) :
    Calls Tryz.prog 99 #[.int .u8 (a.toNat : Int)] w fun e w' => e = .returned (.int .u8 ((boxB a).toNat:Int)) ∧ w' = w := by
  go_enter Tryz.func99, Tryz.ntmps99
  go_wp2_with (first | (go_at_call 113; refine (inv_any _ _).mono ?_; rintro e w' ⟨rfl, rfl⟩) | (go_at_call 114; refine (turn_anyA _ _ (by omega) _).mono ?_; rintro e w' ⟨rfl, rfl⟩))
  go_ret
  refine ⟨ret_int ?_, rfl⟩
  rw [xor8, xor8, xor8, xor8]
  exact xor8_lit _ 99 (by decide)
def bitK (a : BitVec 8) (i : Nat) : Nat → Int
  | 0 => ((99 : Int) / 2 ^ i).tmod 2
  | 1 => (bitK a i 0 + ((a.toNat : Int) / 2 ^ i).tmod 2) % 256
  | k + 2 => (bitK a i (k + 1) + ((a.toNat : Int) / 2 ^ ((i + 3 + (k + 1)) % 8)).tmod 2) % 256
def outK (a : BitVec 8) : Nat → Int
  | 0 => 0
  | i + 1 => bits BinOp.or IntKind.u8 (outK a i) ((bitK a i 5).tmod 2 * 2 ^ i % 256)
theorem out_fact : ∀ a : BitVec 8, outK a 8 = (turnB a).toNat := by decide +kernel
end Go.Proofs.YtfpfgbhdehbggaaGreatDoor
