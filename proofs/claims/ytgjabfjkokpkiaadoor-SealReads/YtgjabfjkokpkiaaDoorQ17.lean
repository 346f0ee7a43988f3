/-
  How the walk spells bits of integers, said of bit vectors. Plain facts, no word of the program. What each function on bytes answers, the program's and the document's: for every byte, in every world, which it leaves as it is. What each function on boxes answers, the program's and the document's: for every byte, in every world, which it leaves as it is.
-/
import Derived.Test.YtgjabfjkokpkiaaDoorQ2
import Derived.WalkKit
import Derived.Laws.BitsAllLaws
import Derived.Laws.Bits64b
import Derived.Test.YtgjabfjkokpkiaaDoorQ16
import Derived.Test.YtgjabfjkokpkiaaDoorChecked
import Derived.WalkSpells
import Derived.WalkLawsBesides
import Derived.LoopTactic
namespace Go.Proofs.YtgjabfjkokpkiaaDoor
set_option maxRecDepth 20000
open Go.RowKit
theorem xor8 (x y : BitVec 8) : bits .xor .u8 (x.toNat : Int) (y.toNat : Int) = ((x ^^^ y).toNat : Int) := by
  rw [u8_xor_nat _ _ x.isLt y.isLt, BitVec.toNat_xor]
theorem xor64 (x y : BitVec 64) : bits .xor .u64 (x.toNat : Int) (y.toNat : Int) = ((x ^^^ y).toNat : Int) := by
  rw [bits_xor_u64_nat _ _ x.isLt y.isLt, BitVec.toNat_xor]
theorem nat_bit (b k : Nat) : (b / 2 ^ k % 2 == 1) = b.testBit k := by
  rw [Nat.testBit_eq_decide_div_mod_eq]
  by_cases h : b / 2 ^ k % 2 = 1 <;> simp [h]
theorem int_div_pow (b k : Nat) : ((b : Int) / 2 ^ k) = ((b / 2 ^ k : Nat) : Int) := by simp
theorem and_bit8 (b : BitVec 8) (k : Nat) : (bits .and .u8 ((b.toNat : Int) / 2 ^ k) 1 == 1) = b.getLsbD k := by
  have h : b.toNat / 2 ^ k < 256 := Nat.lt_of_le_of_lt (Nat.div_le_self _ _) b.isLt
  rw [int_div_pow]
  have e := u8_and_nat (b.toNat / 2 ^ k) 1 h (by decide)
  rw [show ((1 : Nat) : Int) = 1 from rfl] at e
  rw [e, BitVec.getLsbD, ← nat_bit, Nat.and_one_is_mod, Bool.eq_iff_iff]
  simp only [beq_iff_eq]; omega
end Go.Proofs.YtgjabfjkokpkiaaDoor
namespace Go.Proofs.YtgjabfjkokpkiaaDoor
set_option maxRecDepth 20000
open Go.RowKit
theorem dbl_fact : ∀ a : BitVec 8, bits BinOp.xor IntKind.u8 (↑a.toNat * 2 % 256) (↑a.toNat / 128 * 27) = ↑(dX 27#8 a).toNat := by decide +kernel
theorem dbl_any (a : BitVec 8) (w : World) :
    Calls Tryd.prog 105 #[.int .u8 (a.toNat : Int)] w fun e w' => e = .returned (.int .u8 ((dX 27#8 a).toNat:Int)) ∧ w' = w := by
  have ha := a.isLt
  go_enter Tryd.func105, Tryd.ntmps105
  go_wp2
  go_ret
  exact ⟨ret_int (dbl_fact a), rfl⟩
def mB (a b : BitVec 8) : BitVec 8 := tK 27#8 a b 8
theorem mul_any (a b : BitVec 8) (w : World) :
    Calls Tryd.prog 100 #[.int .u8 (a.toNat : Int), .int .u8 (b.toNat : Int)] w fun e w' => e = .returned (.int .u8 ((mB a b).toNat:Int)) ∧ w' = w := by
  have hb := b.isLt
  go_enter Tryd.func100, Tryd.ntmps100
  go_wp2
  go_loop [0, 5, 7] (fun a' s i => ∃ k : Nat, k ≤ 8 ∧ i = .int .i64 k ∧ a' = .int .u8 (dK 27#8 k a).toNat ∧ s = .int .u8 (tK 27#8 a b k).toNat) (fun _ _ i => 8 - (intOf i).toNat)
  case atStart => exact ⟨0, Nat.zero_le _, rfl, rfl, rfl⟩
  case round =>
    obtain ⟨k, hk, rfl, rfl, rfl⟩ := hrel
    have ha := (dK 27#8 k a).isLt
    have hs := (tK 27#8 a b k).isLt
    by_cases hlt : k < 8
    · rcases hbit : b.getLsbD k with _ | _
      all_goals
        have hbt := and_bit8 b k
        rw [hbit] at hbt
        go_wp2_with (go_at_call 105; refine (dbl_any _ _).mono ?_; rintro e w' ⟨rfl, rfl⟩)
        go_round
        case rel => exact ⟨k + 1, by omega, by go_num, rfl, by simp only [tK, hbit, xor8]; simp⟩
        case measure => simp [intOf]; omega
    · obtain rfl : k = 8 := by omega
      go_wp2
      go_ret
      exact ⟨rfl, rfl⟩
def sqK (a : BitVec 8) : Nat → BitVec 8
  | 0 => a
  | k + 1 => mB (sqK a k) (sqK a k)
def ivK (a : BitVec 8) : Nat → BitVec 8
  | 0 => 1
  | k + 1 => mB (ivK a k) (sqK a (k + 1))
def iB (a : BitVec 8) : BitVec 8 := ivK a 7
theorem inv_any (a : BitVec 8) (w : World) :
    Calls Tryd.prog 103 #[.int .u8 (a.toNat : Int)] w fun e w' => e = .returned (.int .u8 ((iB a).toNat:Int)) ∧ w' = w := by
  go_enter Tryd.func103, Tryd.ntmps103
  go_wp2
  go_loop [0, 3, 4] (fun a' s i => ∃ k : Nat, k ≤ 7 ∧ i = .int .i64 k ∧ a' = .int .u8 (sqK a k).toNat ∧ s = .int .u8 (ivK a k).toNat) (fun _ _ i => 7 - (intOf i).toNat)
  case atStart => exact ⟨0, Nat.zero_le _, rfl, rfl, rfl⟩
  case round =>
    obtain ⟨k, hk, rfl, rfl, rfl⟩ := hrel
    by_cases hlt : k < 7
    · go_wp2_with (go_at_call 100; refine (mul_any _ _ _).mono ?_; rintro e w' ⟨rfl, rfl⟩)
      go_round
      case rel => exact ⟨k + 1, by omega, by go_num, rfl, rfl⟩
      case measure => simp [intOf]; omega
    · obtain rfl : k = 7 := by omega
      go_wp2
      go_ret
      exact ⟨rfl, rfl⟩
end Go.Proofs.YtgjabfjkokpkiaaDoor
namespace Go.Proofs.YtgjabfjkokpkiaaDoor
set_option maxRecDepth 20000
open Go.RowKit
def rotB (a : BitVec 8) (n : Nat) : BitVec 8 := a.rotateLeft n
theorem rot1 : ∀ a : BitVec 8, bits BinOp.or IntKind.u8 (↑a.toNat * 2 % 256) (↑a.toNat / 128) = ↑(rotB a 1).toNat := by decide +kernel
theorem rot2 : ∀ a : BitVec 8, bits BinOp.or IntKind.u8 (↑a.toNat * 4 % 256) (↑a.toNat / 64) = ↑(rotB a 2).toNat := by decide +kernel
theorem rot3 : ∀ a : BitVec 8, bits BinOp.or IntKind.u8 (↑a.toNat * 8 % 256) (↑a.toNat / 32) = ↑(rotB a 3).toNat := by decide +kernel
theorem rot4 : ∀ a : BitVec 8, bits BinOp.or IntKind.u8 (↑a.toNat * 16 % 256) (↑a.toNat / 16) = ↑(rotB a 4).toNat := by decide +kernel
theorem rot6 : ∀ a : BitVec 8, bits BinOp.or IntKind.u8 (↑a.toNat * 64 % 256) (↑a.toNat / 4) = ↑(rotB a 6).toNat := by decide +kernel
theorem rot_anyA (a : BitVec 8) (n : Int) (hn : n = 1 ∨ n = 2 ∨ n = 3 ∨ n = 4 ∨ n = 6) (w : World) :
    Calls Tryd.prog 107 #[.int .u8 (a.toNat : Int), .int .i64 n] w fun e w' => e = .returned (.int .u8 ((rotB a n.toNat).toNat:Int)) ∧ w' = w := by
  have ha := a.isLt
  have e1 : bits BinOp.and IntKind.u64 1 7 = 1 := by decide +kernel
  have e2 : bits BinOp.and IntKind.u64 2 7 = 2 := by decide +kernel
  have e3 : bits BinOp.and IntKind.u64 3 7 = 3 := by decide +kernel
  have e4 : bits BinOp.and IntKind.u64 4 7 = 4 := by decide +kernel
  have e6 : bits BinOp.and IntKind.u64 6 7 = 6 := by decide +kernel
  rcases hn with rfl | rfl | rfl | rfl | rfl
  all_goals
    go_enter Tryd.func107, Tryd.ntmps107
    go_wp2
    go_ret
    exact ⟨ret_int (by first | exact rot1 a | exact rot2 a | exact rot3 a | exact rot4 a | exact rot6 a), rfl⟩
theorem turn_anyA (a : BitVec 8) (n : Int) (hn : n = 1 ∨ n = 2 ∨ n = 3 ∨ n = 4 ∨ n = 6) (w : World) :
    Calls Tryd.prog 104 #[.int .u8 (a.toNat : Int), .int .i64 n] w fun e w' => e = .returned (.int .u8 ((rotB a n.toNat).toNat:Int)) ∧ w' = w := by
  go_enter Tryd.func104, Tryd.ntmps104
  go_wp2_with (go_at_call 107; refine (rot_anyA _ _ hn _).mono ?_; rintro e w' ⟨rfl, rfl⟩)
  go_ret
  exact ⟨rfl, rfl⟩
def turnB (b : BitVec 8) : BitVec 8 := b ^^^ rotB b 1 ^^^ rotB b 2 ^^^ rotB b 3 ^^^ rotB b 4 ^^^ 99#8
def unturnB (b : BitVec 8) : BitVec 8 := rotB b 1 ^^^ rotB b 3 ^^^ rotB b 6 ^^^ 5#8
def boxB (a : BitVec 8) : BitVec 8 := turnB (iB a)
def unboxB (a : BitVec 8) : BitVec 8 := iB (unturnB a)
theorem xor8_lit (x : BitVec 8) (n : Nat) (hn : n < 256) : bits .xor .u8 (x.toNat : Int) (n : Int) = ((x ^^^ BitVec.ofNat 8 n).toNat : Int) := by
  rw [u8_xor_nat _ _ x.isLt hn, BitVec.toNat_xor, BitVec.toNat_ofNat, Nat.mod_eq_of_lt hn]
theorem box_any (a : BitVec 8) (w : World) :
    Calls Tryd.prog 99 #[.int .u8 (a.toNat : Int)] w fun e w' => e = .returned (.int .u8 ((boxB a).toNat:Int)) ∧ w' = w := by
  go_enter Tryd.func99, Tryd.ntmps99
  go_wp2_with (first | (go_at_call 103; refine (inv_any _ _).mono ?_; rintro e w' ⟨rfl, rfl⟩) | (go_at_call 104; refine (turn_anyA _ _ (by omega) _).mono ?_; rintro e w' ⟨rfl, rfl⟩))
  go_ret
  refine ⟨ret_int ?_, rfl⟩
  rw [xor8, xor8, xor8, xor8]
  exact xor8_lit _ 99 (by decide)
end Go.Proofs.YtgjabfjkokpkiaaDoor
