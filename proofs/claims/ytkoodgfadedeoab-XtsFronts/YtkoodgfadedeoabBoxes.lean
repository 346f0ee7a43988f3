/-
  What each function on boxes answers, the program's and the document's: for every byte, in every world, which it leaves as it is.
-/
import Derived.Test.YtkoodgfadedeoabBytes
namespace Go.Proofs.Ytkoodgfadedeoab
open Go.RowKit
/-- turned to the left -/
def rotB (a : BitVec 8) (n : Nat) : BitVec 8 := a.rotateLeft n
theorem rot1 : ∀ a : BitVec 8, bits BinOp.or IntKind.u8 (↑a.toNat * 2 % 256) (↑a.toNat / 128) = ↑(rotB a 1).toNat := by decide +kernel
theorem rot2 : ∀ a : BitVec 8, bits BinOp.or IntKind.u8 (↑a.toNat * 4 % 256) (↑a.toNat / 64) = ↑(rotB a 2).toNat := by decide +kernel
theorem rot3 : ∀ a : BitVec 8, bits BinOp.or IntKind.u8 (↑a.toNat * 8 % 256) (↑a.toNat / 32) = ↑(rotB a 3).toNat := by decide +kernel
theorem rot4 : ∀ a : BitVec 8, bits BinOp.or IntKind.u8 (↑a.toNat * 16 % 256) (↑a.toNat / 16) = ↑(rotB a 4).toNat := by decide +kernel
theorem rot6 : ∀ a : BitVec 8, bits BinOp.or IntKind.u8 (↑a.toNat * 64 % 256) (↑a.toNat / 4) = ↑(rotB a 6).toNat := by decide +kernel
theorem rot_any (a : BitVec 8) (n : Int) (hn : n = 1 ∨ n = 2 ∨ n = 3 ∨ n = 4 ∨ n = 6) (w : World) :
    Calls Try.prog 36 #[.int .u8 (a.toNat : Int), .int .i64 n] w fun e w' => e = .returned (.int .u8 ((rotB a n.toNat).toNat:Int)) ∧ w' = w := by
  have ha := a.isLt
  have e1 : bits BinOp.and IntKind.u64 1 7 = 1 := by decide +kernel
  have e2 : bits BinOp.and IntKind.u64 2 7 = 2 := by decide +kernel
  have e3 : bits BinOp.and IntKind.u64 3 7 = 3 := by decide +kernel
  have e4 : bits BinOp.and IntKind.u64 4 7 = 4 := by decide +kernel
  have e6 : bits BinOp.and IntKind.u64 6 7 = 6 := by decide +kernel
  rcases hn with rfl | rfl | rfl | rfl | rfl
  all_goals
    go_enter Try.func36, Try.ntmps36
    go_wp2
    go_ret
    exact ⟨ret_int (by first | exact rot1 a | exact rot2 a | exact rot3 a | exact rot4 a | exact rot6 a), rfl⟩
theorem turn_any (a : BitVec 8) (n : Int) (hn : n = 1 ∨ n = 2 ∨ n = 3 ∨ n = 4 ∨ n = 6) (w : World) :
    Calls Try.prog 33 #[.int .u8 (a.toNat : Int), .int .i64 n] w fun e w' => e = .returned (.int .u8 ((rotB a n.toNat).toNat:Int)) ∧ w' = w := by
  go_enter Try.func33, Try.ntmps33
  go_wp2_with (go_at_call 36; refine (rot_any _ _ hn _).mono ?_; rintro e w' ⟨rfl, rfl⟩)
  go_ret
  exact ⟨rfl, rfl⟩
def turnB (b : BitVec 8) : BitVec 8 := b ^^^ rotB b 1 ^^^ rotB b 2 ^^^ rotB b 3 ^^^ rotB b 4 ^^^ 99#8
def unturnB (b : BitVec 8) : BitVec 8 := rotB b 1 ^^^ rotB b 3 ^^^ rotB b 6 ^^^ 5#8
def boxB (a : BitVec 8) : BitVec 8 := turnB (iB a)
def unboxB (a : BitVec 8) : BitVec 8 := iB (unturnB a)
theorem xor8_lit (x : BitVec 8) (n : Nat) (hn : n < 256) : bits .xor .u8 (x.toNat : Int) (n : Int) = ((x ^^^ BitVec.ofNat 8 n).toNat : Int) := by
  rw [u8_xor_nat _ _ x.isLt hn, BitVec.toNat_xor, BitVec.toNat_ofNat, Nat.mod_eq_of_lt hn]
theorem box_any (a : BitVec 8) (w : World) :
    Calls Try.prog 29 #[.int .u8 (a.toNat : Int)] w fun e w' => e = .returned (.int .u8 ((boxB a).toNat:Int)) ∧ w' = w := by
  go_enter Try.func29, Try.ntmps29
  go_wp2_with (first | (go_at_call 32; refine (inv_any _ _).mono ?_; rintro e w' ⟨rfl, rfl⟩) | (go_at_call 33; refine (turn_any _ _ (by omega) _).mono ?_; rintro e w' ⟨rfl, rfl⟩))
  go_ret
  refine ⟨ret_int ?_, rfl⟩
  rw [xor8, xor8, xor8, xor8]
  exact xor8_lit _ 99 (by decide)
/-- the document's way to a box: bit by bit -/
def bitK (a : BitVec 8) (i : Nat) : Nat → Int
  | 0 => ((99 : Int) / 2 ^ i).tmod 2
  | 1 => (bitK a i 0 + ((a.toNat : Int) / 2 ^ i).tmod 2) % 256
  | k + 2 => (bitK a i (k + 1) + ((a.toNat : Int) / 2 ^ ((i + 3 + (k + 1)) % 8)).tmod 2) % 256
def outK (a : BitVec 8) : Nat → Int
  | 0 => 0
  | i + 1 => bits BinOp.or IntKind.u8 (outK a i) ((bitK a i 5).tmod 2 * 2 ^ i % 256)
theorem out_fact : ∀ a : BitVec 8, outK a 8 = (turnB a).toNat := by decide +kernel
end Go.Proofs.Ytkoodgfadedeoab
