/-
  Words of 32 bits and bytes, as the walk spells them; what the functions that turn words answer. The digest's steps on words, as plain functions; how the walk spells them.
-/
import Derived.Test.YtedgopionpdfeaaDoorChecked
import Derived.WalkSpells
import Derived.WalkLawsBesides
import Derived.LoopTactic
import Derived.Laws.BitsAllLaws
import Derived.Laws.Bits64b
import Derived.Test.YtedgopionpdfeaaDoorQ2
namespace Go.Proofs.YtedgopionpdfeaaDoor
open Go.RowKit Go.BigFrame
def wv (f : Nat → BitVec 32) : Nat → Value := fun j => .int .u32 ((f j).toNat : Int)
def yv (f : Nat → BitVec 8) : Nat → Value := fun j => .int .u8 ((f j).toNat : Int)
/-- a word turned to the right -/
def rR (n : Nat) (a : BitVec 32) : BitVec 32 := a >>> n ||| a <<< (32 - n)
theorem below_drewN (w : World) : ∀ n, Below w.heap.size w (w.drewN n)
  | 0 => Below.refl _ _
  | n + 1 => (below_drewN w n).drew
theorem rot_nat (a : BitVec 32) (n : Nat) : bits .or .u32 (((a.toNat * 2 ^ (32 - n) % 4294967296 : Nat)) : Int) ((a.toNat / 2 ^ n : Nat) : Int) = ((rR n a).toNat : Int) := by
  have h1 : a.toNat / 2 ^ n < 4294967296 := Nat.lt_of_le_of_lt (Nat.div_le_self _ _) a.isLt
  rw [u32_or_nat _ _ (Nat.mod_lt _ (by decide)) h1]
  unfold rR
  rw [BitVec.toNat_or, BitVec.toNat_ushiftRight, BitVec.toNat_shiftLeft, Nat.shiftLeft_eq, Nat.shiftRight_eq_div_pow, Nat.or_comm]
theorem rot_nat' (a : BitVec 32) (n : Nat) : bits .or .u32 ((a.toNat / 2 ^ n : Nat) : Int) (((a.toNat * 2 ^ (32 - n) % 4294967296 : Nat)) : Int) = ((rR n a).toNat : Int) := by
  have h1 : a.toNat / 2 ^ n < 4294967296 := Nat.lt_of_le_of_lt (Nat.div_le_self _ _) a.isLt
  rw [u32_or_nat _ _ h1 (Nat.mod_lt _ (by decide))]
  unfold rR
  rw [BitVec.toNat_or, BitVec.toNat_ushiftRight, BitVec.toNat_shiftLeft, Nat.shiftLeft_eq, Nat.shiftRight_eq_div_pow]
set_option maxHeartbeats 1000000 in
theorem rot_any (a : BitVec 32) (n : Nat) (hn : n = 2 ∨ n = 6 ∨ n = 7 ∨ n = 11 ∨ n = 13 ∨ n = 17 ∨ n = 18 ∨ n = 19 ∨ n = 22 ∨ n = 25) (w : World) :
    Calls Tryd.prog 84 #[.int .u32 (a.toNat : Int), .int .i64 (-(n : Int))] w fun e w' => e = .returned (.int .u32 ((rR n a).toNat:Int)) ∧ w' = w := by
  have ha := a.isLt
  have e2 : bits BinOp.and IntKind.u64 (IntKind.u64.wrap (-2)) 31 = 30 := by decide +kernel
  have e6 : bits BinOp.and IntKind.u64 (IntKind.u64.wrap (-6)) 31 = 26 := by decide +kernel
  have e7 : bits BinOp.and IntKind.u64 (IntKind.u64.wrap (-7)) 31 = 25 := by decide +kernel
  have e11 : bits BinOp.and IntKind.u64 (IntKind.u64.wrap (-11)) 31 = 21 := by decide +kernel
  have e13 : bits BinOp.and IntKind.u64 (IntKind.u64.wrap (-13)) 31 = 19 := by decide +kernel
  have e17 : bits BinOp.and IntKind.u64 (IntKind.u64.wrap (-17)) 31 = 15 := by decide +kernel
  have e18 : bits BinOp.and IntKind.u64 (IntKind.u64.wrap (-18)) 31 = 14 := by decide +kernel
  have e19 : bits BinOp.and IntKind.u64 (IntKind.u64.wrap (-19)) 31 = 13 := by decide +kernel
  have e22 : bits BinOp.and IntKind.u64 (IntKind.u64.wrap (-22)) 31 = 10 := by decide +kernel
  have e25 : bits BinOp.and IntKind.u64 (IntKind.u64.wrap (-25)) 31 = 7 := by decide +kernel
  have r2 : bits .or .u32 ((a.toNat : Int) * 1073741824 % 4294967296) ((a.toNat : Int) / 4) = ((rR 2 a).toNat : Int) := rot_nat a 2
  have r6 : bits .or .u32 ((a.toNat : Int) * 67108864 % 4294967296) ((a.toNat : Int) / 64) = ((rR 6 a).toNat : Int) := rot_nat a 6
  have r7 : bits .or .u32 ((a.toNat : Int) * 33554432 % 4294967296) ((a.toNat : Int) / 128) = ((rR 7 a).toNat : Int) := rot_nat a 7
  have r11 : bits .or .u32 ((a.toNat : Int) * 2097152 % 4294967296) ((a.toNat : Int) / 2048) = ((rR 11 a).toNat : Int) := rot_nat a 11
  have r13 : bits .or .u32 ((a.toNat : Int) * 524288 % 4294967296) ((a.toNat : Int) / 8192) = ((rR 13 a).toNat : Int) := rot_nat a 13
  have r17 : bits .or .u32 ((a.toNat : Int) * 32768 % 4294967296) ((a.toNat : Int) / 131072) = ((rR 17 a).toNat : Int) := rot_nat a 17
  have r18 : bits .or .u32 ((a.toNat : Int) * 16384 % 4294967296) ((a.toNat : Int) / 262144) = ((rR 18 a).toNat : Int) := rot_nat a 18
  have r19 : bits .or .u32 ((a.toNat : Int) * 8192 % 4294967296) ((a.toNat : Int) / 524288) = ((rR 19 a).toNat : Int) := rot_nat a 19
  have r22 : bits .or .u32 ((a.toNat : Int) * 1024 % 4294967296) ((a.toNat : Int) / 4194304) = ((rR 22 a).toNat : Int) := rot_nat a 22
  have r25 : bits .or .u32 ((a.toNat : Int) * 128 % 4294967296) ((a.toNat : Int) / 33554432) = ((rR 25 a).toNat : Int) := rot_nat a 25
  replace r2 := hideit r2
  replace r6 := hideit r6
  replace r7 := hideit r7
  replace r11 := hideit r11
  replace r13 := hideit r13
  replace r17 := hideit r17
  replace r18 := hideit r18
  replace r19 := hideit r19
  replace r22 := hideit r22
  replace r25 := hideit r25
  rcases hn with rfl | rfl | rfl | rfl | rfl | rfl | rfl | rfl | rfl | rfl
  · go_enter Tryd.func84, Tryd.ntmps84
    go_wp2
    go_ret
    exact ⟨ret_int r2.out, rfl⟩
  · go_enter Tryd.func84, Tryd.ntmps84
    go_wp2
    go_ret
    exact ⟨ret_int r6.out, rfl⟩
  · go_enter Tryd.func84, Tryd.ntmps84
    go_wp2
    go_ret
    exact ⟨ret_int r7.out, rfl⟩
  · go_enter Tryd.func84, Tryd.ntmps84
    go_wp2
    go_ret
    exact ⟨ret_int r11.out, rfl⟩
  · go_enter Tryd.func84, Tryd.ntmps84
    go_wp2
    go_ret
    exact ⟨ret_int r13.out, rfl⟩
  · go_enter Tryd.func84, Tryd.ntmps84
    go_wp2
    go_ret
    exact ⟨ret_int r17.out, rfl⟩
  · go_enter Tryd.func84, Tryd.ntmps84
    go_wp2
    go_ret
    exact ⟨ret_int r18.out, rfl⟩
  · go_enter Tryd.func84, Tryd.ntmps84
    go_wp2
    go_ret
    exact ⟨ret_int r19.out, rfl⟩
  · go_enter Tryd.func84, Tryd.ntmps84
    go_wp2
    go_ret
    exact ⟨ret_int r22.out, rfl⟩
  · go_enter Tryd.func84, Tryd.ntmps84
    go_wp2
    go_ret
    exact ⟨ret_int r25.out, rfl⟩
set_option maxHeartbeats 1000000 in
theorem right_any (a : BitVec 32) (n : Nat) (hn : n = 2 ∨ n = 6 ∨ n = 7 ∨ n = 11 ∨ n = 13 ∨ n = 17 ∨ n = 18 ∨ n = 19 ∨ n = 22 ∨ n = 25) (w : World) :
    Calls Tryd.prog 83 #[.int .i64 (n : Int), .int .u32 (a.toNat : Int)] w fun e w' => e = .returned (.int .u32 ((rR n a).toNat:Int)) ∧ w' = w := by
  have n0 : (0 : Int) ≤ (n : Int) := by omega
  have n1 : (n : Int) ≤ 25 := by omega
  go_enter Tryd.func83, Tryd.ntmps83
  go_wp2_with (go_at_call 84; refine (rot_any a n hn _).mono ?_; rintro e w' ⟨rfl, rfl⟩)
  go_ret
  exact ⟨rfl, rfl⟩
set_option maxHeartbeats 1000000 in
theorem turn_any (a : BitVec 32) (n : Nat) (hn : n = 2 ∨ n = 6 ∨ n = 7 ∨ n = 11 ∨ n = 13 ∨ n = 17 ∨ n = 18 ∨ n = 19 ∨ n = 22 ∨ n = 25) (w : World) :
    Calls Tryd.prog 80 #[.int .i64 (n : Int), .int .u32 (a.toNat : Int)] w fun e w' => e = .returned (.int .u32 ((rR n a).toNat:Int)) ∧ Below w.heap.size w w' := by
  have ha := a.isLt
  have r2 : bits .or .u32 ((a.toNat : Int) / 4) ((a.toNat : Int) * 1073741824 % 4294967296) = ((rR 2 a).toNat : Int) := rot_nat' a 2
  have r6 : bits .or .u32 ((a.toNat : Int) / 64) ((a.toNat : Int) * 67108864 % 4294967296) = ((rR 6 a).toNat : Int) := rot_nat' a 6
  have r7 : bits .or .u32 ((a.toNat : Int) / 128) ((a.toNat : Int) * 33554432 % 4294967296) = ((rR 7 a).toNat : Int) := rot_nat' a 7
  have r11 : bits .or .u32 ((a.toNat : Int) / 2048) ((a.toNat : Int) * 2097152 % 4294967296) = ((rR 11 a).toNat : Int) := rot_nat' a 11
  have r13 : bits .or .u32 ((a.toNat : Int) / 8192) ((a.toNat : Int) * 524288 % 4294967296) = ((rR 13 a).toNat : Int) := rot_nat' a 13
  have r17 : bits .or .u32 ((a.toNat : Int) / 131072) ((a.toNat : Int) * 32768 % 4294967296) = ((rR 17 a).toNat : Int) := rot_nat' a 17
  have r18 : bits .or .u32 ((a.toNat : Int) / 262144) ((a.toNat : Int) * 16384 % 4294967296) = ((rR 18 a).toNat : Int) := rot_nat' a 18
  have r19 : bits .or .u32 ((a.toNat : Int) / 524288) ((a.toNat : Int) * 8192 % 4294967296) = ((rR 19 a).toNat : Int) := rot_nat' a 19
  have r22 : bits .or .u32 ((a.toNat : Int) / 4194304) ((a.toNat : Int) * 1024 % 4294967296) = ((rR 22 a).toNat : Int) := rot_nat' a 22
  have r25 : bits .or .u32 ((a.toNat : Int) / 33554432) ((a.toNat : Int) * 128 % 4294967296) = ((rR 25 a).toNat : Int) := rot_nat' a 25
  replace r2 := hideit r2
  replace r6 := hideit r6
  replace r7 := hideit r7
  replace r11 := hideit r11
  replace r13 := hideit r13
  replace r17 := hideit r17
  replace r18 := hideit r18
  replace r19 := hideit r19
  replace r22 := hideit r22
  replace r25 := hideit r25
  rcases hn with rfl | rfl | rfl | rfl | rfl | rfl | rfl | rfl | rfl | rfl
  · go_enter Tryd.func80, Tryd.ntmps80
    go_wp2
    go_quiet (fail)
    go_wp2
    go_ret
    exact ⟨ret_int r2.out, below_drewN _ _⟩
  · go_enter Tryd.func80, Tryd.ntmps80
    go_wp2
    go_quiet (fail)
    go_wp2
    go_ret
    exact ⟨ret_int r6.out, below_drewN _ _⟩
  · go_enter Tryd.func80, Tryd.ntmps80
    go_wp2
    go_quiet (fail)
    go_wp2
    go_ret
    exact ⟨ret_int r7.out, below_drewN _ _⟩
  · go_enter Tryd.func80, Tryd.ntmps80
    go_wp2
    go_quiet (fail)
    go_wp2
    go_ret
    exact ⟨ret_int r11.out, below_drewN _ _⟩
  · go_enter Tryd.func80, Tryd.ntmps80
    go_wp2
    go_quiet (fail)
    go_wp2
    go_ret
    exact ⟨ret_int r13.out, below_drewN _ _⟩
  · go_enter Tryd.func80, Tryd.ntmps80
    go_wp2
    go_quiet (fail)
    go_wp2
    go_ret
    exact ⟨ret_int r17.out, below_drewN _ _⟩
  · go_enter Tryd.func80, Tryd.ntmps80
    go_wp2
    go_quiet (fail)
    go_wp2
    go_ret
    exact ⟨ret_int r18.out, below_drewN _ _⟩
  · go_enter Tryd.func80, Tryd.ntmps80
    go_wp2
    go_quiet (fail)
    go_wp2
    go_ret
    exact ⟨ret_int r19.out, below_drewN _ _⟩
  · go_enter Tryd.func80, Tryd.ntmps80
    go_wp2
    go_quiet (fail)
    go_wp2
    go_ret
    exact ⟨ret_int r22.out, below_drewN _ _⟩
  · go_enter Tryd.func80, Tryd.ntmps80
    go_wp2
    go_quiet (fail)
    go_wp2
    go_ret
    exact ⟨ret_int r25.out, below_drewN _ _⟩
theorem right2 (a : BitVec 32) (w : World) : Calls Tryd.prog 83 #[.int .i64 2, .int .u32 (a.toNat : Int)] w fun e w' => e = .returned (.int .u32 ((rR 2 a).toNat:Int)) ∧ w' = w := right_any a 2 (by omega) w
theorem turn2 (a : BitVec 32) (w : World) : Calls Tryd.prog 80 #[.int .i64 2, .int .u32 (a.toNat : Int)] w fun e w' => e = .returned (.int .u32 ((rR 2 a).toNat:Int)) ∧ Below w.heap.size w w' := turn_any a 2 (by omega) w
theorem right6 (a : BitVec 32) (w : World) : Calls Tryd.prog 83 #[.int .i64 6, .int .u32 (a.toNat : Int)] w fun e w' => e = .returned (.int .u32 ((rR 6 a).toNat:Int)) ∧ w' = w := right_any a 6 (by omega) w
theorem turn6 (a : BitVec 32) (w : World) : Calls Tryd.prog 80 #[.int .i64 6, .int .u32 (a.toNat : Int)] w fun e w' => e = .returned (.int .u32 ((rR 6 a).toNat:Int)) ∧ Below w.heap.size w w' := turn_any a 6 (by omega) w
theorem right7 (a : BitVec 32) (w : World) : Calls Tryd.prog 83 #[.int .i64 7, .int .u32 (a.toNat : Int)] w fun e w' => e = .returned (.int .u32 ((rR 7 a).toNat:Int)) ∧ w' = w := right_any a 7 (by omega) w
theorem turn7 (a : BitVec 32) (w : World) : Calls Tryd.prog 80 #[.int .i64 7, .int .u32 (a.toNat : Int)] w fun e w' => e = .returned (.int .u32 ((rR 7 a).toNat:Int)) ∧ Below w.heap.size w w' := turn_any a 7 (by omega) w
theorem right11 (a : BitVec 32) (w : World) : Calls Tryd.prog 83 #[.int .i64 11, .int .u32 (a.toNat : Int)] w fun e w' => e = .returned (.int .u32 ((rR 11 a).toNat:Int)) ∧ w' = w := right_any a 11 (by omega) w
theorem turn11 (a : BitVec 32) (w : World) : Calls Tryd.prog 80 #[.int .i64 11, .int .u32 (a.toNat : Int)] w fun e w' => e = .returned (.int .u32 ((rR 11 a).toNat:Int)) ∧ Below w.heap.size w w' := turn_any a 11 (by omega) w
theorem right13 (a : BitVec 32) (w : World) : Calls Tryd.prog 83 #[.int .i64 13, .int .u32 (a.toNat : Int)] w fun e w' => e = .returned (.int .u32 ((rR 13 a).toNat:Int)) ∧ w' = w := right_any a 13 (by omega) w
theorem turn13 (a : BitVec 32) (w : World) : Calls Tryd.prog 80 #[.int .i64 13, .int .u32 (a.toNat : Int)] w fun e w' => e = .returned (.int .u32 ((rR 13 a).toNat:Int)) ∧ Below w.heap.size w w' := turn_any a 13 (by omega) w
theorem right17 (a : BitVec 32) (w : World) : Calls Tryd.prog 83 #[.int .i64 17, .int .u32 (a.toNat : Int)] w fun e w' => e = .returned (.int .u32 ((rR 17 a).toNat:Int)) ∧ w' = w := right_any a 17 (by omega) w
theorem turn17 (a : BitVec 32) (w : World) : Calls Tryd.prog 80 #[.int .i64 17, .int .u32 (a.toNat : Int)] w fun e w' => e = .returned (.int .u32 ((rR 17 a).toNat:Int)) ∧ Below w.heap.size w w' := turn_any a 17 (by omega) w
theorem right18 (a : BitVec 32) (w : World) : Calls Tryd.prog 83 #[.int .i64 18, .int .u32 (a.toNat : Int)] w fun e w' => e = .returned (.int .u32 ((rR 18 a).toNat:Int)) ∧ w' = w := right_any a 18 (by omega) w
theorem turn18 (a : BitVec 32) (w : World) : Calls Tryd.prog 80 #[.int .i64 18, .int .u32 (a.toNat : Int)] w fun e w' => e = .returned (.int .u32 ((rR 18 a).toNat:Int)) ∧ Below w.heap.size w w' := turn_any a 18 (by omega) w
theorem right19 (a : BitVec 32) (w : World) : Calls Tryd.prog 83 #[.int .i64 19, .int .u32 (a.toNat : Int)] w fun e w' => e = .returned (.int .u32 ((rR 19 a).toNat:Int)) ∧ w' = w := right_any a 19 (by omega) w
theorem turn19 (a : BitVec 32) (w : World) : Calls Tryd.prog 80 #[.int .i64 19, .int .u32 (a.toNat : Int)] w fun e w' => e = .returned (.int .u32 ((rR 19 a).toNat:Int)) ∧ Below w.heap.size w w' := turn_any a 19 (by omega) w
theorem right22 (a : BitVec 32) (w : World) : Calls Tryd.prog 83 #[.int .i64 22, .int .u32 (a.toNat : Int)] w fun e w' => e = .returned (.int .u32 ((rR 22 a).toNat:Int)) ∧ w' = w := right_any a 22 (by omega) w
theorem turn22 (a : BitVec 32) (w : World) : Calls Tryd.prog 80 #[.int .i64 22, .int .u32 (a.toNat : Int)] w fun e w' => e = .returned (.int .u32 ((rR 22 a).toNat:Int)) ∧ Below w.heap.size w w' := turn_any a 22 (by omega) w
theorem right25 (a : BitVec 32) (w : World) : Calls Tryd.prog 83 #[.int .i64 25, .int .u32 (a.toNat : Int)] w fun e w' => e = .returned (.int .u32 ((rR 25 a).toNat:Int)) ∧ w' = w := right_any a 25 (by omega) w
theorem turn25 (a : BitVec 32) (w : World) : Calls Tryd.prog 80 #[.int .i64 25, .int .u32 (a.toNat : Int)] w fun e w' => e = .returned (.int .u32 ((rR 25 a).toNat:Int)) ∧ Below w.heap.size w w' := turn_any a 25 (by omega) w
end Go.Proofs.YtedgopionpdfeaaDoor
namespace Go.Proofs.YtedgopionpdfeaaDoor
open Go.RowKit Go.BigFrame
def xW (a b : BitVec 32) : BitVec 32 := a ^^^ b
def aW (a b : BitVec 32) : BitVec 32 := a &&& b
def oW (a b : BitVec 32) : BitVec 32 := a ||| b
def nW (a : BitVec 32) : BitVec 32 := ~~~a
def sW (a b : BitVec 32) : BitVec 32 := a + b
def hR (n : Nat) (a : BitVec 32) : BitVec 32 := a >>> n
theorem xW_fact (a b : BitVec 32) : bits .xor .u32 (a.toNat : Int) (b.toNat : Int) = ((xW a b).toNat : Int) := by
  unfold xW; rw [u32_xor_nat _ _ a.isLt b.isLt, BitVec.toNat_xor]
theorem aW_fact (a b : BitVec 32) : bits .and .u32 (a.toNat : Int) (b.toNat : Int) = ((aW a b).toNat : Int) := by
  unfold aW; rw [u32_and_nat _ _ a.isLt b.isLt, BitVec.toNat_and]
theorem oW_fact (a b : BitVec 32) : bits .or .u32 (a.toNat : Int) (b.toNat : Int) = ((oW a b).toNat : Int) := by
  unfold oW; rw [u32_or_nat _ _ a.isLt b.isLt, BitVec.toNat_or]
theorem nW_fact (a : BitVec 32) : bits .xor .u32 (if IntKind.u32.signed = true then -1 else IntKind.u32.max) (a.toNat : Int) = ((nW a).toNat : Int) := by
  have h1 : (if IntKind.u32.signed = true then (-1 : Int) else IntKind.u32.max) = ((4294967295 : Nat) : Int) := by decide
  rw [h1, u32_xor_nat _ _ (by decide) a.isLt]
  unfold nW
  have h2 : (4294967295 : Nat) = (BitVec.allOnes 32).toNat := by decide
  rw [h2, ← BitVec.toNat_xor, BitVec.allOnes_xor]
theorem sW_fact (a b : BitVec 32) : ((a.toNat : Int) + (b.toNat : Int)) % 4294967296 = ((sW a b).toNat : Int) := by
  unfold sW; rw [BitVec.toNat_add]; omega
theorem sW_fact' (a b : BitVec 32) : IntKind.u32.wrap ((a.toNat : Int) + (b.toNat : Int)) = ((sW a b).toNat : Int) := by
  rw [IntKind.wrap_u32']; exact sW_fact a b
theorem hR_fact (a : BitVec 32) (n : Nat) : ((a.toNat : Int) / ((2 ^ n : Nat) : Int)) = ((hR n a).toNat : Int) := by
  unfold hR; rw [BitVec.toNat_ushiftRight, Nat.shiftRight_eq_div_pow]; rfl
theorem hR3 (a : BitVec 32) : (a.toNat : Int) / 8 = ((hR 3 a).toNat : Int) := hR_fact a 3
theorem hR10 (a : BitVec 32) : (a.toNat : Int) / 1024 = ((hR 10 a).toNat : Int) := hR_fact a 10
/-- a byte behind a word -/
def pW (a : BitVec 32) (b : BitVec 8) : BitVec 32 := a <<< 8 ||| b.setWidth 32
theorem pW_fact (a : BitVec 32) (b : BitVec 8) : bits .or .u32 ((a.toNat : Int) * 256 % 4294967296) (b.toNat : Int) = ((pW a b).toNat : Int) := by
  have h1 : ((a.toNat : Int) * 256 % 4294967296) = ((a.toNat * 256 % 4294967296 : Nat) : Int) := by omega
  have hb := b.isLt
  rw [h1, u32_or_nat _ _ (Nat.mod_lt _ (by decide)) (by omega)]
  unfold pW
  rw [BitVec.toNat_or, BitVec.toNat_shiftLeft, BitVec.toNat_setWidth, Nat.shiftLeft_eq, Nat.mod_eq_of_lt (show b.toNat < 2 ^ 32 by omega)]
/-- so many bytes as a word, the highest first -/
def beK (p : Nat → BitVec 8) : Nat → BitVec 32
  | 0 => 0#32
  | m + 1 => pW (beK p m) (p m)
def w0 (p : Nat → BitVec 8) (t : Nat) : BitVec 32 := beK (fun j => p (4 * t + j)) 4
def nearW (x : BitVec 32) : BitVec 32 := xW (xW (rR 7 x) (rR 18 x)) (hR 3 x)
def farW (y : BitVec 32) : BitVec 32 := xW (xW (rR 17 y) (rR 19 y)) (hR 10 y)
def nextW (W : Nat → BitVec 32) (t : Nat) : BitVec 32 := sW (sW (sW (W (t - 16)) (nearW (W (t - 15)))) (W (t - 7))) (farW (W (t - 2)))
def wK (p : Nat → BitVec 8) : Nat → Nat → BitVec 32
  | 0, j => if j < 16 then w0 p j else 0#32
  | m + 1, j => if j = 16 + m then nextW (wK p m) (16 + m) else wK p m j
def wordsW (p : Nat → BitVec 8) : Nat → BitVec 32 := wK p 48
def kL : List Nat := [1116352408, 1899447441, 3049323471, 3921009573, 961987163, 1508970993, 2453635748, 2870763221, 3624381080, 310598401, 607225278, 1426881987, 1925078388, 2162078206, 2614888103, 3248222580, 3835390401, 4022224774, 264347078, 604807628, 770255983, 1249150122, 1555081692, 1996064986, 2554220882, 2821834349, 2952996808, 3210313671, 3336571891, 3584528711, 113926993, 338241895, 666307205, 773529912, 1294757372, 1396182291, 1695183700, 1986661051, 2177026350, 2456956037, 2730485921, 2820302411, 3259730800, 3345764771, 3516065817, 3600352804, 4094571909, 275423344, 430227734, 506948616, 659060556, 883997877, 958139571, 1322822218, 1537002063, 1747873779, 1955562222, 2024104815, 2227730452, 2361852424, 2428436474, 2756734187, 3204031479, 3329325298]
def kT (j : Nat) : BitVec 32 := BitVec.ofNat 32 (kL.getD j 0)
def oneW (e f g h k w : BitVec 32) : BitVec 32 := sW (sW (sW (sW h (xW (xW (rR 6 e) (rR 11 e)) (rR 25 e))) (oW (aW e f) (aW (nW e) g))) k) w
def twoW (a b c : BitVec 32) : BitVec 32 := sW (xW (xW (rR 2 a) (rR 13 a)) (rR 22 a)) (oW (oW (aW a b) (aW a c)) (aW b c))
def rnd (k w : BitVec 32) (s : Nat → BitVec 32) : Nat → BitVec 32
  | 0 => sW (oneW (s 4) (s 5) (s 6) (s 7) k w) (twoW (s 0) (s 1) (s 2))
  | 4 => sW (s 3) (oneW (s 4) (s 5) (s 6) (s 7) k w)
  | j + 1 => s j
def rndK (W s : Nat → BitVec 32) : Nat → Nat → BitVec 32
  | 0 => s
  | n + 1 => rnd (kT n) (W n) (rndK W s n)
def blockF (s : Nat → BitVec 32) (p : Nat → BitVec 8) (j : Nat) : BitVec 32 := sW (s j) (rndK (wordsW p) s 64 j)
theorem xor_ch (e f g : BitVec 32) : xW (aW e f) (aW (nW e) g) = oW (aW e f) (aW (nW e) g) := by
  unfold xW aW nW oW
  apply BitVec.eq_of_getLsbD_eq
  intro i hi
  simp only [BitVec.getLsbD_xor, BitVec.getLsbD_and, BitVec.getLsbD_or, BitVec.getLsbD_not, hi]
  cases e.getLsbD i <;> cases f.getLsbD i <;> cases g.getLsbD i <;> rfl
theorem xor_maj (a b c : BitVec 32) : xW (xW (aW a b) (aW a c)) (aW b c) = oW (oW (aW a b) (aW a c)) (aW b c) := by
  unfold xW aW oW
  apply BitVec.eq_of_getLsbD_eq
  intro i hi
  simp only [BitVec.getLsbD_xor, BitVec.getLsbD_and, BitVec.getLsbD_or]
  cases a.getLsbD i <;> cases b.getLsbD i <;> cases c.getLsbD i <;> rfl
theorem sW_comm (a b : BitVec 32) : sW a b = sW b a := BitVec.add_comm a b
theorem zero42 (w : World) : Sem.run Tryd.prog (zeroValue 112) w = .ok (.agg (row 64 (wv fun _ => 0#32)).toArray) w := by kernel_rfl
theorem zero28 (w : World) : Sem.run Tryd.prog (zeroValue 95) w = .ok (.agg (row 8 (wv fun _ => 0#32)).toArray) w := by kernel_rfl
theorem zero29 (w : World) : Sem.run Tryd.prog (zeroValue 97) w = .ok (.agg (row 64 (yv fun _ => 0#8)).toArray) w := by kernel_rfl
theorem zero24 (w : World) : Sem.run Tryd.prog (zeroValue 74) w = .ok (.agg (row 32 (yv fun _ => 0#8)).toArray) w := by kernel_rfl
theorem info42 : (Tryd.prog.info? 112).map (·.size) = some 64 := by kernel_rfl
theorem info28 : (Tryd.prog.info? 95).map (·.size) = some 8 := by kernel_rfl
theorem info29 : (Tryd.prog.info? 97).map (·.size) = some 64 := by kernel_rfl
theorem info24 : (Tryd.prog.info? 74).map (·.size) = some 32 := by kernel_rfl
end Go.Proofs.YtedgopionpdfeaaDoor
