/-
  Words of 32 bits and bytes, as the walk spells them; what the functions that turn words answer.
-/
import Derived.Test.YtapmheocllicnaaDoorChecked
import Derived.WalkSpells
import Derived.WalkLawsBesides
import Derived.LoopTactic
import Derived.Laws.BitsAllLaws
import Derived.Laws.Bits64b
import Derived.Test.YtapmheocllicnaaDoorMild
namespace Go.Proofs.YtapmheocllicnaaDoor
open Go.RowKit Go.BigFrame
def wv (f : Nat → BitVec 32) : Nat → Value := fun j => .int .u32 ((f j).toNat : Int)
def yv (f : Nat → BitVec 8) : Nat → Value := fun j => .int .u8 ((f j).toNat : Int)
/-- a word turned to the right -/
def rR (n : Nat) (a : BitVec 32) : BitVec 32 := a >>> n ||| a <<< (32 - n)
theorem below_drewN (w : World) : ∀ n, Below w.heap.size w (w.drewN n)
  | 0 => Below.refl _ _
  | n + 1 => (below_drewN w n).drew
theorem rot_nat (a : BitVec 32) (n : Nat) : bits .or .u32 (((a.toNat * 2 ^ (32 - n) % 4294967296 : Nat)) : Int) ((a.toNat / 2 ^ n : Nat) : Int) = ((rR n a).toNat : Int) := by
  have h1 : a.toNat / 2 ^ n < 4294967296 := Nat.lt_of_le_of_lt (Nat.div_le_self _ _) a.isLt
  rw [u32_or_nat _ _ (Nat.mod_lt _ (by decide)) h1]
  unfold rR
  rw [BitVec.toNat_or, BitVec.toNat_ushiftRight, BitVec.toNat_shiftLeft, Nat.shiftLeft_eq, Nat.shiftRight_eq_div_pow, Nat.or_comm]
theorem rot_nat' (a : BitVec 32) (n : Nat) : bits .or .u32 ((a.toNat / 2 ^ n : Nat) : Int) (((a.toNat * 2 ^ (32 - n) % 4294967296 : Nat)) : Int) = ((rR n a).toNat : Int) := by
  have h1 : a.toNat / 2 ^ n < 4294967296 := Nat.lt_of_le_of_lt (Nat.div_le_self _ _) a.isLt
  rw [u32_or_nat _ _ h1 (Nat.mod_lt _ (by decide))]
  unfold rR
  rw [BitVec.toNat_or, BitVec.toNat_ushiftRight, BitVec.toNat_shiftLeft, Nat.shiftLeft_eq, Nat.shiftRight_eq_div_pow]
set_option maxHeartbeats 1000000 in
theorem rot_any (a : BitVec 32) (n : Nat) (hn : n = 2 ∨ n = 6 ∨ n = 7 ∨ n = 11 ∨ n = 13 ∨ n = 17 ∨ n = 18 ∨ n = 19 ∨ n = 22 ∨ n = 25) (w : World) :
    Calls Tryd.prog 54 #[.int .u32 (a.toNat : Int), .int .i64 (-(n : Int))] w fun e w' => e = .returned (.int .u32 ((rR n a).toNat:Int)) ∧ w' = w := by
  have ha := a.isLt
  have e2 : bits BinOp.and IntKind.u64 (IntKind.u64.wrap (-2)) 31 = 30 := by decide +kernel
  have e6 : bits BinOp.and IntKind.u64 (IntKind.u64.wrap (-6)) 31 = 26 := by decide +kernel
  have e7 : bits BinOp.and IntKind.u64 (IntKind.u64.wrap (-7)) 31 = 25 := by decide +kernel
  have e11 : bits BinOp.and IntKind.u64 (IntKind.u64.wrap (-11)) 31 = 21 := by decide +kernel
  have e13 : bits BinOp.and IntKind.u64 (IntKind.u64.wrap (-13)) 31 = 19 := by decide +kernel
  have e17 : bits BinOp.and IntKind.u64 (IntKind.u64.wrap (-17)) 31 = 15 := by decide +kernel
  have e18 : bits BinOp.and IntKind.u64 (IntKind.u64.wrap (-18)) 31 = 14 := by decide +kernel
  have e19 : bits BinOp.and IntKind.u64 (IntKind.u64.wrap (-19)) 31 = 13 := by decide +kernel
  have e22 : bits BinOp.and IntKind.u64 (IntKind.u64.wrap (-22)) 31 = 10 := by decide +kernel
  have e25 : bits BinOp.and IntKind.u64 (IntKind.u64.wrap (-25)) 31 = 7 := by decide +kernel
  have r2 : bits .or .u32 ((a.toNat : Int) * 1073741824 % 4294967296) ((a.toNat : Int) / 4) = ((rR 2 a).toNat : Int) := rot_nat a 2
  have r6 : bits .or .u32 ((a.toNat : Int) * 67108864 % 4294967296) ((a.toNat : Int) / 64) = ((rR 6 a).toNat : Int) := rot_nat a 6
  have r7 : bits .or .u32 ((a.toNat : Int) * 33554432 % 4294967296) ((a.toNat : Int) / 128) = ((rR 7 a).toNat : Int) := rot_nat a 7
  have r11 : bits .or .u32 ((a.toNat : Int) * 2097152 % 4294967296) ((a.toNat : Int) / 2048) = ((rR 11 a).toNat : Int) := rot_nat a 11
  have r13 : bits .or .u32 ((a.toNat : Int) * 524288 % 4294967296) ((a.toNat : Int) / 8192) = ((rR 13 a).toNat : Int) := rot_nat a 13
  have r17 : bits .or .u32 ((a.toNat : Int) * 32768 % 4294967296) ((a.toNat : Int) / 131072) = ((rR 17 a).toNat : Int) := rot_nat a 17
  have r18 : bits .or .u32 ((a.toNat : Int) * 16384 % 4294967296) ((a.toNat : Int) / 262144) = ((rR 18 a).toNat : Int) := rot_nat a 18
  have r19 : bits .or .u32 ((a.toNat : Int) * 8192 % 4294967296) ((a.toNat : Int) / 524288) = ((rR 19 a).toNat : Int) := rot_nat a 19
  have r22 : bits .or .u32 ((a.toNat : Int) * 1024 % 4294967296) ((a.toNat : Int) / 4194304) = ((rR 22 a).toNat : Int) := rot_nat a 22
  have r25 : bits .or .u32 ((a.toNat : Int) * 128 % 4294967296) ((a.toNat : Int) / 33554432) = ((rR 25 a).toNat : Int) := rot_nat a 25
  replace r2 := hideit r2
  replace r6 := hideit r6
  replace r7 := hideit r7
  replace r11 := hideit r11
  replace r13 := hideit r13
  replace r17 := hideit r17
  replace r18 := hideit r18
  replace r19 := hideit r19
  replace r22 := hideit r22
  replace r25 := hideit r25
  rcases hn with rfl | rfl | rfl | rfl | rfl | rfl | rfl | rfl | rfl | rfl
  · go_enter Tryd.func54, Tryd.ntmps54
    go_wp2
    go_ret
    exact ⟨ret_int r2.out, rfl⟩
  · go_enter Tryd.func54, Tryd.ntmps54
    go_wp2
    go_ret
    exact ⟨ret_int r6.out, rfl⟩
  · go_enter Tryd.func54, Tryd.ntmps54
    go_wp2
    go_ret
    exact ⟨ret_int r7.out, rfl⟩
  · go_enter Tryd.func54, Tryd.ntmps54
    go_wp2
    go_ret
    exact ⟨ret_int r11.out, rfl⟩
  · go_enter Tryd.func54, Tryd.ntmps54
    go_wp2
    go_ret
    exact ⟨ret_int r13.out, rfl⟩
  · go_enter Tryd.func54, Tryd.ntmps54
    go_wp2
    go_ret
    exact ⟨ret_int r17.out, rfl⟩
  · go_enter Tryd.func54, Tryd.ntmps54
    go_wp2
    go_ret
    exact ⟨ret_int r18.out, rfl⟩
  · go_enter Tryd.func54, Tryd.ntmps54
    go_wp2
    go_ret
    exact ⟨ret_int r19.out, rfl⟩
  · go_enter Tryd.func54, Tryd.ntmps54
    go_wp2
    go_ret
    exact ⟨ret_int r22.out, rfl⟩
  · go_enter Tryd.func54, Tryd.ntmps54
    go_wp2
    go_ret
    exact ⟨ret_int r25.out, rfl⟩
set_option maxHeartbeats 1000000 in
theorem right_any (a : BitVec 32) (n : Nat) (hn : n = 2 ∨ n = 6 ∨ n = 7 ∨ n = 11 ∨ n = 13 ∨ n = 17 ∨ n = 18 ∨ n = 19 ∨ n = 22 ∨ n = 25) (w : World) :
    Calls Tryd.prog 53 #[.int .i64 (n : Int), .int .u32 (a.toNat : Int)] w fun e w' => e = .returned (.int .u32 ((rR n a).toNat:Int)) ∧ w' = w := by
  have n0 : (0 : Int) ≤ (n : Int) := by omega
  have n1 : (n : Int) ≤ 25 := by omega
  go_enter Tryd.func53, Tryd.ntmps53
  go_wp2_with (go_at_call 54; refine (rot_any a n hn _).mono ?_; rintro e w' ⟨rfl, rfl⟩)
  go_ret
  exact ⟨rfl, rfl⟩
set_option maxHeartbeats 1000000 in
theorem turn_any (a : BitVec 32) (n : Nat) (hn : n = 2 ∨ n = 6 ∨ n = 7 ∨ n = 11 ∨ n = 13 ∨ n = 17 ∨ n = 18 ∨ n = 19 ∨ n = 22 ∨ n = 25) (w : World) :
    Calls Tryd.prog 51 #[.int .i64 (n : Int), .int .u32 (a.toNat : Int)] w fun e w' => e = .returned (.int .u32 ((rR n a).toNat:Int)) ∧ Below w.heap.size w w' := by
  have ha := a.isLt
  have r2 : bits .or .u32 ((a.toNat : Int) / 4) ((a.toNat : Int) * 1073741824 % 4294967296) = ((rR 2 a).toNat : Int) := rot_nat' a 2
  have r6 : bits .or .u32 ((a.toNat : Int) / 64) ((a.toNat : Int) * 67108864 % 4294967296) = ((rR 6 a).toNat : Int) := rot_nat' a 6
  have r7 : bits .or .u32 ((a.toNat : Int) / 128) ((a.toNat : Int) * 33554432 % 4294967296) = ((rR 7 a).toNat : Int) := rot_nat' a 7
  have r11 : bits .or .u32 ((a.toNat : Int) / 2048) ((a.toNat : Int) * 2097152 % 4294967296) = ((rR 11 a).toNat : Int) := rot_nat' a 11
  have r13 : bits .or .u32 ((a.toNat : Int) / 8192) ((a.toNat : Int) * 524288 % 4294967296) = ((rR 13 a).toNat : Int) := rot_nat' a 13
  have r17 : bits .or .u32 ((a.toNat : Int) / 131072) ((a.toNat : Int) * 32768 % 4294967296) = ((rR 17 a).toNat : Int) := rot_nat' a 17
  have r18 : bits .or .u32 ((a.toNat : Int) / 262144) ((a.toNat : Int) * 16384 % 4294967296) = ((rR 18 a).toNat : Int) := rot_nat' a 18
  have r19 : bits .or .u32 ((a.toNat : Int) / 524288) ((a.toNat : Int) * 8192 % 4294967296) = ((rR 19 a).toNat : Int) := rot_nat' a 19
  have r22 : bits .or .u32 ((a.toNat : Int) / 4194304) ((a.toNat : Int) * 1024 % 4294967296) = ((rR 22 a).toNat : Int) := rot_nat' a 22
  have r25 : bits .or .u32 ((a.toNat : Int) / 33554432) ((a.toNat : Int) * 128 % 4294967296) = ((rR 25 a).toNat : Int) := rot_nat' a 25
  replace r2 := hideit r2
  replace r6 := hideit r6
  replace r7 := hideit r7
  replace r11 := hideit r11
  replace r13 := hideit r13
  replace r17 := hideit r17
  replace r18 := hideit r18
  replace r19 := hideit r19
  replace r22 := hideit r22
  replace r25 := hideit r25
  rcases hn with rfl | rfl | rfl | rfl | rfl | rfl | rfl | rfl | rfl | rfl
  · go_enter Tryd.func51, Tryd.ntmps51
    go_wp2
    go_quiet (fail)
    go_wp2
    go_ret
    exact ⟨ret_int r2.out, below_drewN _ _⟩
  · go_enter Tryd.func51, Tryd.ntmps51
    go_wp2
    go_quiet (fail)
    go_wp2
    go_ret
    exact ⟨ret_int r6.out, below_drewN _ _⟩
  · go_enter Tryd.func51, Tryd.ntmps51
    go_wp2
    go_quiet (fail)
    go_wp2
    go_ret
    exact ⟨ret_int r7.out, below_drewN _ _⟩
  · go_enter Tryd.func51, Tryd.ntmps51
    go_wp2
    go_quiet (fail)
    go_wp2
    go_ret
    exact ⟨ret_int r11.out, below_drewN _ _⟩
  · go_enter Tryd.func51, Tryd.ntmps51
    go_wp2
    go_quiet (fail)
    go_wp2
    go_ret
    exact ⟨ret_int r13.out, below_drewN _ _⟩
  · go_enter Tryd.func51, Tryd.ntmps51
    go_wp2
    go_quiet (fail)
    go_wp2
    go_ret
    exact ⟨ret_int r17.out, below_drewN _ _⟩
  · go_enter Tryd.func51, Tryd.ntmps51
    go_wp2
    go_quiet (fail)
    go_wp2
    go_ret
    exact ⟨ret_int r18.out, below_drewN _ _⟩
  · go_enter Tryd.func51, Tryd.ntmps51
    go_wp2
    go_quiet (fail)
    go_wp2
    go_ret
    exact ⟨ret_int r19.out, below_drewN _ _⟩
  · go_enter Tryd.func51, Tryd.ntmps51
    go_wp2
    go_quiet (fail)
    go_wp2
    go_ret
    exact ⟨ret_int r22.out, below_drewN _ _⟩
  · go_enter Tryd.func51, Tryd.ntmps51
    go_wp2
    go_quiet (fail)
    go_wp2
    go_ret
    exact ⟨ret_int r25.out, below_drewN _ _⟩
theorem right2 (a : BitVec 32) (w : World) : Calls Tryd.prog 53 #[.int .i64 2, .int .u32 (a.toNat : Int)] w fun e w' => e = .returned (.int .u32 ((rR 2 a).toNat:Int)) ∧ w' = w := right_any a 2 (by omega) w
theorem turn2 (a : BitVec 32) (w : World) : Calls Tryd.prog 51 #[.int .i64 2, .int .u32 (a.toNat : Int)] w fun e w' => e = .returned (.int .u32 ((rR 2 a).toNat:Int)) ∧ Below w.heap.size w w' := turn_any a 2 (by omega) w
theorem right6 (a : BitVec 32) (w : World) : Calls Tryd.prog 53 #[.int .i64 6, .int .u32 (a.toNat : Int)] w fun e w' => e = .returned (.int .u32 ((rR 6 a).toNat:Int)) ∧ w' = w := right_any a 6 (by omega) w
theorem turn6 (a : BitVec 32) (w : World) : Calls Tryd.prog 51 #[.int .i64 6, .int .u32 (a.toNat : Int)] w fun e w' => e = .returned (.int .u32 ((rR 6 a).toNat:Int)) ∧ Below w.heap.size w w' := turn_any a 6 (by omega) w
theorem right7 (a : BitVec 32) (w : World) : Calls Tryd.prog 53 #[.int .i64 7, .int .u32 (a.toNat : Int)] w fun e w' => e = .returned (.int .u32 ((rR 7 a).toNat:Int)) ∧ w' = w := right_any a 7 (by omega) w
theorem turn7 (a : BitVec 32) (w : World) : Calls Tryd.prog 51 #[.int .i64 7, .int .u32 (a.toNat : Int)] w fun e w' => e = .returned (.int .u32 ((rR 7 a).toNat:Int)) ∧ Below w.heap.size w w' := turn_any a 7 (by omega) w
theorem right11 (a : BitVec 32) (w : World) : Calls Tryd.prog 53 #[.int .i64 11, .int .u32 (a.toNat : Int)] w fun e w' => e = .returned (.int .u32 ((rR 11 a).toNat:Int)) ∧ w' = w := right_any a 11 (by omega) w
theorem turn11 (a : BitVec 32) (w : World) : Calls Tryd.prog 51 #[.int .i64 11, .int .u32 (a.toNat : Int)] w fun e w' => e = .returned (.int .u32 ((rR 11 a).toNat:Int)) ∧ Below w.heap.size w w' := turn_any a 11 (by omega) w
theorem right13 (a : BitVec 32) (w : World) : Calls Tryd.prog 53 #[.int .i64 13, .int .u32 (a.toNat : Int)] w fun e w' => e = .returned (.int .u32 ((rR 13 a).toNat:Int)) ∧ w' = w := right_any a 13 (by omega) w
theorem turn13 (a : BitVec 32) (w : World) : Calls Tryd.prog 51 #[.int .i64 13, .int .u32 (a.toNat : Int)] w fun e w' => e = .returned (.int .u32 ((rR 13 a).toNat:Int)) ∧ Below w.heap.size w w' := turn_any a 13 (by omega) w
theorem right17 (a : BitVec 32) (w : World) : Calls Tryd.prog 53 #[.int .i64 17, .int .u32 (a.toNat : Int)] w fun e w' => e = .returned (.int .u32 ((rR 17 a).toNat:Int)) ∧ w' = w := right_any a 17 (by omega) w
theorem turn17 (a : BitVec 32) (w : World) : Calls Tryd.prog 51 #[.int .i64 17, .int .u32 (a.toNat : Int)] w fun e w' => e = .returned (.int .u32 ((rR 17 a).toNat:Int)) ∧ Below w.heap.size w w' := turn_any a 17 (by omega) w
theorem right18 (a : BitVec 32) (w : World) : Calls Tryd.prog 53 #[.int .i64 18, .int .u32 (a.toNat : Int)] w fun e w' => e = .returned (.int .u32 ((rR 18 a).toNat:Int)) ∧ w' = w := right_any a 18 (by omega) w
theorem turn18 (a : BitVec 32) (w : World) : Calls Tryd.prog 51 #[.int .i64 18, .int .u32 (a.toNat : Int)] w fun e w' => e = .returned (.int .u32 ((rR 18 a).toNat:Int)) ∧ Below w.heap.size w w' := turn_any a 18 (by omega) w
theorem right19 (a : BitVec 32) (w : World) : Calls Tryd.prog 53 #[.int .i64 19, .int .u32 (a.toNat : Int)] w fun e w' => e = .returned (.int .u32 ((rR 19 a).toNat:Int)) ∧ w' = w := right_any a 19 (by omega) w
theorem turn19 (a : BitVec 32) (w : World) : Calls Tryd.prog 51 #[.int .i64 19, .int .u32 (a.toNat : Int)] w fun e w' => e = .returned (.int .u32 ((rR 19 a).toNat:Int)) ∧ Below w.heap.size w w' := turn_any a 19 (by omega) w
theorem right22 (a : BitVec 32) (w : World) : Calls Tryd.prog 53 #[.int .i64 22, .int .u32 (a.toNat : Int)] w fun e w' => e = .returned (.int .u32 ((rR 22 a).toNat:Int)) ∧ w' = w := right_any a 22 (by omega) w
theorem turn22 (a : BitVec 32) (w : World) : Calls Tryd.prog 51 #[.int .i64 22, .int .u32 (a.toNat : Int)] w fun e w' => e = .returned (.int .u32 ((rR 22 a).toNat:Int)) ∧ Below w.heap.size w w' := turn_any a 22 (by omega) w
theorem right25 (a : BitVec 32) (w : World) : Calls Tryd.prog 53 #[.int .i64 25, .int .u32 (a.toNat : Int)] w fun e w' => e = .returned (.int .u32 ((rR 25 a).toNat:Int)) ∧ w' = w := right_any a 25 (by omega) w
theorem turn25 (a : BitVec 32) (w : World) : Calls Tryd.prog 51 #[.int .i64 25, .int .u32 (a.toNat : Int)] w fun e w' => e = .returned (.int .u32 ((rR 25 a).toNat:Int)) ∧ Below w.heap.size w w' := turn_any a 25 (by omega) w
end Go.Proofs.YtapmheocllicnaaDoor
