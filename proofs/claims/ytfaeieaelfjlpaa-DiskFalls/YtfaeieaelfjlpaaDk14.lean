/-
  A sort of at most one element.
-/
import Derived.Test.YtfaeieaelfjlpaaDk13
namespace Go.Proofs.Ytfaeieaelfjlpaa
open Go.RowKit Go.BigFrame Go.Maps
set_option maxRecDepth 20000 in
theorem len64_0 (w : World) : Calls Try.prog 62 #[.int .u64 0] w fun e w' => ∃ z, e = .returned (.int .i64 z) ∧ w' = w := by
  go_enter Try.func62, Try.ntmps62
  go_wp2
  go_ret
  exact ⟨_, rfl, rfl⟩
set_option maxRecDepth 20000 in
theorem len64_1 (w : World) : Calls Try.prog 62 #[.int .u64 1] w fun e w' => ∃ z, e = .returned (.int .i64 z) ∧ w' = w := by
  go_enter Try.func62, Try.ntmps62
  go_wp2
  go_ret
  exact ⟨_, rfl, rfl⟩
theorem len_tiny (n : Nat) (hn : n ≤ 1) (w : World) : Calls Try.prog 49 #[.int .u64 (n : Int)] w fun e w' => ∃ z, e = .returned (.int .i64 z) ∧ w' = w := by
  rcases (by omega : n = 0 ∨ n = 1) with rfl | rfl
  · have k := hideit (len64_0 w)
    go_enter Try.func49, Try.ntmps49
    go_wp2_with (go_at_call 62; refine k.out.mono ?_; rintro e w9 ⟨z, rfl, hw9⟩; rw [hw9]; clear hw9)
    go_ret
    exact ⟨_, rfl, rfl⟩
  · have k := hideit (len64_1 w)
    go_enter Try.func49, Try.ntmps49
    go_wp2_with (go_at_call 62; refine k.out.mono ?_; rintro e w9 ⟨z, rfl, hw9⟩; rw [hw9]; clear hw9)
    go_ret
    exact ⟨_, rfl, rfl⟩
theorem ins_tiny (o : Option Addr) (n cap : Nat) (hn : n ≤ 1) (fv : Value) (w : World) : Calls Try.prog 53 #[.slice o n cap, .int .i64 0, .int .i64 (n : Int), fv] w fun e w' => e = .returned (.tuple #[]) ∧ w' = w := by
  have h1 : ¬ (1 : Int) < (n : Int) := by omega
  go_enter Try.func53, Try.ntmps53
  go_wp2
  refine wp_loop_rounds 1 ?_
  rw [rounds_succ]
  go_wp2
  exact bodyPost_end (v := .tuple #[]) (by simp [results, Try.results53]) rfl ⟨rfl, rfl⟩
theorem pdq_tiny (o : Option Addr) (n cap : Nat) (hn : n ≤ 1) (z : Int) (fv : Value) (w : World) : Calls Try.prog 48 #[.slice o n cap, .int .i64 0, .int .i64 (n : Int), .int .i64 z, fv] w fun e w' => e = .returned (.tuple #[]) ∧ w' = w := by
  have h1 : (n : Int) ≤ 12 := by omega
  have hs : IntKind.i64.wrap (n : Int) = (n : Int) := by rw [IntKind.wrap_i64]; omega
  have k := hideit (ins_tiny o n cap hn fv w)
  go_enter Try.func48, Try.ntmps48
  go_wp2
  refine wp_loop_rounds 1 ?_
  rw [rounds_succ]
  go_wp2_with (go_at_call 53; refine k.out.mono ?_; rintro e w9 ⟨rfl, hw9⟩; rw [hw9]; clear hw9)
  exact bodyPost_ret (v := .tuple #[]) (by simp [results, Try.results48]) rfl ⟨rfl, rfl⟩
theorem sort_tiny (o : Option Addr) (n cap : Nat) (hn : n ≤ 1) (fv : Value) (w : World) : Calls Try.prog 39 #[.slice o n cap, fv] w fun e w' => e = .returned (.tuple #[]) ∧ w' = w := by
  have k := hideit (len_tiny n hn w)
  have k2 := hideit fun z => pdq_tiny o n cap hn z fv w
  have hw : IntKind.u64.wrap (n : Int) = (n : Int) := by rw [IntKind.wrap_u64]; omega
  go_enter Try.func39, Try.ntmps39
  go_wp2_with (first | (go_at_call 49; refine k.out.mono ?_; rintro e w9 ⟨z, rfl, hw9⟩; rw [hw9]; clear hw9) | (go_at_call 48; refine (k2.out _).mono ?_; rintro e w9 ⟨rfl, hw9⟩; rw [hw9]; clear hw9))
  exact bodyPost_end (v := .tuple #[]) (by simp [results, Try.results39]) rfl ⟨rfl, rfl⟩
end Go.Proofs.Ytfaeieaelfjlpaa
