/-
  A nil disk.
-/
import Derived.Test.YtfaeieaelfjlpaaDk16
namespace Go.Proofs.Ytfaeieaelfjlpaa
open Go.RowKit Go.BigFrame Go.Maps
theorem nil_checkB (x : Int) (o : Option Addr) (l cap : Nat) (w : World) : Calls Try.prog 26 #[.pointer none, .int .i64 x, .slice o l cap] w fun e w' => e = .returned (.int .i64 6) ∧ w' = w := by
  have kc := hideit (nil_check x w)
  go_enter Try.func26, Try.ntmps26
  go_wp2_with (go_at_call 43; refine kc.out.mono ?_; rintro e w9 ⟨rfl, hw9⟩; rw [hw9]; clear hw9)
  go_ret
  exact ⟨rfl, rfl⟩
theorem nil_stop (x : Int) (w : World) : Calls Try.prog 20 #[.pointer none, .int .i64 x] w fun e w' => e = .returned (.tuple #[]) ∧ w' = w := by
  go_enter Try.func20, Try.ntmps20
  go_wp2
  exact bodyPost_ret (v := .tuple #[]) (by simp [results, Try.results20]) rfl ⟨rfl, rfl⟩
theorem nil_read (x : Int) (w : World) : Calls Try.prog 19 #[.pointer none, .int .i64 x] w fun e w' => e = .returned (.tuple #[.slice none 0 0, .int .i64 6]) ∧ w' = w := by
  have kc := hideit (nil_check x w)
  go_enter Try.func19, Try.ntmps19
  go_wp2_with (go_at_call 43; refine kc.out.mono ?_; rintro e w9 ⟨rfl, hw9⟩; rw [hw9]; clear hw9)
  go_ret2
  exact ⟨rfl, rfl⟩
theorem nil_write (x : Int) (o : Option Addr) (l cap : Nat) (w : World) : Calls Try.prog 11 #[.pointer none, .int .i64 x, .slice o l cap] w fun e w' => e = .returned (.int .i64 6) ∧ w' = w := by
  have kc := hideit (nil_checkB x o l cap w)
  go_enter Try.func11, Try.ntmps11
  go_wp2_with (go_at_call 26; refine kc.out.mono ?_; rintro e w9 ⟨rfl, hw9⟩; rw [hw9]; clear hw9)
  go_ret
  exact ⟨rfl, rfl⟩
theorem nil_tamper (x : Int) (o : Option Addr) (l cap : Nat) (w : World) : Calls Try.prog 21 #[.pointer none, .int .i64 x, .slice o l cap] w fun e w' => e = .returned (.int .i64 6) ∧ w' = w := by
  have kc := hideit (nil_checkB x o l cap w)
  go_enter Try.func21, Try.ntmps21
  go_wp2_with (go_at_call 26; refine kc.out.mono ?_; rintro e w9 ⟨rfl, hw9⟩; rw [hw9]; clear hw9)
  go_ret
  exact ⟨rfl, rfl⟩
theorem nil_flush  (w : World) : Calls Try.prog 13 #[.pointer none] w fun e w' => e = .returned (.int .i64 6) ∧ w' = w := by
  go_enter Try.func13, Try.ntmps13
  go_wp2
  go_ret
  exact ⟨rfl, rfl⟩
theorem nil_crash (o : Option Addr) (l cap : Nat) (w : World) : Calls Try.prog 18 #[.pointer none, .slice o l cap] w fun e w' => e = .returned (.int .i64 6) ∧ w' = w := by
  go_enter Try.func18, Try.ntmps18
  go_wp2
  go_ret
  exact ⟨rfl, rfl⟩
theorem nil_unsure  (w : World) : Calls Try.prog 17 #[.pointer none] w fun e w' => e = .returned (.slice none 0 0) ∧ w' = w := by
  go_enter Try.func17, Try.ntmps17
  go_wp2
  go_ret
  exact ⟨rfl, rfl⟩
theorem nil_fork  (w : World) : Calls Try.prog 10 #[.pointer none] w fun e w' => e = .returned (.pointer none) ∧ w' = w := by
  go_enter Try.func10, Try.ntmps10
  go_wp2
  go_ret
  exact ⟨rfl, rfl⟩
theorem nil_has (x : Int) (w : World) : Calls Try.prog 38 #[.pointer none, .int .i64 x] w fun e w' => e = .returned (.bool false) ∧ w' = w := by
  have kc := hideit (nil_len w)
  by_cases h0 : 0 ≤ x
  · go_enter Try.func38, Try.ntmps38
    go_wp2_with (go_at_call 23; refine kc.out.mono ?_; rintro e w9 ⟨rfl, hw9⟩; rw [hw9]; clear hw9)
    go_ret
    exact ⟨by rw [← decide_eq_false (show ¬ x < 0 by omega)]; rfl, rfl⟩
  · go_enter Try.func38, Try.ntmps38
    go_wp2_with (go_at_call 23; refine kc.out.mono ?_; rintro e w9 ⟨rfl, hw9⟩; rw [hw9]; clear hw9)
    go_ret
    exact ⟨rfl, rfl⟩
theorem nil_sure (x : Int) (w : World) : Calls Try.prog 16 #[.pointer none, .int .i64 x] w fun e w' => e = .returned (.slice none 0 0) ∧ w' = w := by
  have kc := hideit (nil_has x w)
  go_enter Try.func16, Try.ntmps16
  go_wp2_with (go_at_call 38; refine kc.out.mono ?_; rintro e w9 ⟨rfl, hw9⟩; rw [hw9]; clear hw9)
  go_ret
  exact ⟨rfl, rfl⟩
end Go.Proofs.Ytfaeieaelfjlpaa
