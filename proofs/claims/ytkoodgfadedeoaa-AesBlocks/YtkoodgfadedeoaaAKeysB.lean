/-
  AesKeys, walked for keys that may not be.
-/
import Derived.Test.YtkoodgfadedeoaaAKeys
namespace Go.Proofs.Ytkoodgfadedeoaa
open Go.RowKit Go.BigFrame
theorem one_row : (row 16 (yv fun _ => 0#8)).set 0 (.int .u8 1) = row 16 (yv fun j => if j = 0 then 1#8 else 0#8) := by kernel_rfl
set_option maxRecDepth 20000 in
set_option maxHeartbeats 4000000 in
theorem keys_bad (a : Option Addr) (len cap : Nat) (h1 : len ≠ 16) (h2 : len ≠ 32) (n : Int) (w : World) :
    Calls Try.prog 4 #[.slice a len cap, .int .i64 n] w fun e w' => e = .returned (.bool true) ∧ Below w.heap.size w w' := by
  have hz := store_Y16
  have hq := eq32 (fun _ => 0#8) (fun _ => 0#8)
  rw [(same16_iff _ _).2 (fun j hj => rfl)] at hq
  replace h1 := hideit h1
  replace h2 := hideit h2
  go_enter Try.func4, Try.ntmps4
  go_wp2_with (first | (go_at_call 9; refine (new_bad a len cap h1.out h2.out _).mono ?_; rintro e w1 ⟨rfl, rfl⟩) | (go_at_call 10; refine (rnew_bad a len cap h1.out h2.out _).mono ?_; rintro e w1 ⟨rfl, rfl⟩) | (go_at_call 11; refine (alives_any _).mono ?_; rintro e w1 ⟨rfl, b1⟩; have B1 := hideit b1; clear b1) | (go_at_call 16; refine (nil_key n _).mono ?_; rintro e w2 ⟨rfl, b2⟩; have B2 := hideit (Ext.trans B1.out b2); clear b2) | (go_at_call 17; refine (nil_rounds _).mono ?_; rintro e w3 ⟨rfl, rfl⟩) | (go_at_call 12; rw [one_row]; refine (nil_enc _ _).mono ?_; rintro e w4 ⟨rfl, b4⟩; have B4 := hideit (Ext.trans B2.out b4); clear b4) | (go_at_call 14; rw [one_row]; refine (nil_dec _ _).mono ?_; rintro e w5 ⟨rfl, b5⟩; have B5 := hideit (Ext.trans B4.out b5); clear b5))
  go_ret
  exact ⟨rfl, B5.out⟩
end Go.Proofs.Ytkoodgfadedeoaa
