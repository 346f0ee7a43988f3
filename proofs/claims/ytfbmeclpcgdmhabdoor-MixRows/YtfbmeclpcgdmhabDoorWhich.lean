/-
  Which page of a window, the program's and the document's.
-/
import Derived.Test.YtfbmeclpcgdmhabDoorLong
namespace Go.Proofs.YtfbmeclpcgdmhabDoor
set_option maxRecDepth 20000
open Go.RowKit Go.BigFrame
/-- the place that j tells in a window of n pages -/
def whI (n j : Int) : Int := n - 1 - n * (j * j / 4294967296) / 4294967296
theorem wh_facts (n j : Int) (h1 : 1 ≤ n) (h2 : n ≤ 2147483647) (j0 : 0 ≤ j) (j1 : j ≤ 4294967295) :
    IntKind.u64.wrap (j * j) = j * j ∧ 0 ≤ j * j ∧ j * j ≤ 18446744065119617025 ∧ 0 ≤ n * (j * j / 4294967296) ∧ n * (j * j / 4294967296) ≤ 9223372028264841218 ∧ IntKind.u64.wrap (n * (j * j / 4294967296)) = n * (j * j / 4294967296) ∧ IntKind.i64.wrap (n * (j * j / 4294967296) / 4294967296) = n * (j * j / 4294967296) / 4294967296 ∧ 0 ≤ whI n j ∧ whI n j ≤ n - 1 := by
  have a1 : 0 ≤ j * j := Int.mul_nonneg j0 j0
  have a2 : j * j ≤ 4294967295 * 4294967295 := Int.mul_le_mul j1 j1 j0 (by omega)
  obtain ⟨x, hx⟩ : ∃ x, x = j * j / 4294967296 := ⟨_, rfl⟩
  have x0 : 0 ≤ x := by omega
  have x1 : x ≤ 4294967294 := by omega
  have b1 : 0 ≤ n * x := Int.mul_nonneg (by omega) x0
  have b2 : n * x ≤ 2147483647 * 4294967294 := Int.mul_le_mul h2 x1 x0 (by omega)
  have b3 : n * x ≤ n * 4294967294 := Int.mul_le_mul_of_nonneg_left x1 (by omega)
  unfold whI
  rw [← hx, IntKind.wrap_u64, IntKind.wrap_u64, IntKind.wrap_i64]
  refine ⟨by omega, a1, by omega, b1, by omega, by omega, by omega, by omega, by omega⟩
theorem which_bad (n : Int) (j : Int) (h : n < 1 ∨ 2147483647 < n) (w : World) : Calls Tryd.prog 23 #[.int .i64 n, .int .u32 j] w fun e w' => e = .returned (.int .i64 0) ∧ w' = w := by
  rcases h with h | h
  · go_enter Tryd.func23, Tryd.ntmps23
    go_wp2
    go_ret
    exact ⟨rfl, rfl⟩
  · have h2 : 1 ≤ n := by omega
    go_enter Tryd.func23, Tryd.ntmps23
    go_wp2
    go_ret
    exact ⟨rfl, rfl⟩
set_option maxRecDepth 20000 in
theorem which_any (n j : Int) (h1 : 1 ≤ n) (h2 : n ≤ 2147483647) (j0 : 0 ≤ j) (j1 : j ≤ 4294967295) (w : World) : Calls Tryd.prog 23 #[.int .i64 n, .int .u32 j] w fun e w' => e = .returned (.int .i64 (whI n j)) ∧ w' = w := by
  obtain ⟨f1, f2, f3, f4, f5, f6, f7, f8, f9⟩ := wh_facts n j h1 h2 j0 j1
  have hw : Hid (whI n j = n - 1 - n * (j * j / 4294967296) / 4294967296) := rfl
  go_enter Tryd.func23, Tryd.ntmps23
  go_wp2
  go_ret
  exact ⟨ret_int hw.out.symm, rfl⟩
theorem rwhich_bad (n : Int) (j : Int) (h : n < 1 ∨ 2147483647 < n) (w : World) : Calls Tryd.prog 66 #[.int .i64 n, .int .u32 j] w fun e w' => e = .returned (.int .i64 0) ∧ w' = w := by
  rcases h with h | h
  · go_enter Tryd.func66, Tryd.ntmps66
    go_wp2
    go_ret
    exact ⟨rfl, rfl⟩
  · have h2 : 1 ≤ n := by omega
    go_enter Tryd.func66, Tryd.ntmps66
    go_wp2
    go_ret
    exact ⟨rfl, rfl⟩
set_option maxRecDepth 20000 in
theorem rwhich_any (n j : Int) (h1 : 1 ≤ n) (h2 : n ≤ 2147483647) (j0 : 0 ≤ j) (j1 : j ≤ 4294967295) (w : World) : Calls Tryd.prog 66 #[.int .i64 n, .int .u32 j] w fun e w' => e = .returned (.int .i64 (whI n j)) ∧ w' = w := by
  obtain ⟨f1, f2, f3, f4, f5, f6, f7, f8, f9⟩ := wh_facts n j h1 h2 j0 j1
  have hw : Hid (whI n j = n - 1 - n * (j * j / 4294967296) / 4294967296) := rfl
  go_enter Tryd.func66, Tryd.ntmps66
  go_wp2
  go_ret
  exact ⟨ret_int hw.out.symm, rfl⟩
theorem wh_rising (n a b : Int) (h1 : 1 ≤ n) (a0 : 0 ≤ a) (hab : a ≤ b) : whI n b ≤ whI n a := by
  unfold whI
  have h2 : a * a ≤ b * b := Int.mul_le_mul hab hab a0 (by omega)
  have h3 : a * a / 4294967296 ≤ b * b / 4294967296 := Int.ediv_le_ediv (by omega) h2
  have h4 : n * (a * a / 4294967296) ≤ n * (b * b / 4294967296) := Int.mul_le_mul_of_nonneg_left h3 (by omega)
  have h5 := Int.ediv_le_ediv (c := 4294967296) (by omega) h4
  omega
theorem wh_zero (n : Int) : whI n 0 = n - 1 := by unfold whI; simp
end Go.Proofs.YtfbmeclpcgdmhabDoor
