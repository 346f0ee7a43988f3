/-
  Both sides answer one thing.
-/
import Derived.Test.YtchieinmpcdhfaaPl10
namespace Go.Proofs.Ytchieinmpcdhfaa
open Go.RowKit Go.BigFrame
set_option linter.unusedVariables false
/-- both sides answer one thing -/
theorem may_both (h : Hd) (r : Rt) : ∃ R : Bool, (∀ w, Calls Try.prog 16 #[.agg (row 24 (hdv h)).toArray, .agg (row 35 (rtv r)).toArray] w fun e w' => e = .returned (.bool R) ∧ Ext w w') ∧ (∀ w, Calls Try.prog 17 #[.agg (row 24 (hdv h)).toArray, .agg (row 35 (rtv r)).toArray] w fun e w' => e = .returned (.bool R) ∧ Ext w w') := by
  by_cases hk : okR h r
  · exact ⟨true, fun w => may_any h r w true (iff_of_true rfl hk), fun w => rmay_any h r w true (iff_of_true rfl hk)⟩
  · exact ⟨false, fun w => may_any h r w false (iff_of_false (by decide) hk), fun w => rmay_any h r w false (iff_of_false (by decide) hk)⟩
theorem next_both (h : Hd) (r : Rt) : ∃ a b c : Int, (∀ w, Calls Try.prog 7 #[.agg (row 24 (hdv h)).toArray, .agg (row 35 (rtv r)).toArray] w fun e w' => e = .returned (.tuple #[.int .i64 a, .int .i64 b, .int .i64 c]) ∧ Ext w w') ∧ (∀ w, Calls Try.prog 8 #[.agg (row 24 (hdv h)).toArray, .agg (row 35 (rtv r)).toArray] w fun e w' => e = .returned (.tuple #[.int .i64 a, .int .i64 b, .int .i64 c]) ∧ Ext w w') := by
  obtain ⟨ct, rk, fr, tr⟩ := r
  by_cases hk : okR h ⟨ct, rk, fr, tr⟩
  · cases rk
    · exact ⟨0, 0, 231, fun w => next_idle h ct fr tr w hk, fun w => rnext_idle h ct fr tr w hk⟩
    · exact ⟨_, _, _, fun w => next_go h ct fr tr w hk, fun w => rnext_go h ct fr tr w hk⟩
  · cases rk
    · exact ⟨0, 0, 1, fun w => next_badf h ct fr tr w hk, fun w => rnext_badf h ct fr tr w hk⟩
    · exact ⟨0, 0, 1, fun w => next_badt h ct fr tr w hk, fun w => rnext_badt h ct fr tr w hk⟩
theorem steps_both (h : Hd) (r : Rt) : ∃ a b : Int, (∀ w, Calls Try.prog 9 #[.agg (row 24 (hdv h)).toArray, .agg (row 35 (rtv r)).toArray] w fun e w' => e = .returned (.tuple #[.int .i64 a, .int .i64 b]) ∧ Ext w w') ∧ (∀ w, Calls Try.prog 10 #[.agg (row 24 (hdv h)).toArray, .agg (row 35 (rtv r)).toArray] w fun e w' => e = .returned (.tuple #[.int .i64 a, .int .i64 b]) ∧ Ext w w') := by
  obtain ⟨ct, rk, fr, tr⟩ := r
  by_cases hk : okR h ⟨ct, rk, fr, tr⟩
  · cases rk
    · exact ⟨0, 0, fun w => steps_idle h ct fr tr w hk, fun w => rsteps_idle h ct fr tr w hk⟩
    · exact ⟨_, _, fun w => steps_go h ct fr tr w hk, fun w => rsteps_go h ct fr tr w hk⟩
  · cases rk
    · exact ⟨0, 1, fun w => steps_badf h ct fr tr w hk, fun w => rsteps_badf h ct fr tr w hk⟩
    · exact ⟨0, 1, fun w => steps_badt h ct fr tr w hk, fun w => rsteps_badt h ct fr tr w hk⟩
theorem after_both (h : Hd) (r : Rt) : ∃ (x : Rt) (a : Bool) (b : Int), (∀ w, Calls Try.prog 13 #[.agg (row 24 (hdv h)).toArray, .agg (row 35 (rtv r)).toArray] w fun e w' => e = .returned (.tuple #[.agg (row 35 (rtv x)).toArray, .bool a, .int .i64 b]) ∧ Ext w w') ∧ (∀ w, Calls Try.prog 14 #[.agg (row 24 (hdv h)).toArray, .agg (row 35 (rtv r)).toArray] w fun e w' => e = .returned (.tuple #[.agg (row 35 (rtv x)).toArray, .bool a, .int .i64 b]) ∧ Ext w w') := by
  obtain ⟨ct, rk, fr, tr⟩ := r
  by_cases hk : okR h ⟨ct, rk, fr, tr⟩
  · cases rk
    · exact ⟨rt0, false, 231, fun w => after_idle h ct fr tr w hk, fun w => rafter_idle h ct fr tr w hk⟩
    · by_cases a1 : nxT h fr = h.se
      · exact ⟨_, _, _, fun w => after_end h ct fr tr w hk a1 (by show ¬ _; omega), fun w => rafter_end h ct fr tr w hk a1 (by show ¬ _; omega)⟩
      · have a2 : nxT h fr < h.se := by unfold nxT at a1 ⊢; split <;> simp_all <;> omega
        exact ⟨_, _, _, fun w => after_on h ct fr tr w hk a1 a2, fun w => rafter_on h ct fr tr w hk a1 a2⟩
  · cases rk
    · exact ⟨rt0, false, 1, fun w => after_badf h ct fr tr w hk, fun w => rafter_badf h ct fr tr w hk⟩
    · exact ⟨rt0, false, 1, fun w => after_badt h ct fr tr w hk, fun w => rafter_badt h ct fr tr w hk⟩
theorem key_both (h : Hd) (r : Rt) (n : Int) : ∃ a b : Int, (∀ w, Calls Try.prog 11 #[.agg (row 24 (hdv h)).toArray, .agg (row 35 (rtv r)).toArray, .int .i64 n] w fun e w' => e = .returned (.tuple #[.int .i64 a, .int .i64 b]) ∧ Ext w w') ∧ (∀ w, Calls Try.prog 12 #[.agg (row 24 (hdv h)).toArray, .agg (row 35 (rtv r)).toArray, .int .i64 n] w fun e w' => e = .returned (.tuple #[.int .i64 a, .int .i64 b]) ∧ Ext w w') := by
  by_cases hk : okR h r
  · by_cases h1 : n < 0 ∨ h.se ≤ n
    · exact ⟨0, 100, fun w => key_any h r n w _ _ (fun q => absurd hk q) (fun _ _ => ⟨rfl, rfl⟩) (fun _ q1 q2 => absurd h1 (by omega)) (fun _ q1 q2 => absurd h1 (by omega)), fun w => rkey_any h r n w _ _ (fun q => absurd hk q) (fun _ _ => ⟨rfl, rfl⟩) (fun _ q1 q2 => absurd h1 (by omega)) (fun _ q1 q2 => absurd h1 (by omega))⟩
    · by_cases h2 : n < r.fr
      · exact ⟨1, 0, fun w => key_any h r n w _ _ (fun q => absurd hk q) (fun _ q => absurd q h1) (fun _ _ _ _ => ⟨rfl, rfl⟩) (fun _ _ _ q => absurd h2 q), fun w => rkey_any h r n w _ _ (fun q => absurd hk q) (fun _ q => absurd q h1) (fun _ _ _ _ => ⟨rfl, rfl⟩) (fun _ _ _ q => absurd h2 q)⟩
      · exact ⟨0, 0, fun w => key_any h r n w _ _ (fun q => absurd hk q) (fun _ q => absurd q h1) (fun _ _ _ q => absurd q h2) (fun _ _ _ _ => ⟨rfl, rfl⟩), fun w => rkey_any h r n w _ _ (fun q => absurd hk q) (fun _ q => absurd q h1) (fun _ _ _ q => absurd q h2) (fun _ _ _ _ => ⟨rfl, rfl⟩)⟩
  · exact ⟨0, 1, fun w => key_any h r n w _ _ (fun _ => ⟨rfl, rfl⟩) (fun q => absurd q hk) (fun q => absurd q hk) (fun q => absurd q hk), fun w => rkey_any h r n w _ _ (fun _ => ⟨rfl, rfl⟩) (fun q => absurd q hk) (fun q => absurd q hk) (fun q => absurd q hk)⟩
theorem bound_both (h : Hd) (x : Int) (hx : x ≤ 1152921504606846976) : ∃ a : Int, (∀ w, Calls Try.prog 18 #[.agg (row 24 (hdv h)).toArray, .int .i64 x] w fun e w' => e = .returned (.int .i64 a) ∧ Ext w w') ∧ (∀ w, Calls Try.prog 19 #[.agg (row 24 (hdv h)).toArray, .int .i64 x] w fun e w' => e = .returned (.int .i64 a) ∧ Ext w w') := by
  by_cases hk : okH h
  · by_cases hp : 0 < x
    · exact ⟨_, fun w => bound_ok h x w hk hx, fun w => rbound_pos h x w hk hx hp⟩
    · exact ⟨_, fun w => bound_ok h x w hk hx, fun w => rbound_neg h x w hk hp⟩
  · exact ⟨_, fun w => bound_no h x w hk, fun w => rbound_no h x w hk⟩
end Go.Proofs.Ytchieinmpcdhfaa
