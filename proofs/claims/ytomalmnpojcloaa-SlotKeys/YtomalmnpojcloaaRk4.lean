/-
  What any bytes are as keys: the program and the document at once.
-/
import Derived.Test.YtomalmnpojcloaaRk3
namespace Go.Proofs.Ytomalmnpojcloaa
open Go.RowKit Go.BigFrame
theorem rkdec_no (v : Value) (l : Nat) (b : Nat → BitVec 8) (w : World) (hv : BV v l b w) (hn : ¬ (l = 512 ∧ okK b)) : Calls Try.prog 19 #[v] w fun e w' => e = .returned (.tuple #[.agg (row 33 (kyv (.slice none 0 0) zF)).toArray, .int .i64 110]) ∧ Ext w w' := by
  by_cases hl : l = 512
  · subst hl
    have hk : ¬ okK b := fun h => hn ⟨rfl, h⟩
    obtain ⟨ad, cp, rfl, hcp, hL⟩ := hv.lie512
    by_cases h1 : (b 4).toNat = 1 ∨ (b 4).toNat = 2
    · refine (rkd_run ad cp b w hL hcp h1).mono ?_
      rintro e w' ⟨h | h, hX⟩
      · exact absurd h.1 hk
      · exact ⟨h.2, hX⟩
    · exact rkd_num ad cp b w hL h1
  · obtain ⟨oa, cp, rfl⟩ := hv.form
    exact rkd_len oa l cp hl w
theorem rkdec_ok (v : Value) (b : Nat → BitVec 8) (w : World) (hv : BV v 512 b w) (hk : okK b) : Calls Try.prog 19 #[v] w fun e w' => ∃ u, e = .returned (.tuple #[.agg (row 33 (kyv u (shF b (5 + 68 * (b 4).toNat)))).toArray, .int .i64 0]) ∧ EV u (b 4).toNat (xG (shF b 5)) (fG (shF b 5)) w' ∧ Ext w w' := by
  obtain ⟨ad, cp, rfl, hcp, hL⟩ := hv.lie512
  refine (rkd_run ad cp b w hL hcp hk.2.1.1).mono ?_
  rintro e w' ⟨h | h, hX⟩
  · obtain ⟨_, u, he, hE⟩ := h
    exact ⟨u, he, hE, hX⟩
  · exact absurd hk h.1
theorem kdec_none (v : Value) (l : Nat) (b : Nat → BitVec 8) (w : World) (hv : BV v l b w) (hn : ¬ (l = 512 ∧ okK b)) : Calls Try.prog 18 #[v] w fun e w' => e = .returned (.tuple #[.agg (row 33 (kyv (.slice none 0 0) zF)).toArray, .int .i64 110]) ∧ Ext w w' := by
  by_cases hl : l = 512
  · subst hl
    exact kdec_no v b w hv fun h => hn ⟨rfl, h⟩
  · exact kdec_len v b w l hv hl
theorem keB_back (b : Nat → BitVec 8) (hk : okK b) (j : Nat) (hj : j < 512) : keB (b 4).toNat (xG (shF b 5)) (fG (shF b 5)) (shF b (5 + 68 * (b 4).toNat)) j = b j := eqN_iff.1 ((okK_iff b).1 hk).2 j hj
end Go.Proofs.Ytomalmnpojcloaa
