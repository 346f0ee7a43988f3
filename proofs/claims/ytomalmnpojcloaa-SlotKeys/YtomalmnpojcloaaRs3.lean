/-
  What any bytes are as a slot: the document's answer by cases.
-/
import Derived.Test.YtomalmnpojcloaaRs2
namespace Go.Proofs.Ytomalmnpojcloaa
open Go.RowKit Go.BigFrame
theorem rdec_len (v : Value) (l : Nat) (b : Nat → BitVec 8) (w : World) (hv : BV v l b w) (hl : l ≠ 512) : Calls Try.prog 12 #[v] w fun e w' => e = .returned (.tuple #[.agg (row 81 (slv false zF)).toArray, .int .i64 110]) ∧ Ext w w' := by
  obtain ⟨oa, cp, rfl⟩ := hv.form
  exact rdcd_len oa l cp hl w
theorem zF_eq (b : Nat → BitVec 8) : eqN 512 (slB false zF) b = zB b 512 := by
  rw [Bool.eq_iff_iff, eqN_iff, zB_spec]
  exact ⟨fun h i hi => (h i hi).symm, fun h i hi => (h i hi).symm⟩
theorem sB_eq (b : Nat → BitVec 8) : eqN 512 (slB true fun j => b (4 + j)) b = okS b := by
  unfold okS
  rw [Bool.eq_iff_iff, eqN_iff, Bool.and_eq_true, eqN_iff, zB_spec]
  show (∀ j, j < 512 → padF (slF fun j => b (4 + j)) 84 j = b j) ↔ _
  constructor
  · intro h
    refine ⟨fun j hj => ?_, fun j hj => ?_⟩
    · rw [← h j (by omega)]
      unfold padF slF
      rw [if_pos (by omega), if_pos hj]
    · show b (84 + j) = 0#8
      rw [← h (84 + j) (by omega)]
      unfold padF
      rw [if_neg (by omega)]
  · rintro ⟨h1, h2⟩ j hj
    unfold padF slF
    by_cases c1 : j < 84
    · rw [if_pos c1]
      by_cases c2 : j < 4
      · rw [if_pos c2, h1 j c2]
      · rw [if_neg c2]
        show b (4 + (j - 4)) = b j
        rw [show 4 + (j - 4) = j by omega]
    · rw [if_neg c1]
      have := h2 (j - 84) (by omega)
      rw [show 84 + (j - 84) = j by omega] at this
      exact this.symm
theorem ok0 {b : Nat → BitVec 8} (h : okS b = true) : ¬ b 0 = 0#8 := by
  unfold okS at h
  rw [Bool.and_eq_true] at h
  rw [eqN_iff.1 h.1 0 (by decide)]
  decide
theorem BV.lie512 {v : Value} {b : Nat → BitVec 8} {w : World} (h : BV v 512 b w) : ∃ ad cp, v = .slice (some ad) 512 cp ∧ 512 ≤ cp ∧ LieAt ad 512 (yv b) w := by
  rcases h with ⟨_, h⟩ | ⟨a, cap, h1, h2, h3⟩
  · cases h
  · exact ⟨a, cap, h1, h2, h3⟩
theorem rdec_zero (v : Value) (b : Nat → BitVec 8) (w : World) (hv : BV v 512 b w) (hz : zB b 512 = true) : Calls Try.prog 12 #[v] w fun e w' => e = .returned (.tuple #[.agg (row 81 (slv false zF)).toArray, .int .i64 0]) ∧ Ext w w' := by
  obtain ⟨ad, cp, rfl, hcp, hL⟩ := hv.lie512
  exact (rdcd_0 ad cp b w hL hcp (zB_spec 512 |>.1 hz 0 (by decide)) true (by show _ = true; rw [zF_eq, hz])).mono fun e w' h => h
theorem rdec_act (v : Value) (b : Nat → BitVec 8) (w : World) (hv : BV v 512 b w) (ho : okS b = true) : Calls Try.prog 12 #[v] w fun e w' => e = .returned (.tuple #[.agg (row 81 (slv true fun j => b (4 + j))).toArray, .int .i64 0]) ∧ Ext w w' := by
  obtain ⟨ad, cp, rfl, hcp, hL⟩ := hv.lie512
  exact (rdcd_1 ad cp b w hL hcp (ok0 ho) true (by show _ = true; rw [sB_eq, ho])).mono fun e w' h => h
theorem rdec_bad (v : Value) (b : Nat → BitVec 8) (w : World) (hv : BV v 512 b w) (hz : zB b 512 = false) (ho : okS b = false) : Calls Try.prog 12 #[v] w fun e w' => e = .returned (.tuple #[.agg (row 81 (slv false zF)).toArray, .int .i64 110]) ∧ Ext w w' := by
  obtain ⟨ad, cp, rfl, hcp, hL⟩ := hv.lie512
  by_cases h0 : b 0 = 0#8
  · exact (rdcd_0 ad cp b w hL hcp h0 false (by show _ = false; rw [zF_eq, hz])).mono fun e w' h => h
  · exact (rdcd_1 ad cp b w hL hcp h0 false (by show _ = false; rw [sB_eq, ho])).mono fun e w' h => h
/-- what any bytes are as a slot, the program and the document at once: the same -/
theorem dec_both (l : Nat) (b : Nat → BitVec 8) : ∃ (a : Bool) (f : Nat → BitVec 8) (n : Int), (n = 0 ∨ n = 110) ∧ (n = 0 → l = 512 ∧ okSl a f ∧ ∀ j, j < 512 → slB a f j = b j) ∧
    (∀ v w, BV v l b w → Calls Try.prog 11 #[v] w fun e w' => e = .returned (.tuple #[.agg (row 81 (slv a f)).toArray, .int .i64 n]) ∧ Ext w w') ∧
    (∀ v w, BV v l b w → Calls Try.prog 12 #[v] w fun e w' => e = .returned (.tuple #[.agg (row 81 (slv a f)).toArray, .int .i64 n]) ∧ Ext w w') := by
  by_cases hl : l = 512
  · subst hl
    cases hz : zB b 512 with
    | true => exact ⟨false, zF, 0, .inl rfl, fun _ => ⟨rfl, .inr fun _ _ => rfl, eqN_iff.1 (by rw [zF_eq, hz])⟩, fun v w hv => dec_zero v b w hv hz, fun v w hv => rdec_zero v b w hv hz⟩
    | false =>
      cases ho : okS b with
      | true => exact ⟨true, fun j => b (4 + j), 0, .inl rfl, fun _ => ⟨rfl, .inl rfl, eqN_iff.1 (by rw [sB_eq, ho])⟩, fun v w hv => dec_act v b w hv hz ho, fun v w hv => rdec_act v b w hv ho⟩
      | false => exact ⟨false, zF, 110, .inr rfl, fun h => absurd h (by decide), fun v w hv => dec_bad v b w hv hz ho, fun v w hv => rdec_bad v b w hv hz ho⟩
  · exact ⟨false, zF, 110, .inr rfl, fun h => absurd h (by decide), fun v w hv => dec_len v l b w hv hl, fun v w hv => rdec_len v l b w hv hl⟩
end Go.Proofs.Ytomalmnpojcloaa
