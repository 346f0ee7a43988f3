/-
  The block of any slot, in one; unlike slots have unlike blocks; neither is taken for the other.
-/
import Derived.Test.YtomalmnpojcloaaSLv
namespace Go.Proofs.Ytomalmnpojcloaa
open Go.RowKit Go.BigFrame
/-- the bytes of a slot's block -/
def slB (a : Bool) (f : Nat → BitVec 8) : Nat → BitVec 8 := if a then padF (slF f) 84 else zF
def okSl (a : Bool) (f : Nat → BitVec 8) : Prop := a = true ∨ ∀ j, j < 80 → f j = 0#8
theorem enc_ok (a : Bool) (f : Nat → BitVec 8) (h : okSl a f) (w : World) :
    Calls Try.prog 8 #[.agg (row 81 (slv a f)).toArray] w fun e w' => ∃ g, e = .returned (.tuple #[.slice (some ⟨g, 0, none⟩) 512 512, .int .i64 0]) ∧ w.heap.size ≤ g ∧ RowAt g 512 (yv (slB a f)) w' ∧ Ext w w' := by
  cases a with
  | true => exact enc_act f w
  | false => exact enc_zero f (h.resolve_left (by decide)) w
theorem enc_no (a : Bool) (f : Nat → BitVec 8) (h : ¬ okSl a f) (w : World) :
    Calls Try.prog 8 #[.agg (row 81 (slv a f)).toArray] w fun e w' => e = .returned (.tuple #[.slice none 0 0, .int .i64 1]) ∧ Ext w w' := by
  cases a with
  | true => exact absurd (.inl rfl) h
  | false => exact enc_bad f (fun hh => h (.inr hh)) w
theorem slB_inj (a b : Bool) (f g : Nat → BitVec 8) (ha : okSl a f) (hb : okSl b g) : eqN 512 (slB a f) (slB b g) = ((a == b) && eqN 80 f g) := by
  rw [Bool.eq_iff_iff, eqN_iff, Bool.and_eq_true, eqN_iff, beq_iff_eq]
  cases a <;> cases b <;> simp only [slB, if_true, Bool.false_eq_true, if_false]
  · have h1 := ha.resolve_left (by decide)
    have h2 := hb.resolve_left (by decide)
    exact ⟨fun _ => ⟨trivial, fun j hj => by rw [h1 j hj, h2 j hj]⟩, fun _ _ _ => trivial⟩
  · refine ⟨fun h => ?_, fun h => by cases h.1⟩
    have := h 0 (by decide)
    exact absurd this (by unfold padF slF zF; rw [if_pos (by decide), if_pos (by decide)]; decide)
  · refine ⟨fun h => ?_, fun h => by cases h.1⟩
    have := h 0 (by decide)
    exact absurd this (by unfold padF slF zF; rw [if_pos (by decide), if_pos (by decide)]; decide)
  · refine ⟨fun h => ⟨trivial, fun j hj => ?_⟩, fun h j hj => ?_⟩
    · have := h (4 + j) (by omega)
      rwa [sl_back f j hj, sl_back g j hj] at this
    · unfold padF slF
      by_cases h1 : j < 84
      · rw [if_pos h1, if_pos h1]
        by_cases h2 : j < 4
        · rw [if_pos h2, if_pos h2]
        · rw [if_neg h2, if_neg h2, h.2 (j - 4) (by omega)]
      · rw [if_neg h1, if_neg h1]
theorem slB_notK (a : Bool) (f : Nat → BitVec 8) : ¬ okK (slB a f) := fun h => by
  have h1 := eqN_iff.1 h.1 0 (by decide)
  revert h1
  cases a
  · show ¬ zF 0 = _
    decide
  · show ¬ padF (slF f) 84 0 = _
    unfold padF slF
    rw [if_pos (by decide), if_pos (by decide)]
    decide
theorem keB_0 (n : Nat) (xs : Nat → Int) (fs : Nat → Nat → BitVec 8) (t : Nat → BitVec 8) : keB n xs fs t 0 = 75#8 := by
  rw [keB_se 0 (by omega)]
  unfold seF
  rw [if_pos (by decide)]
  decide
theorem dec_keys (v : Value) (n : Nat) (xs : Nat → Int) (fs : Nat → Nat → BitVec 8) (t : Nat → BitVec 8) (w : World) (hv : BV v 512 (keB n xs fs t) w) : Calls Try.prog 11 #[v] w fun e w' => e = .returned (.tuple #[.agg (row 81 (slv false zF)).toArray, .int .i64 110]) ∧ Ext w w' := by
  refine dec_bad v _ w hv (zB_false (i := 0) (by rw [keB_0]; decide) 512 (by decide)) ?_
  unfold okS
  rw [Bool.and_eq_false_iff]
  left
  rw [Bool.eq_false_iff]
  intro h
  have := eqN_iff.1 h 0 (by decide)
  rw [keB_0] at this
  exact absurd this (by decide)
theorem dec_enc (v : Value) (a : Bool) (f : Nat → BitVec 8) (ha : okSl a f) (w : World) (hv : BV v 512 (slB a f) w) : Calls Try.prog 11 #[v] w fun e w' => e = .returned (.tuple #[.agg (row 81 (slv a f)).toArray, .int .i64 0]) ∧ Ext w w' := by
  cases a with
  | true => exact dec_back v f w hv
  | false =>
    have h := dec_back0 v w hv
    rwa [← slv_congr (f := f) (g := zF) (fun j hj => ha.resolve_left (by decide) j hj)] at h
end Go.Proofs.Ytomalmnpojcloaa
