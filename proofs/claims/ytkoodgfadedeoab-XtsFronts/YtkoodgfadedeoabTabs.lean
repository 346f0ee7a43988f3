/-
  The tables of the cipher: facts on bytes and cells.
-/
import Derived.Test.YtkoodgfadedeoabMild
import Derived.Test.YtkoodgfadedeoabCip
namespace Go.Proofs.Ytkoodgfadedeoab
open Go.RowKit Go.BigFrame
def bxT (i : Nat) : BitVec 8 := boxB (BitVec.ofNat 8 i)
def ubT (i : Nat) : BitVec 8 := unboxB (BitVec.ofNat 8 i)
def twT (i : Nat) : BitVec 8 := mB (BitVec.ofNat 8 i) 2#8
theorem of8 (n : Nat) (hn : n < 256) : ((BitVec.ofNat 8 n).toNat : Int) = (n : Int) := by simp; omega
theorem box_tab (n : Nat) (hn : n < 256) (w : World) : Calls Try.prog 29 #[.int .u8 (n : Int)] w fun e w' => e = .returned (.int .u8 ((bxT n).toNat : Int)) ∧ w' = w := by
  have h := box_any (BitVec.ofNat 8 n) w
  rw [of8 n hn] at h
  exact h
theorem mul_tab (n : Nat) (hn : n < 256) (w : World) : Calls Try.prog 30 #[.int .u8 (n : Int), .int .u8 2] w fun e w' => e = .returned (.int .u8 ((twT n).toNat : Int)) ∧ Below w.heap.size w w' := by
  have h := mul_any (BitVec.ofNat 8 n) 2#8 w
  rw [of8 n hn] at h
  exact h.mono fun e w' ⟨h1, h2⟩ => ⟨h1, by rw [h2]; exact Below.refl _ _⟩
def bxP (n j : Nat) : BitVec 8 := if j < n then bxT j else 0#8
def ubP (n j : Nat) : BitVec 8 := if (ubT j).toNat < n then ubT j else 0#8
def twP (n j : Nat) : BitVec 8 := if j < n then twT j else 0#8
theorem box_unbox : ∀ a : BitVec 8, boxB (unboxB a) = a := by decide +kernel
theorem ub_bx (n : Nat) : ubT (bxT n).toNat = BitVec.ofNat 8 n := by
  unfold ubT bxT
  rw [BitVec.ofNat_toNat, BitVec.setWidth_eq, unbox_box]
theorem ub_eq (n j : Nat) (hn : n < 256) (hj : j < 256) (h : (ubT j).toNat = n) : j = (bxT n).toNat := by
  have h1 : ubT j = BitVec.ofNat 8 n := BitVec.eq_of_toNat_eq (by rw [h]; simp; omega)
  unfold bxT
  rw [← h1]
  unfold ubT
  rw [box_unbox]
  simp
  omega
theorem cv_step (r : Nat) (K : Nat → BitVec 8) (n : Nat) (hn : n < 256) (j : Nat) (hj : j < 1009) :
    (if j = 753 + n then (Value.int .u8 ((twT n).toNat : Int)) else if j = 497 + (bxT n).toNat then .int .u8 (n : Int) else if j = 241 + n then .int .u8 ((bxT n).toNat : Int) else cv r K (bxP n) (ubP n) (twP n) j) = cv r K (bxP (n + 1)) (ubP (n + 1)) (twP (n + 1)) j := by
  have hb := (bxT n).isLt
  unfold cv
  by_cases h0 : j = 0
  · subst h0
    rw [if_neg (by omega), if_neg (by omega), if_neg (by omega), if_pos rfl, if_pos rfl]
  by_cases h1 : j < 241
  · rw [if_neg (by omega), if_neg (by omega), if_neg (by omega), if_neg h0, if_pos h1, if_neg h0, if_pos h1]
  by_cases h2 : j < 497
  · rw [if_neg (by omega), if_neg (by omega), if_neg h0, if_neg h1, if_pos h2, if_neg h0, if_neg h1, if_pos h2]
    by_cases e : j = 241 + n
    · subst e
      rw [if_pos rfl]
      simp only [yv, bxP, show 241 + n - 241 = n by omega, if_pos (show n < n + 1 by omega)]
    · rw [if_neg e]
      simp only [yv, bxP, show (j - 241 < n + 1) ↔ (j - 241 < n) by omega]
  by_cases h3 : j < 753
  · rw [if_neg (by omega), if_neg (show ¬ j = 241 + n by omega), if_neg h0, if_neg h1, if_neg h2, if_pos h3, if_neg h0, if_neg h1, if_neg h2, if_pos h3]
    by_cases e : j = 497 + (bxT n).toNat
    · subst e
      rw [if_pos rfl]
      simp only [yv, ubP, show 497 + (bxT n).toNat - 497 = (bxT n).toNat by omega, ub_bx n]
      rw [if_pos (by simp; omega), of8 n hn]
    · rw [if_neg e]
      have hne : (ubT (j - 497)).toNat ≠ n := fun h => e (by have := ub_eq n (j - 497) hn (by omega) h; omega)
      simp only [yv, ubP, show ((ubT (j - 497)).toNat < n + 1) ↔ ((ubT (j - 497)).toNat < n) by omega]
  · rw [if_neg (show ¬ j = 497 + (bxT n).toNat by omega), if_neg (show ¬ j = 241 + n by omega), if_neg h0, if_neg h1, if_neg h2, if_neg h3, if_neg h0, if_neg h1, if_neg h2, if_neg h3]
    by_cases e : j = 753 + n
    · subst e
      rw [if_pos rfl]
      simp only [yv, twP, show 753 + n - 753 = n by omega, if_pos (show n < n + 1 by omega)]
    · rw [if_neg e]
      simp only [yv, twP, show (j - 753 < n + 1) ↔ (j - 753 < n) by omega]
def FillAt (c r : Nat) (K : Nat → BitVec 8) (w : World) (n : Nat) (X : World) : Prop := CipherAt c r K (bxP n) (ubP n) (twP n) X ∧ Below c w X
theorem cv_end (r : Nat) (K : Nat → BitVec 8) (j : Nat) (hj : j < 1009) : cv r K (bxP 256) (ubP 256) (twP 256) j = cv r K bxT ubT twT j := by
  have hb := (ubT (j - 497)).isLt
  unfold cv
  by_cases h0 : j = 0
  · rw [if_pos h0, if_pos h0]
  by_cases h1 : j < 241
  · rw [if_neg h0, if_pos h1, if_neg h0, if_pos h1]
  by_cases h2 : j < 497
  · rw [if_neg h0, if_neg h1, if_pos h2, if_neg h0, if_neg h1, if_pos h2]
    simp only [yv, bxP, if_pos (show j - 241 < 256 by omega)]
  by_cases h3 : j < 753
  · rw [if_neg h0, if_neg h1, if_neg h2, if_pos h3, if_neg h0, if_neg h1, if_neg h2, if_pos h3]
    simp only [yv, ubP, if_pos (show (ubT (j - 497)).toNat < 256 by omega)]
  · rw [if_neg h0, if_neg h1, if_neg h2, if_neg h3, if_neg h0, if_neg h1, if_neg h2, if_neg h3]
    simp only [yv, twP, if_pos (show j - 753 < 256 by omega)]
end Go.Proofs.Ytkoodgfadedeoab
