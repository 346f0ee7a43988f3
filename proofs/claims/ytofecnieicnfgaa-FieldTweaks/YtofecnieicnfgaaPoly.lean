/-
  Plain mathematics of the document's Times: a polynomial of 256 bits, what it is in the field, and what its steps leave it.
-/
import Derived.Test.YtofecnieicnfgaaBits
namespace Go.Proofs.Ytofecnieicnfgaa
open Go.RowKit
def pb (p : BitVec 256) (j : Nat) : Bool := p.getLsbD j
/-- what a polynomial is in the field -/
def ew (p : BitVec 256) : BitVec 128 := tK 135#128 1#128 p 256
def fl (p : BitVec 256) (j : Nat) : BitVec 256 := p ^^^ BitVec.twoPow 256 j
theorem ew_fl (p : BitVec 256) (j : Nat) (hj : j < 256) : ew (fl p j) = ew p ^^^ dK 135#128 j 1#128 := by
  unfold ew fl
  rw [tK_add_right, tK_twoPow _ _ _ _ hj, if_pos hj]
theorem pb_fl (p : BitVec 256) (i j : Nat) (hi : i < 256) : pb (fl p i) j = if j = i then !pb p i else pb p j := by
  unfold pb fl
  rw [BitVec.getLsbD_xor, BitVec.getLsbD_twoPow]
  by_cases e : j = i
  · subst e; simp [hi]
  · have e2 : ¬ i = j := fun h => e h.symm
    simp [e, e2]
theorem fl_set (p : BitVec 256) (i : Nat) (hi : i < 256) (v : Bool) (hv : v = !pb p i) : ∀ j, (if j = i then Value.bool v else bv (pb p) j) = bv (pb (fl p i)) j := by
  intro j
  simp only [bv]
  rw [pb_fl p i j hi]
  by_cases e : j = i
  · subst e; simp [hv]
  · simp [e]
/-- the sum behind so many rounds of both loops -/
def sumK (a b : BitVec 128) (i k : Nat) : BitVec 128 := tK 135#128 b a i ^^^ (if tb a i then dK 135#128 i (tK 135#128 1#128 b k) else 0#128)
theorem sumK_start (a b : BitVec 128) (i : Nat) : sumK a b i 0 = tK 135#128 b a i := by
  unfold sumK
  simp only [tK]
  rw [dK_zero]
  split <;> simp
theorem sumK_flip (a b : BitVec 128) (i k : Nat) (h1 : tb a i = true) (h2 : tb b k = true) : sumK a b i (k + 1) = sumK a b i k ^^^ dK 135#128 (i + k) 1#128 := by
  unfold sumK
  have h3 : b.getLsbD k = true := h2
  simp only [h1, tK, h3, if_true]
  rw [dK_add, dK_dK, BitVec.xor_assoc]
theorem sumK_stay (a b : BitVec 128) (i k : Nat) (h : (tb a i && tb b k) = false) : sumK a b i (k + 1) = sumK a b i k := by
  unfold sumK
  rcases h1 : tb a i with _ | _
  · simp
  · rw [h1] at h
    have h3 : b.getLsbD k = false := by
      have h4 : tb b k = false := by simpa using h
      exact h4
    simp [tK, h3]
theorem sumK_end (a b : BitVec 128) (i : Nat) : sumK a b i 128 = tK 135#128 b a (i + 1) := by
  unfold sumK
  rw [tK_one]
  simp only [tK]
  show _ = if tb a i = true then _ else _
  cases tb a i <;> simp
theorem dK128 : dK 135#128 128 1#128 = 135#128 := by
  show dX 135#128 (dK 135#128 127 1#128) = _
  rw [dK_one _ 127 (by decide)]
  decide +kernel
theorem rest135 : (135#128) = dK 135#128 0 1#128 ^^^ dK 135#128 1 1#128 ^^^ dK 135#128 2 1#128 ^^^ dK 135#128 7 1#128 := by decide +kernel
/-- a power that has run over, and what stands in its place -/
theorem over_is (i : Nat) (hi : 128 ≤ i) : dK 135#128 i 1#128 = dK 135#128 (i - 128) 1#128 ^^^ dK 135#128 (i - 127) 1#128 ^^^ dK 135#128 (i - 126) 1#128 ^^^ dK 135#128 (i - 121) 1#128 := by
  have e : dK 135#128 i 1#128 = dK 135#128 (i - 128) (dK 135#128 128 1#128) := by rw [dK_dK]; congr 1; omega
  have e2 := dK128.trans rest135
  rw [e, e2, dK_add, dK_add, dK_add, dK_dK, dK_dK, dK_dK, dK_dK]
  rw [show i - 128 + 0 = i - 128 from by omega, show i - 128 + 1 = i - 127 from by omega, show i - 128 + 2 = i - 126 from by omega, show i - 128 + 7 = i - 121 from by omega]
def rdP (p : BitVec 256) (i : Nat) : BitVec 256 := fl (fl (fl (fl (fl p i) (i - 128)) (i - 127)) (i - 126)) (i - 121)
theorem x5 {n : Nat} (e a b c d : BitVec n) : ((((e ^^^ (a ^^^ b ^^^ c ^^^ d)) ^^^ a) ^^^ b) ^^^ c) ^^^ d = e := by
  ext i; simp; cases e[i] <;> cases a[i] <;> cases b[i] <;> cases c[i] <;> cases d[i] <;> rfl
theorem ew_rdP (p : BitVec 256) (i : Nat) (h1 : 128 ≤ i) (h2 : i < 256) : ew (rdP p i) = ew p := by
  unfold rdP
  rw [ew_fl _ _ (by omega), ew_fl _ _ (by omega), ew_fl _ _ (by omega), ew_fl _ _ (by omega), ew_fl _ _ h2, over_is i h1, x5]
theorem pb_rdP (p : BitVec 256) (i : Nat) (h1 : 128 ≤ i) (h2 : i < 256) (h3 : pb p i = true) (j : Nat) (hj : i ≤ j) (hp : i < j → pb p j = false) : pb (rdP p i) j = false := by
  unfold rdP
  rw [pb_fl _ _ _ (by omega), if_neg (by omega), pb_fl _ _ _ (by omega), if_neg (by omega), pb_fl _ _ _ (by omega), if_neg (by omega), pb_fl _ _ _ (by omega), if_neg (by omega), pb_fl _ _ _ h2]
  by_cases e : j = i
  · subst e; simp [h3]
  · rw [if_neg e]; exact hp (by omega)
theorem tK_low {r : BitVec 128} (p : BitVec 256) (k : Nat) (hk : 128 ≤ k) (h : ∀ j, 128 ≤ j → pb p j = false) : tK r 1#128 p k = tK r 1#128 p 128 := by
  induction k with
  | zero => omega
  | succ k ih =>
    by_cases e : k + 1 = 128
    · rw [e]
    · have h1 : p.getLsbD k = false := h k (by omega)
      show (if p.getLsbD k = true then tK r 1#128 p k ^^^ dK r k 1#128 else tK r 1#128 p k) = _
      rw [h1, if_neg Bool.false_ne_true]
      exact ih (by omega)
theorem ew_low (p : BitVec 256) (h : ∀ j, 128 ≤ j → pb p j = false) (j : Nat) (hj : j < 128) : tb (ew p) j = pb p j := by
  unfold ew tb pb
  rw [tK_low p 256 (by omega) h, tK_one_bit _ _ _ (Nat.le_refl _)]
  simp [hj]
theorem tT_eq (a b : BitVec 128) : tK 135#128 b a 128 = tT a b := tK_comm _ _ _
end Go.Proofs.Ytofecnieicnfgaa
