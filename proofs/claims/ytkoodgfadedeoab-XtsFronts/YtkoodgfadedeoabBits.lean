/-
  What the document's Bits and FromBits answer: for every tweak, for every row of 128 bits, in every world, of which nothing that was there turns.
-/
import Derived.Test.YtkoodgfadedeoabTimes
import Derived.Test.YtkoodgfadedeoabRow
namespace Go.Proofs.Ytkoodgfadedeoab
open Go.RowKit
/-- a row of bits, as values -/
def bv (f : Nat → Bool) : Nat → Value := fun j => .bool (f j)
def Z128 : Array Value := (row 128 (bv fun _ => false)).toArray
/-- a bit -/
def tb (x : BitVec 128) (j : Nat) : Bool := x.getLsbD j
theorem tb_lo (x : BitVec 128) (k : Nat) (hk : k < 64) : ((((lo x).toNat : Int) / 2 ^ k).tmod 2 == 1) = tb x k := by
  rw [tmod_bit]; exact lo_bit x k hk
theorem tb_hi (x : BitVec 128) (k : Nat) (hk : k < 64) : ((((hi x).toNat : Int) / 2 ^ k).tmod 2 == 1) = tb x (64 + k) := by
  rw [tmod_bit]; exact hi_bit x k hk
def BitsAt (B : Nat) (w : World) (x : BitVec 128) (k : Nat) (wr : World) : Prop :=
  HalfAt B x wr ∧ RowAt (B + 1) 128 (bv fun _ => false) wr ∧ RowAt (B + 1 + 1) 128 (bv fun j => decide (j < k ∨ (64 ≤ j ∧ j < 64 + k)) && tb x j) wr ∧ Below B w wr
theorem BitsAt.step {B : Nat} {w wr : World} {x : BitVec 128} {k : Nat} (hk : k < 64) (h : BitsAt B w x k wr) :
    BitsAt B w x (k + 1) ((wr.setCell ⟨B + 1 + 1, k, none⟩ (.bool (tb x k))).setCell ⟨B + 1 + 1, 64 + k, none⟩ (.bool (tb x (64 + k)))) := by
  obtain ⟨h1, h2, h3, h4⟩ := h
  refine ⟨(h1.other _ _ (by omega)).other _ _ (by omega), (h2.other _ _ (by simp)).other _ _ (by simp), ((h3.set k _).set (64 + k) _).congr ?_, (h4.setCell (by simp; omega) _).setCell (by simp; omega) _⟩
  intro j hj
  by_cases e1 : j = 64 + k
  · subst e1
    have : decide (64 + k < k + 1 ∨ 64 ≤ 64 + k ∧ 64 + k < 64 + (k + 1)) = true := by simp
    simp only [bv, this]; simp
  · by_cases e2 : j = k
    · subst e2
      have : decide (j < j + 1 ∨ 64 ≤ j ∧ j < 64 + (j + 1)) = true := by simp
      simp only [bv, this]; simp
    · have : decide (j < k + 1 ∨ 64 ≤ j ∧ j < 64 + (k + 1)) = decide (j < k ∨ 64 ≤ j ∧ j < 64 + k) := by
        rw [decide_eq_decide]; omega
      simp only [bv, this]; simp [e1, e2]
theorem Z128_get (j : Nat) (hj : j < 128) (f : Nat → Bool) (hf : f j = false) : Z128[j]? = some (bv f j) := by
  unfold Z128
  rw [List.getElem?_toArray, row_get 128 _ j hj]
  simp [bv, hf]
/-- the word whose first k bits are f's -/
def bwK (f : Nat → Bool) : Nat → BitVec 64
  | 0 => 0#64
  | k + 1 => if f k then bwK f k ||| BitVec.twoPow 64 k else bwK f k
theorem bwK_bit (f : Nat → Bool) (k : Nat) (hk : k ≤ 64) (j : Nat) : (bwK f k).getLsbD j = (decide (j < k) && f j) := by
  induction k with
  | zero => simp [bwK]
  | succ k ih =>
    simp only [bwK]
    split
    · rename_i h
      rw [BitVec.getLsbD_or, ih (by omega), BitVec.getLsbD_twoPow]
      by_cases e : j = k
      · subst e; simp [h]; omega
      · have e2 : ¬ k = j := fun h => e h.symm
        have e3 : decide (j < k + 1) = decide (j < k) := by rw [decide_eq_decide]; omega
        simp [e2, e3]
    · rename_i h
      rw [ih (by omega)]
      by_cases e : j = k
      · subst e; simp [h]
      · have e3 : decide (j < k + 1) = decide (j < k) := by rw [decide_eq_decide]; omega
        simp [e3]
/-- the element whose bits they are -/
def fbK (f : Nat → Bool) (k : Nat) : BitVec 128 := jn (bwK f k) (bwK (fun j => f (64 + j)) k)
def fb (f : Nat → Bool) : BitVec 128 := fbK f 64
theorem fb_tb (f : Nat → Bool) (j : Nat) (hj : j < 128) : tb (fb f) j = f j := by
  unfold tb fb fbK
  by_cases h : j < 64
  · rw [← lo_bit _ j h, lo_jn, bwK_bit _ _ (Nat.le_refl _)]; simp [h]
  · rw [show j = 64 + (j - 64) from by omega, ← hi_bit _ (j - 64) (by omega), hi_jn, bwK_bit _ _ (Nat.le_refl _)]
    have : j - 64 < 64 := by omega
    simp [this]
theorem fb_eq {f : Nat → Bool} {x : BitVec 128} (h : ∀ j, j < 128 → f j = tb x j) : fb f = x := by
  apply BitVec.eq_of_getLsbD_eq
  intro i hi
  rw [show (fb f).getLsbD i = tb (fb f) i from rfl, fb_tb f i hi, h i hi]; rfl
def FromAt (B : Nat) (w : World) (f : Nat → Bool) (k : Nat) (wr : World) : Prop :=
  RowAt B 128 (bv f) wr ∧ HalfAt (B + 1) 0#128 wr ∧ HalfAt (B + 1 + 1) (fbK f k) wr ∧ Below B w wr
theorem or64 (x : BitVec 64) (k : Nat) (hk : k < 64) : bits .or .u64 (x.toNat : Int) (IntKind.u64.wrap (2 ^ k)) = ((x ||| BitVec.twoPow 64 k).toNat : Int) := by
  have hp : 2 ^ k < 18446744073709551616 := Nat.pow_lt_pow_right (by decide) (show k < 64 from hk)
  have e : IntKind.u64.wrap (2 ^ k) = ((2 ^ k : Nat) : Int) := by
    rw [IntKind.wrap_u64, show ((2 : Int) ^ k) = ((2 ^ k : Nat) : Int) from by simp]
    exact Int.emod_eq_of_lt (Int.natCast_nonneg _) (Int.ofNat_lt.2 hp)
  rw [e, bits_or_u64_nat _ _ x.isLt hp, BitVec.toNat_or, BitVec.toNat_twoPow, Nat.mod_eq_of_lt (by omega)]
theorem fbK_lo (f : Nat → Bool) (k : Nat) : lo (fbK f k) = bwK f k := lo_jn _ _
theorem fbK_hi (f : Nat → Bool) (k : Nat) : hi (fbK f k) = bwK (fun j => f (64 + j)) k := hi_jn _ _
theorem or_lo (f : Nat → Bool) (k : Nat) (hk : k < 64) (h : f k = true) : bits .or .u64 ((lo (fbK f k)).toNat : Int) (IntKind.u64.wrap (2 ^ k)) = ((lo (fbK f (k + 1))).toNat : Int) := by
  rw [fbK_lo, fbK_lo, or64 _ k hk]; simp only [bwK, h, if_true]
theorem or_hi (f : Nat → Bool) (k : Nat) (hk : k < 64) (h : f (64 + k) = true) : bits .or .u64 ((hi (fbK f k)).toNat : Int) (IntKind.u64.wrap (2 ^ k)) = ((hi (fbK f (k + 1))).toNat : Int) := by
  rw [fbK_hi, fbK_hi, or64 _ k hk]; simp only [bwK, h, if_true]
theorem no_lo (f : Nat → Bool) (k : Nat) (h : f k = false) : lo (fbK f k) = lo (fbK f (k + 1)) := by
  rw [fbK_lo, fbK_lo]; simp [bwK, h]
theorem no_hi (f : Nat → Bool) (k : Nat) (h : f (64 + k) = false) : hi (fbK f k) = hi (fbK f (k + 1)) := by
  rw [fbK_hi, fbK_hi]; simp [bwK, h]
theorem HalfAt.setLo {b : Nat} {x y : BitVec 128} {X : World} (h : HalfAt b x X) (e : hi x = hi y) : HalfAt b y (X.setCell ⟨b, 0, none⟩ (.int .u64 ((lo y).toNat : Int))) := by
  obtain ⟨h1, h2, h3, h4⟩ := h
  refine ⟨?_, ?_, ?_, ?_⟩
  all_goals simp [go_sem, h1, h2, h3, h4, e]
theorem HalfAt.setHi {b : Nat} {x y : BitVec 128} {X : World} (h : HalfAt b x X) (e : lo x = lo y) : HalfAt b y (X.setCell ⟨b, 1, none⟩ (.int .u64 ((hi y).toNat : Int))) := by
  obtain ⟨h1, h2, h3, h4⟩ := h
  refine ⟨?_, ?_, ?_, ?_⟩
  all_goals simp [go_sem, h1, h2, h3, h4, e]
theorem HalfAt.same {b : Nat} {x y : BitVec 128} {X : World} (h : HalfAt b x X) (e1 : lo x = lo y) (e2 : hi x = hi y) : HalfAt b y X := by
  rw [half_ext e1 e2] at h; exact h
end Go.Proofs.Ytkoodgfadedeoab
