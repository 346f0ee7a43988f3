/-
  What Times answers: for every two tweaks, in every world, of which nothing that was there turns. What the document's Bits and FromBits answer: for every tweak, for every row of 128 bits, in every world, of which nothing that was there turns.
-/
import Derived.Test.YtgjabfjkokpkiaaDoorQ26
import Derived.Test.YtgjabfjkokpkiaaDoorQ1
namespace Go.Proofs.YtgjabfjkokpkiaaDoor
set_option maxRecDepth 20000
open Go.RowKit
def HalfAt (b : Nat) (x : BitVec 128) (wr : World) : Prop :=
  wr.cell? ⟨b, 0, none⟩ = some (.int .u64 ((lo x).toNat : Int)) ∧ wr.cell? ⟨b, 1, none⟩ = some (.int .u64 ((hi x).toNat : Int)) ∧ wr.frozen? ⟨b, 0, none⟩ = false ∧ wr.frozen? ⟨b, 1, none⟩ = false
theorem HalfAt.carry {b : Nat} {x : BitVec 128} {X w' : World} (h : HalfAt b x X) (hB : Below X.heap.size X w') (hb : b < X.heap.size) : HalfAt b x w' :=
  ⟨(hB.cell (p := ⟨b, 0, none⟩) hb).trans h.1, (hB.cell (p := ⟨b, 1, none⟩) hb).trans h.2.1, (hB.frozen (p := ⟨b, 0, none⟩) hb).trans h.2.2.1, (hB.frozen (p := ⟨b, 1, none⟩) hb).trans h.2.2.2⟩
theorem HalfAt.other {b c : Nat} {x : BitVec 128} {X : World} (h : HalfAt b x X) (o : Nat) (v : Value) (hb : b ≠ c) : HalfAt b x (X.setCell ⟨c, o, none⟩ v) := by
  obtain ⟨h1, h2, h3, h4⟩ := h
  refine ⟨?_, ?_, ?_, ?_⟩
  all_goals simp [go_sem, h1, h2, h3, h4]
theorem HalfAt.set {b : Nat} {x : BitVec 128} (y : BitVec 128) {X : World} (h : HalfAt b x X) : HalfAt b y ((X.setCell ⟨b, 0, none⟩ (.int .u64 ((lo y).toNat : Int))).setCell ⟨b, 1, none⟩ (.int .u64 ((hi y).toNat : Int))) := by
  obtain ⟨h1, h2, h3, h4⟩ := h
  refine ⟨?_, ?_, ?_, ?_⟩
  all_goals simp [go_sem, h1, h2, h3, h4]
def TimesAt (B : Nat) (w : World) (x s : BitVec 128) (wr : World) : Prop :=
  HalfAt B x wr ∧ HalfAt (B + 1 + 1 + 1) s wr ∧ HalfAt (B + 1 + 1) 0#128 wr ∧ Below B w wr ∧ B + 4 ≤ wr.heap.size
theorem TimesAt.carry {B : Nat} {w X w' : World} {x s : BitVec 128} (h : TimesAt B w x s X) (hB : Below X.heap.size X w') : TimesAt B w x s w' := by
  obtain ⟨h1, h2, h3, h4, h5⟩ := h
  exact ⟨h1.carry hB (by omega), h2.carry hB (by omega), h3.carry hB (by omega), h4.trans (hB.mono (by omega)), Nat.le_trans h5 hB.size⟩
theorem TimesAt.setS {B : Nat} {w X : World} {x s : BitVec 128} (y : BitVec 128) (h : TimesAt B w x s X) : TimesAt B w x y ((X.setCell ⟨B + 1 + 1 + 1, 0, none⟩ (.int .u64 ((lo y).toNat : Int))).setCell ⟨B + 1 + 1 + 1, 1, none⟩ (.int .u64 ((hi y).toNat : Int))) := by
  obtain ⟨h1, h2, h3, h4, h5⟩ := h
  exact ⟨(h1.other _ _ (by omega)).other _ _ (by omega), h2.set y, (h3.other _ _ (by omega)).other _ _ (by omega), (h4.setCell (by simp; omega) _).setCell (by simp; omega) _, by simpa using h5⟩
end Go.Proofs.YtgjabfjkokpkiaaDoor
namespace Go.Proofs.YtgjabfjkokpkiaaDoor
set_option maxRecDepth 20000
open Go.RowKit
def bv (f : Nat → Bool) : Nat → Value := fun j => .bool (f j)
def tb (x : BitVec 128) (j : Nat) : Bool := x.getLsbD j
def BitsAt (B : Nat) (w : World) (x : BitVec 128) (k : Nat) (wr : World) : Prop :=
  HalfAt B x wr ∧ RowAt (B + 1) 128 (bv fun _ => false) wr ∧ RowAt (B + 1 + 1) 128 (bv fun j => decide (j < k ∨ (64 ≤ j ∧ j < 64 + k)) && tb x j) wr ∧ Below B w wr
theorem BitsAt.step {B : Nat} {w wr : World} {x : BitVec 128} {k : Nat} (hk : k < 64) (h : BitsAt B w x k wr) :
    BitsAt B w x (k + 1) ((wr.setCell ⟨B + 1 + 1, k, none⟩ (.bool (tb x k))).setCell ⟨B + 1 + 1, 64 + k, none⟩ (.bool (tb x (64 + k)))) := by
  obtain ⟨h1, h2, h3, h4⟩ := h
  refine ⟨(h1.other _ _ (by omega)).other _ _ (by omega), (h2.other _ _ (by simp)).other _ _ (by simp), ((h3.set k _).set (64 + k) _).congr ?_, (h4.setCell (by simp; omega) _).setCell (by simp; omega) _⟩
  intro j hj
  by_cases e1 : j = 64 + k
  · subst e1
    have : decide (64 + k < k + 1 ∨ 64 ≤ 64 + k ∧ 64 + k < 64 + (k + 1)) = true := by simp
    simp only [bv, this]; simp
  · by_cases e2 : j = k
    · subst e2
      have : decide (j < j + 1 ∨ 64 ≤ j ∧ j < 64 + (j + 1)) = true := by simp
      simp only [bv, this]; simp
    · have : decide (j < k + 1 ∨ 64 ≤ j ∧ j < 64 + (k + 1)) = decide (j < k ∨ 64 ≤ j ∧ j < 64 + k) := by
        rw [decide_eq_decide]; omega
      simp only [bv, this]; simp [e1, e2]
end Go.Proofs.YtgjabfjkokpkiaaDoor
