/-
  What Times answers: for every two tweaks, in every world, of which nothing that was there turns.
-/
import Derived.Test.YtkoodgfadedeoabLives
namespace Go.Proofs.Ytkoodgfadedeoab
open Go.RowKit
def tT (a b : BitVec 128) : BitVec 128 := tK 135#128 a b 128
/-- a block that holds a tweak and may be written -/
def HalfAt (b : Nat) (x : BitVec 128) (wr : World) : Prop :=
  wr.cell? ⟨b, 0, none⟩ = some (.int .u64 ((lo x).toNat : Int)) ∧ wr.cell? ⟨b, 1, none⟩ = some (.int .u64 ((hi x).toNat : Int)) ∧ wr.frozen? ⟨b, 0, none⟩ = false ∧ wr.frozen? ⟨b, 1, none⟩ = false
theorem HalfAt.carry {b : Nat} {x : BitVec 128} {X w' : World} (h : HalfAt b x X) (hB : Below X.heap.size X w') (hb : b < X.heap.size) : HalfAt b x w' :=
  ⟨(hB.cell (p := ⟨b, 0, none⟩) hb).trans h.1, (hB.cell (p := ⟨b, 1, none⟩) hb).trans h.2.1, (hB.frozen (p := ⟨b, 0, none⟩) hb).trans h.2.2.1, (hB.frozen (p := ⟨b, 1, none⟩) hb).trans h.2.2.2⟩
theorem HalfAt.other {b c : Nat} {x : BitVec 128} {X : World} (h : HalfAt b x X) (o : Nat) (v : Value) (hb : b ≠ c) : HalfAt b x (X.setCell ⟨c, o, none⟩ v) := by
  obtain ⟨h1, h2, h3, h4⟩ := h
  refine ⟨?_, ?_, ?_, ?_⟩
  all_goals simp [go_sem, h1, h2, h3, h4]
theorem HalfAt.set {b : Nat} {x : BitVec 128} (y : BitVec 128) {X : World} (h : HalfAt b x X) : HalfAt b y ((X.setCell ⟨b, 0, none⟩ (.int .u64 ((lo y).toNat : Int))).setCell ⟨b, 1, none⟩ (.int .u64 ((hi y).toNat : Int))) := by
  obtain ⟨h1, h2, h3, h4⟩ := h
  refine ⟨?_, ?_, ?_, ?_⟩
  all_goals simp [go_sem, h1, h2, h3, h4]
/-- where Times stands: a doubled so often, the sum so far -/
def TimesAt (B : Nat) (w : World) (x s : BitVec 128) (wr : World) : Prop :=
  HalfAt B x wr ∧ HalfAt (B + 1 + 1 + 1) s wr ∧ HalfAt (B + 1 + 1) 0#128 wr ∧ Below B w wr ∧ B + 4 ≤ wr.heap.size
theorem TimesAt.carry {B : Nat} {w X w' : World} {x s : BitVec 128} (h : TimesAt B w x s X) (hB : Below X.heap.size X w') : TimesAt B w x s w' := by
  obtain ⟨h1, h2, h3, h4, h5⟩ := h
  exact ⟨h1.carry hB (by omega), h2.carry hB (by omega), h3.carry hB (by omega), h4.trans (hB.mono (by omega)), Nat.le_trans h5 hB.size⟩
theorem TimesAt.setX {B : Nat} {w X : World} {x s : BitVec 128} (y : BitVec 128) (h : TimesAt B w x s X) : TimesAt B w y s ((X.setCell ⟨B, 0, none⟩ (.int .u64 ((lo y).toNat : Int))).setCell ⟨B, 1, none⟩ (.int .u64 ((hi y).toNat : Int))) := by
  obtain ⟨h1, h2, h3, h4, h5⟩ := h
  exact ⟨h1.set y, (h2.other _ _ (by omega)).other _ _ (by omega), (h3.other _ _ (by omega)).other _ _ (by omega), (h4.setCell (by simp) _).setCell (by simp) _, by simpa using h5⟩
theorem TimesAt.setS {B : Nat} {w X : World} {x s : BitVec 128} (y : BitVec 128) (h : TimesAt B w x s X) : TimesAt B w x y ((X.setCell ⟨B + 1 + 1 + 1, 0, none⟩ (.int .u64 ((lo y).toNat : Int))).setCell ⟨B + 1 + 1 + 1, 1, none⟩ (.int .u64 ((hi y).toNat : Int))) := by
  obtain ⟨h1, h2, h3, h4, h5⟩ := h
  exact ⟨(h1.other _ _ (by omega)).other _ _ (by omega), h2.set y, (h3.other _ _ (by omega)).other _ _ (by omega), (h4.setCell (by simp; omega) _).setCell (by simp; omega) _, by simpa using h5⟩
def xT (a b : BitVec 128) : BitVec 128 := a ^^^ b
theorem lo_xT (a b : BitVec 128) : bits .xor .u64 ((lo a).toNat : Int) ((lo b).toNat : Int) = ((lo (xT a b)).toNat : Int) := by
  rw [xor64, ← lo_xor]; rfl
theorem hi_xT (a b : BitVec 128) : bits .xor .u64 ((hi a).toNat : Int) ((hi b).toNat : Int) = ((hi (xT a b)).toNat : Int) := by
  rw [xor64, ← hi_xor]; rfl
end Go.Proofs.Ytkoodgfadedeoab
