/-
  A region that draws its order, whose operations only read and whose calls leave all that matters as it is: one walk in the order of the text serves every order.
-/
import Derived.Test.YtofecnieicnfgabTimes
import Derived.BigQuiet
namespace Go.Proofs.Ytofecnieicnfgab
open Go.RowKit
/-- a block that holds a tweak -/
def Lies (b : Nat) (x : BitVec 128) (wr : World) : Prop :=
  wr.cell? ⟨b, 0, none⟩ = some (.int .u64 ((lo x).toNat : Int)) ∧ wr.cell? ⟨b, 1, none⟩ = some (.int .u64 ((hi x).toNat : Int)) ∧ b < wr.heap.size
theorem Lies.carry {b : Nat} {x : BitVec 128} {X w' : World} (h : Lies b x X) (hB : Below X.heap.size X w') : Lies b x w' :=
  ⟨(hB.cell (p := ⟨b, 0, none⟩) h.2.2).trans h.1, (hB.cell (p := ⟨b, 1, none⟩) h.2.2).trans h.2.1, Nat.lt_of_lt_of_le h.2.2 hB.size⟩
structure Kept (Ok : World → Prop) where
  w : World
  ok : Ok w
theorem wp_region_kept {P : Program} {id : Nat} {Q : Exit → Act → World → Prop} {a : Act} {w : World} {l : List Oper} {Ok : World → Prop} (hm : P.follows .mixedOrders = true) (hB : Region.lexB .any l.toArray = true) (h0 : Ok w.drew)
    (h : wpQuiet P l.toArray (fun w' => ∃ k : Kept Ok, w' = k.w) (fun a' => ∀ w', (∃ k : Kept Ok, w' = k.w) → Q .normal a' w') l a) : (Code.region id l.toArray true).wp P Q a w :=
  wp_region_quiet (C := fun w' => ∃ k : Kept Ok, w' = k.w) hm hB ⟨⟨_, h0⟩, rfl⟩ (by simpa using h)
/-- tweaks that lie in two blocks; below the first block all is as it was -/
def TwoOk (B m n : Nat) (w : World) (x y : BitVec 128) (u : World) : Prop := Lies m x u ∧ Lies n y u ∧ Below B w u ∧ B ≤ u.heap.size
theorem TwoOk.carry {B m n : Nat} {w : World} {x y : BitVec 128} {X u : World} (h : TwoOk B m n w x y X) (hb : Below X.heap.size X u) : TwoOk B m n w x y u :=
  ⟨h.1.carry hb, h.2.1.carry hb, h.2.2.1.trans (hb.mono h.2.2.2), Nat.le_trans h.2.2.2 hb.size⟩
theorem TwoOk.drew {B m n : Nat} {w : World} {x y : BitVec 128} {X : World} (h : TwoOk B m n w x y X) : TwoOk B m n w x y X.drew := h.carry ((Below.refl _ _).drew)
theorem HalfAt.lies {b : Nat} {x : BitVec 128} {X : World} (h : HalfAt b x X) (hb : b < X.heap.size) : Lies b x X := ⟨h.1, h.2.1, hb⟩
end Go.Proofs.Ytofecnieicnfgab
