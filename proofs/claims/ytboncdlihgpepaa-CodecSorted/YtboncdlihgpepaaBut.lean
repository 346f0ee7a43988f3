/-
  Worlds in which nothing turned of what was there, but one block; plain facts, no word of the program.
-/
import Derived.Test.YtboncdlihgpepaaMild
import Derived.Laws.AppendOwn
namespace Go.Proofs.Ytboncdlihgpepaa
open Go.RowKit
/-- all that lay in w lies in w' as it was, but what block c holds -/
def But (c : Nat) (w w' : World) : Prop := w.grownBy w' (some c)
theorem But.refl (c : Nat) (w : World) : But c w w := ⟨rfl, rfl, rfl, Nat.le_refl _, fun _ _ _ => rfl⟩
theorem But.trans {c : Nat} {a b d : World} (h : But c a b) (k : But c b d) : But c a d :=
  ⟨k.os.trans h.os, k.tape.trans h.tape, k.output.trans h.output, Nat.le_trans h.size k.size, fun i hi hn => (k.block i (Nat.lt_of_lt_of_le hi h.size) hn).trans (h.block i hi hn)⟩
theorem But.of_ext {c : Nat} {w w' : World} (h : Ext w w') : But c w w' := ⟨Below.os h, Below.tape h, Below.output h, Below.size h, fun i hi _ => Below.block h i hi⟩
theorem But.drew {c : Nat} {w w' : World} (h : But c w w') : But c w w'.drew := h.trans (But.of_ext (Ext.refl w').draw)
theorem But.ext {c : Nat} {w X Y : World} (h : But c w X) (k : Ext X Y) : But c w Y := h.trans (But.of_ext k)
theorem but_setCell (w : World) (c i : Nat) (v : Value) : But c w (w.setCell ⟨c, i, none⟩ v) := by
  have h := (Below.refl 0 w).setCell (p := ⟨c, i, none⟩) (Nat.zero_le _) v
  refine ⟨h.os, h.tape, h.output, h.size, fun k hk hn => ?_⟩
  have h2 : ∀ B, B ≤ c → Below B w (w.setCell ⟨c, i, none⟩ v) := fun B hB => (Below.refl B w).setCell (p := ⟨c, i, none⟩) hB v
  by_cases hkc : k < c
  · exact (h2 c (Nat.le_refl _)).block k hkc
  · have hne : k ≠ c := fun e => hn (by rw [e])
    simp only [World.setCell]
    rw [Array.getElem?_modify]
    simp [Ne.symm hne]
theorem But.set {c : Nat} {w X : World} (h : But c w X) (i : Nat) (v : Value) : But c w (X.setCell ⟨c, i, none⟩ v) := h.trans (but_setCell X c i v)
theorem But.sets {c : Nat} {w : World} : ∀ (vs : List Value) (o : Nat) (X : World), But c w X → But c w (X.setCells c o vs)
  | [], _, _, h => h
  | v :: r, o, X, h => by rw [World.setCells]; exact But.sets r (o + 1) _ (h.set o v)
theorem RowAt.but {b n c : Nat} {g : Nat → Value} {w w' : World} (h : RowAt b n g w) (k : But c w w') (hne : b ≠ c) : RowAt b n g w' :=
  ⟨fun j hj => (World.cell?_of_block (a := ⟨b, j, none⟩) (k.block b h.2.2 (by simpa using hne))).trans (h.1 j hj), fun j hj => (World.frozen?_of_block (a := ⟨b, j, none⟩) (k.block b h.2.2 (by simpa using hne))).trans (h.2.1 j hj), Nat.lt_of_lt_of_le h.2.2 k.size⟩
theorem But.below {B c : Nat} {w w' : World} (h : But c w w') (hc : B ≤ c) (hB : B ≤ w.heap.size) : Below B w w' :=
  ⟨h.os, h.tape, h.output, h.size, fun k hk => h.block k (by omega) (by simp; omega)⟩
theorem But.fresh {c : Nat} {w w' : World} (h : But c w w') (hc : w.heap.size ≤ c) : Ext w w' := h.below hc (Nat.le_refl _)
/-- what came behind w, with one block of it turned -/
theorem Ext.but {c : Nat} {w X Y : World} (h : Ext w X) (k : But c X Y) (hc : w.heap.size ≤ c) : Ext w Y := Below.trans h (k.below hc (Below.size h))
theorem Below.but {B c : Nat} {w X Y : World} (h : Below B w X) (k : But c X Y) (hc : B ≤ c) (hB : B ≤ X.heap.size) : Below B w Y := Below.trans h (k.below hc hB)
theorem But.cell {c : Nat} {w w' : World} (h : But c w w') (a : Addr) (hl : a.block < w.heap.size) (hne : a.block ≠ c) : w'.cell? a = w.cell? a := World.cell?_of_block (h.block a.block hl (by simpa using hne))
theorem But.frozen {c : Nat} {w w' : World} (h : But c w w') (a : Addr) (hl : a.block < w.heap.size) (hne : a.block ≠ c) : w'.frozen? a = w.frozen? a := World.frozen?_of_block (h.block a.block hl (by simpa using hne))
end Go.Proofs.Ytboncdlihgpepaa
