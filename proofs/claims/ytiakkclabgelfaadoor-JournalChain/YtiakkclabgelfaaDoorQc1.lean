/-
  Short names. Rows of cells in a block of their own, told by a function on places: plain facts on worlds, no word of the program.
-/
import Derived.WalkKit
import Derived.Deep.MidRow
import Derived.Below
namespace Go.Proofs.YtiakkclabgelfaaDoor
open Go.RowKit Go.BigFrame
theorem zp0 (a : Act) (d : Tmp) (v : Value) : a.put (some d) v = { a with tmps := a.tmps.setIfInBounds d v } := rfl
theorem zp1 {α : Type} (l : List α) (i : Nat) (a : α) : l.toArray.setIfInBounds i a = (l.set i a).toArray := List.setIfInBounds_toArray ..
theorem zp2 {α : Type} (x a : α) (l : List α) : (x :: l).set 0 a = a :: l := rfl
theorem zp3 {α : Type} (x a : α) (l : List α) (n : Nat) : (x :: l).set (n + 1) a = x :: l.set n a := rfl
theorem zp4 {α : Type} (l : List α) (i : Nat) (h : i < l.toArray.size) : l.toArray[i] = l[i]'(by simpa using h) := List.getElem_toArray ..
theorem zp5 {α : Type} (a : α) (l : List α) (h : 0 < (a :: l).length) : (a :: l)[0] = a := rfl
theorem zp6 {α : Type} (a : α) (l : List α) (i : Nat) (h : i + 1 < (a :: l).length) : (a :: l)[i + 1] = l[i]'(Nat.lt_of_succ_lt_succ h) := rfl
end Go.Proofs.YtiakkclabgelfaaDoor
namespace Go.Proofs.YtiakkclabgelfaaDoor
open Go.RowKit
def row (n : Nat) (g : Nat → Value) : List Value := (List.range n).map g
theorem row_length (n : Nat) (g : Nat → Value) : (row n g).length = n := by simp [row]
theorem row_get (n : Nat) (g : Nat → Value) (j : Nat) (h : j < n) : (row n g)[j]? = some (g j) := by simp [row, h]
theorem row_some {n : Nat} {g : Nat → Value} {j : Nat} {v : Value} (h : (row n g)[j]? = some v) : j < n ∧ v = g j := by
  by_cases hj : j < n
  · rw [row_get n g j hj] at h; exact ⟨hj, (Option.some.inj h).symm⟩
  · rw [List.getElem?_eq_none (by rw [row_length]; omega)] at h; cases h
theorem row_ext {n : Nat} {g g' : Nat → Value} (h : ∀ j, j < n → g j = g' j) : row n g = row n g' := by
  apply List.map_congr_left
  intro j hj
  exact h j (by simpa using hj)
theorem row_one {n : Nat} {g : Nat → Value} (h : ∀ j, j < n → (g j).oneCell' = true) : (row n g).toArray.all (·.oneCell') = true :=
  all_oneCell_toArray (fun v hv => by
    obtain ⟨j, hj, rfl⟩ := List.mem_map.1 hv
    exact h j (by simpa using hj))
theorem row_size (n : Nat) (g : Nat → Value) : (row n g).toArray.size = n := by simp [row_length]
def RowAt (b n : Nat) (g : Nat → Value) (w : World) : Prop :=
  (∀ j, j < n → w.cell? ⟨b, j, none⟩ = some (g j)) ∧ (∀ j, j < n → w.frozen? ⟨b, j, none⟩ = false) ∧ b < w.heap.size
theorem RowAt.range {b n : Nat} {g : Nat → Value} {w : World} (h : RowAt b n g w) : w.rangeAt b 0 (row n g) := fun j v hv => by
  obtain ⟨hj, rfl⟩ := row_some hv
  simpa using h.1 j hj
theorem RowAt.there {b n : Nat} {g : Nat → Value} {w : World} (h : RowAt b n g w) : w.there b 0 n := fun j hj => by
  have h1 := h.1 j hj
  have h2 := h.2.1 j hj
  simp [h1, h2]
theorem RowAt.carry {b n : Nat} {g : Nat → Value} {X w' : World} (h : RowAt b n g X) (hB : Below X.heap.size X w') : RowAt b n g w' :=
  ⟨fun j hj => (hB.cell (p := ⟨b, j, none⟩) h.2.2).trans (h.1 j hj), fun j hj => (hB.frozen (p := ⟨b, j, none⟩) h.2.2).trans (h.2.1 j hj), Nat.lt_of_lt_of_le h.2.2 hB.size⟩
theorem RowAt.drew {b n : Nat} {g : Nat → Value} {w : World} (h : RowAt b n g w) : RowAt b n g w.drew := h
theorem RowAt.other {b n : Nat} {g : Nat → Value} {w : World} (h : RowAt b n g w) (p : Addr) (v : Value) (hp : p.block ≠ b) : RowAt b n g (w.setCell p v) :=
  ⟨fun j hj => by rw [World.cell?_setCell_other _ _ _ _ (fun e => hp (by rw [e]))]; exact h.1 j hj, fun j hj => by rw [World.frozen?_setCell]; exact h.2.1 j hj, by rw [World.size_setCell]; exact h.2.2⟩
theorem RowAt.set {b n : Nat} {g : Nat → Value} {w : World} (h : RowAt b n g w) (i : Nat) (v : Value) : RowAt b n (fun j => if j = i then v else g j) (w.setCell ⟨b, i, none⟩ v) :=
  ⟨fun j hj => by
    by_cases e : j = i
    · subst e
      rw [World.cell?_setCell_same _ _ _ (h.1 j hj)]; simp
    · rw [World.cell?_setCell_other _ _ _ _ (by intro h2; injection h2 with _ h3 _; exact e h3.symm), h.1 j hj]; simp [e],
   fun j hj => by rw [World.frozen?_setCell]; exact h.2.1 j hj, by rw [World.size_setCell]; exact h.2.2⟩
theorem RowAt.congr {b n : Nat} {g g' : Nat → Value} {w : World} (h : RowAt b n g w) (e : ∀ j, j < n → g j = g' j) : RowAt b n g' w :=
  ⟨fun j hj => by rw [← e j hj]; exact h.1 j hj, h.2⟩
theorem RowAt.alloc {b n : Nat} {g : Nat → Value} {w : World} (h : RowAt b n g w) (o : Obj) : RowAt b n g (w.alloc o) :=
  ⟨fun j hj => by rw [World.cell?_alloc_lt _ _ _ (by exact h.2.2)]; exact h.1 j hj, fun j hj => by
    have := (Below.refl w.heap.size w).alloc (Nat.le_refl _) o
    rw [this.frozen (p := ⟨b, j, none⟩) h.2.2]; exact h.2.1 j hj, by simp; have := h.2.2; omega⟩
theorem RowAt.new (w : World) (n : Nat) (g : Nat → Value) (t : TypeId) : RowAt w.heap.size n g (w.alloc (.cells (row n g).toArray t)) :=
  ⟨fun j hj => by rw [World.cell?_alloc_new]; simp [row_get n g j hj], fun j _ => by simp [go_sem], by simp⟩
theorem RowAt.newOf (w : World) (n : Nat) (g : Nat → Value) (t : TypeId) (C : Array Value) (hC : ∀ j, j < n → C[j]? = some (g j)) : RowAt w.heap.size n g (w.alloc (.cells C t)) :=
  ⟨fun j hj => by rw [World.cell?_alloc_new]; exact hC j hj, fun j _ => by simp [go_sem], by simp⟩
theorem size_setCells (b : Nat) : ∀ (vs : List Value) (o : Nat) (w : World), (w.setCells b o vs).heap.size = w.heap.size
  | [], _, _ => rfl
  | v :: r, o, w => by rw [World.setCells, size_setCells b r (o + 1)]; simp
theorem below_setCells {B : Nat} {w : World} (b : Nat) (hb : B ≤ b) : ∀ (vs : List Value) (o : Nat) (X : World), Below B w X → Below B w (X.setCells b o vs)
  | [], _, _, h => h
  | v :: r, o, X, h => by rw [World.setCells]; exact below_setCells b hb r (o + 1) _ (h.setCell hb _)
theorem RowAt.cellsOther {b n c : Nat} {g : Nat → Value} {w : World} (h : RowAt b n g w) (hc : c ≠ b) (vs : List Value) (o : Nat) : RowAt b n g (w.setCells c o vs) :=
  ⟨fun j hj => by rw [World.cell?_setCells_out c vs o w ⟨b, j, none⟩ (fun e => absurd e.symm hc)]; exact h.1 j hj, fun j hj => by rw [World.frozen?_setCells]; exact h.2.1 j hj, by rw [size_setCells]; exact h.2.2⟩
theorem RowAt.cells {b n : Nat} {g g' : Nat → Value} {w : World} (h : RowAt b n g w) : RowAt b n g' (w.setCells b 0 (row n g')) := by
  have ht : w.there b 0 (row n g').length := by rw [row_length]; exact h.there
  refine ⟨fun j hj => ?_, fun j hj => ?_, ?_⟩
  · have := World.rangeAt_setCells_same w b 0 (row n g') ht j (g' j) (row_get n g' j hj)
    simpa using this
  · rw [World.frozen?_setCells]; exact h.2.1 j hj
  · rw [size_setCells]; exact h.2.2
end Go.Proofs.YtiakkclabgelfaaDoor
