/-
  How slices of bytes that came in read.
-/
import Derived.Test.YtapmheocllicnaaDoorOpen
import Derived.Test.YtapmheocllicnaaDoorOwn
import Derived.SizedLaws
namespace Go.Proofs.YtapmheocllicnaaDoor
open Go.ChangeShapes Go.WideShapes Go.ChangeAt Go.RowKit
/-- bytes that came in -/
def BArg (v : Value) (W : World) : Prop := v = .slice none 0 0 ∨ ∃ a l cap b, v = .slice (some a) l cap ∧ l ≤ cap ∧ LieAt a l (yv b) W ∧ l ≤ 140737488351232
theorem has_lt {P : Program} {w : World} {r : Reach} {base n : Nat} {a : Addr} {e : TypeId} (h : w.has P r base a e n) : a.block < w.heap.size := by
  obtain ⟨_, _, row, cells, hs, _⟩ := h
  rcases Nat.lt_or_ge a.block w.heap.size with h1 | h1
  · exact h1
  · exfalso
    have h2 : w.heap[a.block]? = none := Array.getElem?_eq_none h1
    unfold World.shape? at hs
    rw [h2] at hs
    cases hs
theorem open_bytes {H : Type} {enc : TypeId × Value → H} {W : World} {r : Reach} {b0 base : Nat} {spare : Nat → Bool} {held : Bool} {v : Value} {d : DataW H} {p : List MemPlace}
    (hv : Value.okWide Tryd.prog W r b0 23 v) (h : DataW.Trod enc Tryd.prog W base spare held 23 v d p) : v = .slice none 0 0 ∨ ∃ a l cap b elems sp, v = .slice (some a) l cap ∧ l ≤ cap ∧ LieAt a l (yv b) W ∧ d = .slice elems sp ∧ elems.length = l := by
  obtain ⟨a, len, cap, rfl⟩ := okWide_slice Tryd.underlying23 hv
  obtain ⟨fuel, hf⟩ := h
  rcases open_ints Tryd.underlying23 Tryd.underlying5 (by kernel_rfl) hf with ⟨hcs, _⟩ | ⟨x, l, c, zs, hcs, _, hl, hm, hz, hd, hcell, hwz⟩
  · simp [Value.cells] at hcs
    obtain ⟨rfl, rfl, rfl⟩ := hcs
    exact .inl rfl
  · simp [Value.cells] at hcs
    obtain ⟨rfl, rfl, rfl⟩ := hcs
    have hlt : x.block < W.heap.size := by
      simp only [Value.okWide, Tryd.underlying23, Cell.okWide, Cell.ok] at hv
      exact has_lt hv.2.2
    have hlen : len ≤ zs.length := by rw [hz]; split <;> omega
    have hall : ∀ i, i < len → ∃ c : BitVec 8, zs.getD i 0 = (c.toNat : Int) := fun i hi => by
      refine of_wf8 (hwz _ ?_)
      rw [List.getD_eq_getElem?_getD, List.getElem?_eq_getElem (by omega), Option.getD_some]
      exact List.getElem_mem _
    refine .inr ⟨x, len, cap, fun i => if h : i < len then (hall i h).choose else 0#8, _, _, rfl, hl, ⟨fun j hj => ?_, hlt⟩, (Prod.mk.inj hd).1, by simp [lits]; omega⟩
    rw [hcell j (by omega)]
    simp only [yv, dif_pos hj]
    rw [← (hall j hj).choose_spec]
theorem bytes5 : Tryd.prog.bytesOf 5 = 1 := by kernel_rfl
/-- .. within the form's own reach -/
theorem barg {H : Type} {enc : TypeId × Value → H} {W : World} {r : Reach} {b0 base : Nat} {spare : Nat → Bool} {held : Bool} {v : Value} {d : DataW H} {p : List MemPlace} {ts : List TypeId} {ds : List (DataW H)}
    (hv : Value.okWide Tryd.prog W r b0 23 v) (h : DataW.Trod enc Tryd.prog W base spare held 23 v d p) (hsz : (DataW.weightsEach Tryd.prog ts ds).all (· ≤ reachBytes) = true) (j : Nat) (ht : ts[j]? = some 23) (hd : ds[j]? = some d) : BArg v W := by
  rcases open_bytes hv h with rfl | ⟨a, l, cap, b, elems, sp, rfl, hl, hb, rfl, he⟩
  · exact .inl rfl
  · have h1 := sized_slice hsz ht hd Tryd.underlying23
    rw [bytes5] at h1
    unfold reachBytes at h1
    exact .inr ⟨a, l, cap, b, rfl, hl, hb, by omega⟩
end Go.Proofs.YtapmheocllicnaaDoor
