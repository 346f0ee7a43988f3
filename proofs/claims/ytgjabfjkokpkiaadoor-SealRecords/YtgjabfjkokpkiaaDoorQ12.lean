/-
  How slices of bytes that came in read. The document's Block: the state behind a piece, for every state and piece, in every world, of which nothing that was there turns.
-/
import Derived.Test.YtgjabfjkokpkiaaDoorQ11
import Derived.SizedLaws
import Derived.Test.YtgjabfjkokpkiaaDoorQ4
import Derived.Test.YtgjabfjkokpkiaaDoorQ5
namespace Go.Proofs.YtgjabfjkokpkiaaDoor
set_option maxRecDepth 20000
open Go.ChangeShapes Go.WideShapes Go.ChangeAt Go.RowKit
def BArg (v : Value) (W : World) : Prop := v = .slice none 0 0 ∨ ∃ a l cap b, v = .slice (some a) l cap ∧ l ≤ cap ∧ LieAt a l (yv b) W ∧ l ≤ 140737488351232
theorem has_lt {P : Program} {w : World} {r : Reach} {base n : Nat} {a : Addr} {e : TypeId} (h : w.has P r base a e n) : a.block < w.heap.size := by
  obtain ⟨_, _, row, cells, hs, _⟩ := h
  rcases Nat.lt_or_ge a.block w.heap.size with h1 | h1
  · exact h1
  · exfalso
    have h2 : w.heap[a.block]? = none := Array.getElem?_eq_none h1
    unfold World.shape? at hs
    rw [h2] at hs
    cases hs
theorem open_bytes {H : Type} {enc : TypeId × Value → H} {W : World} {r : Reach} {b0 base : Nat} {spare : Nat → Bool} {held : Bool} {v : Value} {d : DataW H} {p : List MemPlace}
    (hv : Value.okWide Tryd.prog W r b0 22 v) (h : DataW.Trod enc Tryd.prog W base spare held 22 v d p) : v = .slice none 0 0 ∨ ∃ a l cap b elems sp, v = .slice (some a) l cap ∧ l ≤ cap ∧ LieAt a l (yv b) W ∧ d = .slice elems sp ∧ elems.length = l := by
  obtain ⟨a, len, cap, rfl⟩ := okWide_slice Tryd.underlying22 hv
  obtain ⟨fuel, hf⟩ := h
  rcases open_ints Tryd.underlying22 Tryd.underlying5 (by kernel_rfl) hf with ⟨hcs, _⟩ | ⟨x, l, c, zs, hcs, _, hl, hm, hz, hd, hcell, hwz⟩
  · simp [Value.cells] at hcs
    obtain ⟨rfl, rfl, rfl⟩ := hcs
    exact .inl rfl
  · simp [Value.cells] at hcs
    obtain ⟨rfl, rfl, rfl⟩ := hcs
    have hlt : x.block < W.heap.size := by
      simp only [Value.okWide, Tryd.underlying22, Cell.okWide, Cell.ok] at hv
      exact has_lt hv.2.2
    have hlen : len ≤ zs.length := by rw [hz]; split <;> omega
    have hall : ∀ i, i < len → ∃ c : BitVec 8, zs.getD i 0 = (c.toNat : Int) := fun i hi => by
      refine of_wf8 (hwz _ ?_)
      rw [List.getD_eq_getElem?_getD, List.getElem?_eq_getElem (by omega), Option.getD_some]
      exact List.getElem_mem _
    refine .inr ⟨x, len, cap, fun i => if h : i < len then (hall i h).choose else 0#8, _, _, rfl, hl, ⟨fun j hj => ?_, hlt⟩, (Prod.mk.inj hd).1, by simp [lits]; omega⟩
    rw [hcell j (by omega)]
    simp only [yv, dif_pos hj]
    rw [← (hall j hj).choose_spec]
theorem bytes5 : Tryd.prog.bytesOf 5 = 1 := by kernel_rfl
theorem barg {H : Type} {enc : TypeId × Value → H} {W : World} {r : Reach} {b0 base : Nat} {spare : Nat → Bool} {held : Bool} {v : Value} {d : DataW H} {p : List MemPlace} {ts : List TypeId} {ds : List (DataW H)}
    (hv : Value.okWide Tryd.prog W r b0 22 v) (h : DataW.Trod enc Tryd.prog W base spare held 22 v d p) (hsz : (DataW.weightsEach Tryd.prog ts ds).all (· ≤ reachBytes) = true) (j : Nat) (ht : ts[j]? = some 22) (hd : ds[j]? = some d) : BArg v W := by
  rcases open_bytes hv h with rfl | ⟨a, l, cap, b, elems, sp, rfl, hl, hb, rfl, he⟩
  · exact .inl rfl
  · have h1 := sized_slice hsz ht hd Tryd.underlying22
    rw [bytes5] at h1
    unfold reachBytes at h1
    exact .inr ⟨a, l, cap, b, rfl, hl, hb, by omega⟩
end Go.Proofs.YtgjabfjkokpkiaaDoor
namespace Go.Proofs.YtgjabfjkokpkiaaDoor
set_option maxRecDepth 20000
open Go.RowKit Go.BigFrame
def RBAt (B d : Nat) (w : World) (s : Nat → BitVec 32) (p : Nat → BitVec 8) (K W : Nat → BitVec 32) (X : World) : Prop :=
  RowAt B 8 (wv s) X ∧ RowAt (B + 1) 64 (yv p) X ∧ RowAt (B + 1 + 1) 8 (wv fun _ => 0#32) X ∧ RowAt d 64 (wv K) X ∧ RowAt (d + 1) 64 (wv W) X ∧ Below B w X ∧ B + 3 ≤ d
section
variable {B d : Nat} {w X Y : World} {s K W : Nat → BitVec 32} {p : Nat → BitVec 8}
theorem RBAt.ext (h : RBAt B d w s p K W X) (k : Ext X Y) : RBAt B d w s p K W Y :=
  ⟨h.1.carry k, h.2.1.carry k, h.2.2.1.carry k, h.2.2.2.1.carry k, h.2.2.2.2.1.carry k, Ext.below h.2.2.2.2.2.1 (Nat.le_of_lt h.1.2.2) k, h.2.2.2.2.2.2⟩
theorem RBAt.drew (h : RBAt B d w s p K W X) : RBAt B d w s p K W X.drew := h.ext (Ext.refl X).draw
theorem RBAt.set (h : RBAt B d w s p K W X) (i : Nat) (v : BitVec 32) (W' : Nat → BitVec 32) (hg : ∀ j, j < 64 → W' j = if j = i then v else W j) :
    RBAt B d w s p K W' (X.setCell ⟨d + 1, i, none⟩ (.int .u32 (v.toNat : Int))) := by
  obtain ⟨h1, h2, h3, h4, h5, h6, h7⟩ := h
  refine ⟨h1.other _ _ (by simp; omega), h2.other _ _ (by simp; omega), h3.other _ _ (by simp; omega), h4.other _ _ (by simp), (h5.set i _).congr fun j hj => ?_, h6.setCell (by simp; omega) _, h7⟩
  simp only [wv, hg j hj]
  by_cases e : j = i <;> simp [e]
end
end Go.Proofs.YtgjabfjkokpkiaaDoor
