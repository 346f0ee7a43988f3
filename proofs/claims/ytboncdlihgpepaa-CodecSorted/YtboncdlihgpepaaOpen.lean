/-
  How slices of bytes that came in read.
-/
import Derived.Test.YtboncdlihgpepaaBV
import Derived.ProofKit
import Derived.OpenShut
import Derived.SizedLaws
import Derived.Lib.SmallJoins
namespace Go.Proofs.Ytboncdlihgpepaa
open Go.ChangeShapes Go.WideShapes Go.ChangeAt Go.RowKit
theorem of_wf8 {n : Int} (h : (Lit.int .u8 n).wf = true) : ∃ a : BitVec 8, n = (a.toNat : Int) := by
  have hb := bounds_u8 h
  exact ⟨BitVec.ofNat 8 n.toNat, by rw [BitVec.toNat_ofNat]; omega⟩
theorem of_wf64 {n : Int} (h : (Lit.int .u64 n).wf = true) : ∃ a : BitVec 64, n = (a.toNat : Int) := by
  have hb := bounds_u64 h
  exact ⟨BitVec.ofNat 64 n.toNat, by rw [BitVec.toNat_ofNat]; omega⟩
/-- bytes that came in -/
def BArg (v : Value) (W : World) : Prop := v = .slice none 0 0 ∨ ∃ a l cap b, v = .slice (some a) l cap ∧ l ≤ cap ∧ LieAt a l (yv b) W ∧ l ≤ 140737488351232
theorem has_lt {P : Program} {w : World} {r : Reach} {base n : Nat} {a : Addr} {e : TypeId} (h : w.has P r base a e n) : a.block < w.heap.size := by
  obtain ⟨_, _, row, cells, hs, _⟩ := h
  rcases Nat.lt_or_ge a.block w.heap.size with h1 | h1
  · exact h1
  · exfalso
    have h2 : w.heap[a.block]? = none := Array.getElem?_eq_none h1
    unfold World.shape? at hs
    rw [h2] at hs
    cases hs
set_option maxRecDepth 100000 in
theorem open_bytes {H : Type} {enc : TypeId × Value → H} {W : World} {r : Reach} {b0 base : Nat} {spare : Nat → Bool} {held : Bool} {v : Value} {d : DataW H} {p : List MemPlace}
    (hv : Value.okWide Try.prog W r b0 22 v) (h : DataW.Trod enc Try.prog W base spare held 22 v d p) : v = .slice none 0 0 ∨ ∃ a l cap b elems sp, v = .slice (some a) l cap ∧ l ≤ cap ∧ LieAt a l (yv b) W ∧ d = .slice elems sp ∧ elems.length = l := by
  obtain ⟨a, len, cap, rfl⟩ := okWide_slice Try.underlying22 hv
  obtain ⟨fuel, hf⟩ := h
  rcases open_ints Try.underlying22 Try.underlying5 (by kernel_rfl) hf with ⟨hcs, _⟩ | ⟨x, l, c, zs, hcs, _, hl, hm, hz, hd, hcell, hwz⟩
  · simp [Value.cells] at hcs
    obtain ⟨rfl, rfl, rfl⟩ := hcs
    exact .inl rfl
  · simp [Value.cells] at hcs
    obtain ⟨rfl, rfl, rfl⟩ := hcs
    have hlt : x.block < W.heap.size := by
      simp only [Value.okWide, Try.underlying22, Cell.okWide, Cell.ok] at hv
      exact has_lt hv.2.2
    have hlen : len ≤ zs.length := by rw [hz]; split <;> omega
    have hall : ∀ i, i < len → ∃ c : BitVec 8, zs.getD i 0 = (c.toNat : Int) := fun i hi => by
      refine of_wf8 (hwz _ ?_)
      rw [List.getD_eq_getElem?_getD, List.getElem?_eq_getElem (by omega), Option.getD_some]
      exact List.getElem_mem _
    refine .inr ⟨x, len, cap, fun i => if h : i < len then (hall i h).choose else 0#8, _, _, rfl, hl, ⟨fun j hj => ?_, hlt⟩, (Prod.mk.inj hd).1, by simp [lits]; omega⟩
    rw [hcell j (by omega)]
    simp only [yv, dif_pos hj]
    rw [← (hall j hj).choose_spec]
set_option maxRecDepth 100000 in
theorem bytes5 : Try.prog.bytesOf 5 = 1 := by kernel_rfl
set_option maxRecDepth 100000 in
theorem barg {H : Type} {enc : TypeId × Value → H} {W : World} {r : Reach} {b0 base : Nat} {spare : Nat → Bool} {held : Bool} {v : Value} {d : DataW H} {p : List MemPlace} {ts : List TypeId} {ds : List (DataW H)}
    (hv : Value.okWide Try.prog W r b0 22 v) (h : DataW.Trod enc Try.prog W base spare held 22 v d p) (hsz : (DataW.weightsEach Try.prog ts ds).all (· ≤ reachBytes) = true) (j : Nat) (ht : ts[j]? = some 22) (hd : ds[j]? = some d) : BArg v W := by
  rcases open_bytes hv h with rfl | ⟨a, l, cap, b, elems, sp, rfl, hl, hb, rfl, he⟩
  · exact .inl rfl
  · have h1 := sized_slice hsz ht hd Try.underlying22
    rw [bytes5] at h1
    unfold reachBytes at h1
    exact .inr ⟨a, l, cap, b, rfl, hl, hb, by omega⟩
theorem BArg.bv {v : Value} {w : World} (h : BArg v w) : ∃ l b, BV v l b w ∧ l ≤ 140737488351232 := by
  rcases h with rfl | ⟨a, l, cap, b, rfl, hl, hb, hm⟩
  · exact ⟨0, fun _ => 0#8, .inl ⟨rfl, rfl⟩, by omega⟩
  · exact ⟨l, b, .inr ⟨a, cap, rfl, hl, hb⟩, hm⟩
set_option maxRecDepth 100000 in
theorem open_any4 {H : Type} {enc : TypeId × Value → H} {W : World} {r : Reach} {b0 base : Nat} {spare : Nat → Bool} {held : Bool} {v : Value} {d : DataW H} {p : List MemPlace}
    (hv : Value.okWide Try.prog W r b0 31 v) (h : DataW.Trod enc Try.prog W base spare held 31 v d p) : ∃ v0 v1 v2 v3, v = .agg #[v0, v1, v2, v3] := by
  obtain ⟨v0, v1, v2, v3, _, _, _, _, _, rfl, _⟩ := Joins.open_agg4 Try.underlying31 (by kernel_rfl) (by kernel_rfl) hv h
  exact ⟨v0, v1, v2, v3, rfl⟩
end Go.Proofs.Ytboncdlihgpepaa
