/-
  How arrays of bytes and of words that came in read. How slices of bytes that came in read.
-/
import Derived.Test.YtfbmeclpcgdmhabDoorQ17
import Derived.ProofKit
import Derived.OpenShut
import Derived.Test.YtfbmeclpcgdmhabDoorQ5
import Derived.SizedLaws
namespace Go.Proofs.YtfbmeclpcgdmhabDoor
open Go.ChangeShapes Go.WideShapes Go.ChangeAt Go.RowKit
theorem of_wf8 {n : Int} (h : (Lit.int .u8 n).wf = true) : ∃ a : BitVec 8, n = (a.toNat : Int) := by
  have hb := bounds_u8 h
  exact ⟨BitVec.ofNat 8 n.toNat, by rw [BitVec.toNat_ofNat]; omega⟩
theorem of_wf64 {n : Int} (h : (Lit.int .u64 n).wf = true) : ∃ a : BitVec 64, n = (a.toNat : Int) := by
  have hb := bounds_u64 h
  exact ⟨BitVec.ofNat 64 n.toNat, by rw [BitVec.toNat_ofNat]; omega⟩
theorem okWide_arr {P : Program} {w : World} {r : Reach} {base : Nat} {t : TypeId} {v : Value} {n : Nat} {e : TypeId} (ht : P.underlying t = some (.array n e)) (h : Value.okWide P w r base t v) : ∃ cs, v = .agg cs ∧ cs.size = P.cellsOf t := by
  unfold Value.okWide at h
  rw [ht] at h
  cases v <;> simp_all
set_option maxRecDepth 20000 in
theorem open_arr {H : Type} {enc : TypeId × Value → H} {W : World} {r : Reach} {b0 base : Nat} {spare : Nat → Bool} {held : Bool} {v : Value} {d : DataW H} {p : List MemPlace} {t : TypeId} {N : Nat} (hu : Tryd.prog.underlying t = some (.array N 5)) (hc : Tryd.prog.cellsOf t = N)
    (hv : Value.okWide Tryd.prog W r b0 t v) (h : DataW.Trod enc Tryd.prog W base spare held t v d p) : ∃ f : Nat → BitVec 8, v = .agg (row N (yv f)).toArray := by
  obtain ⟨cs, rfl, hsz⟩ := okWide_arr hu hv
  have hc5 : Tryd.prog.cellsOf 5 = 1 := by kernel_rfl
  obtain ⟨fuel, hf⟩ := h
  obtain ⟨xs, m, _, _, _, hxl, hx⟩ := DataW.trod_array hu hf
  rw [hc] at hsz
  have hall : ∀ i, i < N → ∃ b : BitVec 8, cs[i]? = some (.int .u8 (b.toNat : Int)) := by
    intro i hi
    have h1 := hx i hi
    rw [List.getElem?_eq_getElem (by omega)] at h1
    obtain ⟨n, e0, _, w0⟩ := DataW.trod_int Tryd.underlying5 h1
    obtain ⟨b, rfl⟩ := of_wf8 w0
    refine ⟨b, ?_⟩
    rw [hc5] at e0
    have h2 : (List.take 1 (List.drop (i * 1) cs.toList))[0]? = some (.int .u8 (b.toNat : Int)) := by
      have : (Value.agg cs).cells.toList = cs.toList := by simp [Value.cells]
      rw [← this, e0]; rfl
    simpa [List.getElem?_take, List.getElem?_drop] using h2
  refine ⟨fun i => if h : i < N then (hall i h).choose else 0#8, ?_⟩
  congr 1
  apply Array.ext'
  apply List.ext_getElem?
  intro i
  by_cases hi : i < N
  · have h1 := (hall i hi).choose_spec
    rw [show (row N (yv fun i => if h : i < N then (hall i h).choose else 0#8)).toArray.toList = row N (yv fun i => if h : i < N then (hall i h).choose else 0#8) from rfl, row_get N _ i hi]
    simp only [yv, dif_pos hi]
    simpa using h1
  · rw [List.getElem?_eq_none (by simpa [hsz] using hi), List.getElem?_eq_none (by simpa [row_length] using hi)]
set_option maxRecDepth 20000 in
theorem open_arrW {H : Type} {enc : TypeId × Value → H} {W : World} {r : Reach} {b0 base : Nat} {spare : Nat → Bool} {held : Bool} {v : Value} {d : DataW H} {p : List MemPlace} {t : TypeId} {N : Nat} (hu : Tryd.prog.underlying t = some (.array N 22)) (hc : Tryd.prog.cellsOf t = N)
    (hv : Value.okWide Tryd.prog W r b0 t v) (h : DataW.Trod enc Tryd.prog W base spare held t v d p) : ∃ f : Nat → BitVec 64, v = .agg (row N (wv f)).toArray := by
  obtain ⟨cs, rfl, hsz⟩ := okWide_arr hu hv
  have hc5 : Tryd.prog.cellsOf 22 = 1 := by kernel_rfl
  obtain ⟨fuel, hf⟩ := h
  obtain ⟨xs, m, _, _, _, hxl, hx⟩ := DataW.trod_array hu hf
  rw [hc] at hsz
  have hall : ∀ i, i < N → ∃ b : BitVec 64, cs[i]? = some (.int .u64 (b.toNat : Int)) := by
    intro i hi
    have h1 := hx i hi
    rw [List.getElem?_eq_getElem (by omega)] at h1
    obtain ⟨n, e0, _, w0⟩ := DataW.trod_int Tryd.underlying22 h1
    obtain ⟨b, rfl⟩ := of_wf64 w0
    refine ⟨b, ?_⟩
    rw [hc5] at e0
    have h2 : (List.take 1 (List.drop (i * 1) cs.toList))[0]? = some (.int .u64 (b.toNat : Int)) := by
      have : (Value.agg cs).cells.toList = cs.toList := by simp [Value.cells]
      rw [← this, e0]; rfl
    simpa [List.getElem?_take, List.getElem?_drop] using h2
  refine ⟨fun i => if h : i < N then (hall i h).choose else 0#64, ?_⟩
  congr 1
  apply Array.ext'
  apply List.ext_getElem?
  intro i
  by_cases hi : i < N
  · have h1 := (hall i hi).choose_spec
    rw [show (row N (wv fun i => if h : i < N then (hall i h).choose else 0#64)).toArray.toList = row N (wv fun i => if h : i < N then (hall i h).choose else 0#64) from rfl, row_get N _ i hi]
    simp only [wv, dif_pos hi]
    simpa using h1
  · rw [List.getElem?_eq_none (by simpa [hsz] using hi), List.getElem?_eq_none (by simpa [row_length] using hi)]
set_option maxRecDepth 20000 in
theorem open_arru64_8 {H : Type} {enc : TypeId × Value → H} {W : World} {r : Reach} {b0 base : Nat} {spare : Nat → Bool} {held : Bool} {v : Value} {d : DataW H} {p : List MemPlace}
    (hv : Value.okWide Tryd.prog W r b0 92 v) (h : DataW.Trod enc Tryd.prog W base spare held 92 v d p) : ∃ f : Nat → BitVec 64, v = .agg (row 8 (wv f)).toArray := open_arrW Tryd.underlying92 (by kernel_rfl) hv h
set_option maxRecDepth 20000 in
theorem open_arru8_128 {H : Type} {enc : TypeId × Value → H} {W : World} {r : Reach} {b0 base : Nat} {spare : Nat → Bool} {held : Bool} {v : Value} {d : DataW H} {p : List MemPlace}
    (hv : Value.okWide Tryd.prog W r b0 94 v) (h : DataW.Trod enc Tryd.prog W base spare held 94 v d p) : ∃ f : Nat → BitVec 8, v = .agg (row 128 (yv f)).toArray := open_arr Tryd.underlying94 (by kernel_rfl) hv h
end Go.Proofs.YtfbmeclpcgdmhabDoor
namespace Go.Proofs.YtfbmeclpcgdmhabDoor
set_option maxRecDepth 20000
open Go.ChangeShapes Go.WideShapes Go.ChangeAt Go.RowKit
/-- bytes that came in -/
def BArg (v : Value) (W : World) : Prop := v = .slice none 0 0 ∨ ∃ a l cap b, v = .slice (some a) l cap ∧ l ≤ cap ∧ LieAt a l (yv b) W ∧ l ≤ 140737488351232
theorem has_lt {P : Program} {w : World} {r : Reach} {base n : Nat} {a : Addr} {e : TypeId} (h : w.has P r base a e n) : a.block < w.heap.size := by
  obtain ⟨_, _, row, cells, hs, _⟩ := h
  rcases Nat.lt_or_ge a.block w.heap.size with h1 | h1
  · exact h1
  · exfalso
    have h2 : w.heap[a.block]? = none := Array.getElem?_eq_none h1
    unfold World.shape? at hs
    rw [h2] at hs
    cases hs
theorem open_bytes {H : Type} {enc : TypeId × Value → H} {W : World} {r : Reach} {b0 base : Nat} {spare : Nat → Bool} {held : Bool} {v : Value} {d : DataW H} {p : List MemPlace}
    (hv : Value.okWide Tryd.prog W r b0 32 v) (h : DataW.Trod enc Tryd.prog W base spare held 32 v d p) : v = .slice none 0 0 ∨ ∃ a l cap b elems sp, v = .slice (some a) l cap ∧ l ≤ cap ∧ LieAt a l (yv b) W ∧ d = .slice elems sp ∧ elems.length = l := by
  obtain ⟨a, len, cap, rfl⟩ := okWide_slice Tryd.underlying32 hv
  obtain ⟨fuel, hf⟩ := h
  rcases open_ints Tryd.underlying32 Tryd.underlying5 (by kernel_rfl) hf with ⟨hcs, _⟩ | ⟨x, l, c, zs, hcs, _, hl, hm, hz, hd, hcell, hwz⟩
  · simp [Value.cells] at hcs
    obtain ⟨rfl, rfl, rfl⟩ := hcs
    exact .inl rfl
  · simp [Value.cells] at hcs
    obtain ⟨rfl, rfl, rfl⟩ := hcs
    have hlt : x.block < W.heap.size := by
      simp only [Value.okWide, Tryd.underlying32, Cell.okWide, Cell.ok] at hv
      exact has_lt hv.2.2
    have hlen : len ≤ zs.length := by rw [hz]; split <;> omega
    have hall : ∀ i, i < len → ∃ c : BitVec 8, zs.getD i 0 = (c.toNat : Int) := fun i hi => by
      refine of_wf8 (hwz _ ?_)
      rw [List.getD_eq_getElem?_getD, List.getElem?_eq_getElem (by omega), Option.getD_some]
      exact List.getElem_mem _
    refine .inr ⟨x, len, cap, fun i => if h : i < len then (hall i h).choose else 0#8, _, _, rfl, hl, ⟨fun j hj => ?_, hlt⟩, (Prod.mk.inj hd).1, by simp [lits]; omega⟩
    rw [hcell j (by omega)]
    simp only [yv, dif_pos hj]
    rw [← (hall j hj).choose_spec]
theorem bytes5 : Tryd.prog.bytesOf 5 = 1 := by kernel_rfl
/-- .. within the form's own reach -/
theorem barg {H : Type} {enc : TypeId × Value → H} {W : World} {r : Reach} {b0 base : Nat} {spare : Nat → Bool} {held : Bool} {v : Value} {d : DataW H} {p : List MemPlace} {ts : List TypeId} {ds : List (DataW H)}
    (hv : Value.okWide Tryd.prog W r b0 32 v) (h : DataW.Trod enc Tryd.prog W base spare held 32 v d p) (hsz : (DataW.weightsEach Tryd.prog ts ds).all (· ≤ reachBytes) = true) (j : Nat) (ht : ts[j]? = some 32) (hd : ds[j]? = some d) : BArg v W := by
  rcases open_bytes hv h with rfl | ⟨a, l, cap, b, elems, sp, rfl, hl, hb, rfl, he⟩
  · exact .inl rfl
  · have h1 := sized_slice hsz ht hd Tryd.underlying32
    rw [bytes5] at h1
    unfold reachBytes at h1
    exact .inr ⟨a, l, cap, b, rfl, hl, hb, by omega⟩
theorem BArg.bv {v : Value} {w : World} (h : BArg v w) : ∃ l b, BV v l b w ∧ l ≤ 140737488351232 := by
  rcases h with rfl | ⟨a, l, cap, b, rfl, hl, hb, hm⟩
  · exact ⟨0, fun _ => 0#8, .inl ⟨rfl, rfl⟩, by omega⟩
  · exact ⟨l, b, .inr ⟨a, cap, rfl, hl, hb⟩, hm⟩
theorem partsOne (X : World) (v : Value) (N : Nat) (M : Nat → BitVec 8) (h : BV v N M (X.alloc (.cells #[v] 32))) : Parts (.slice (some ⟨X.heap.size, 0, none⟩) 1 1) 1 (fun _ => v) (fun _ => N) (fun _ => M) (X.alloc (.cells #[v] 32)) :=
  ⟨.inr ⟨_, 1, rfl, Nat.le_refl _, lieNew X 1 _ 32 (0, 0) _ (fun j hj => by
    obtain rfl : j = 0 := by omega
    rfl)⟩, fun i hi => h⟩
end Go.Proofs.YtfbmeclpcgdmhabDoor
