/-
  Bytes as strings; the first words of a key. Slices of bytes that came in; bytes, nil or not, wherever they lie.
-/
import Derived.Test.YtkoodgfadedeoaaQ23
import Derived.Laws.BytesString
import Derived.Test.YtkoodgfadedeoaaQ15
import Derived.SizedLaws
import Derived.ProofKit
import Derived.OpenShut
import Derived.ChangeOld
namespace Go.Proofs.Ytkoodgfadedeoaa
open Go.RowKit Go.BigFrame
/-- so many bytes, as a string -/
def bstr (n : Nat) (f : Nat → BitVec 8) : ByteArray := ((List.range n).map fun j => ((f j).toNat : Int)).foldl (fun r n => r.push (UInt8.ofNat n.toNat)) ByteArray.empty
theorem bstr_congr {n : Nat} {f g : Nat → BitVec 8} (h : ∀ j, j < n → f j = g j) : bstr n f = bstr n g := by
  unfold bstr
  rw [List.map_congr_left fun j hj => by rw [h j (by simpa using hj)]]
theorem run_conv {b off n cap : Nat} {f : Nat → BitVec 8} {w : World} (h : w.rangeAt b off (row n (yv f))) : (convert 22 9 (.slice (some ⟨b, off, none⟩) n cap)).run Try.prog w = .ok (.string (bstr n f)) w := by
  rw [run_convert_bytes_string w 22 9 5 _ _ _ Try.underlying22 Try.underlying5 Try.underlying9]
  refine run_bytesToString w _ n cap ((List.range n).map fun j => ((f j).toNat : Int)) ?_
  have h1 := run_loadCells_list (P := Try.prog) w ⟨b, off, none⟩ (row n (yv f)) (fun j v hv => by rw [Addr.add_mid]; exact h j v hv)
  rw [row_length] at h1
  rw [h1, List.map_map]
  rfl
theorem quiet_conv {W : World} {K : Act → Prop} {op : Oper} {a : Act} (x : Operand) (b off n cap : Nat) (g : Nat → BitVec 8) (ho : op.op = .convert 22 9 x) (hx : a.eval x = .slice (some ⟨b, off, none⟩) n cap) (hc : ∀ w', Ext W w' → w'.rangeAt b off (row n (yv g)))
    (h : K (a.put op.dst (.string (bstr n g)))) : op.quiet Try.prog a (fun w' => ∃ k : Kept (Ext W), w' = k.w) K :=
  ⟨_, fun w hw => by
    obtain ⟨k, rfl⟩ := hw
    unfold Oper.quietAt execOp
    simp only [ho, hx, Sem.run_bind, Sem.run_pure, Result.andThen_ok, run_conv (hc _ k.ok)]
    exact ⟨rfl, rfl⟩, h⟩
theorem RowAt.sub {b n : Nat} {g : Nat → BitVec 8} {w : World} (h : RowAt b n (yv g) w) (off m : Nat) (hm : off + m ≤ n) : w.rangeAt b off (row m (yv fun j => g (off + j))) := fun j v hv => by
  obtain ⟨hj, rfl⟩ := row_some hv
  exact h.1 (off + j) (by omega)
theorem words_low (k : Nat) (bx tw key : Nat → BitVec 8) (j : Nat) (hj : j < 4 * k) : ∀ m, (wordK k bx tw key m).1 j = key j
  | 0 => by
    show (if j < 4 * k then key j else 0#8) = key j
    rw [if_pos hj]
  | m + 1 => by
    rw [wordK_s]
    show partS _ _ _ _ _ j = _
    rw [partS_low _ _ _ _ _ _ (by omega)]
    exact words_low k bx tw key j hj m
theorem sched_low (k : Nat) (key : Nat → BitVec 8) (j : Nat) (hj : j < 4 * k) : schedK k key j = key j := by
  unfold schedK keyP
  rw [if_pos (by omega)]
  exact words_low k bxT twT key j hj _
end Go.Proofs.Ytkoodgfadedeoaa
namespace Go.Proofs.Ytkoodgfadedeoaa
open Go.ChangeShapes Go.WideShapes Go.ChangeAt Go.RowKit Go.BigFrame
/-- bytes that came in -/
def BArg (v : Value) (W : World) : Prop := v = .slice none 0 0 ∨ ∃ a l cap b, v = .slice (some a) l cap ∧ l ≤ cap ∧ LieAt a l (yv b) W ∧ l ≤ 140737488351232
theorem has_lt {P : Program} {w : World} {r : Reach} {base n : Nat} {a : Addr} {e : TypeId} (h : w.has P r base a e n) : a.block < w.heap.size := by
  obtain ⟨_, _, row, cells, hs, _⟩ := h
  rcases Nat.lt_or_ge a.block w.heap.size with h1 | h1
  · exact h1
  · exfalso
    have h2 : w.heap[a.block]? = none := Array.getElem?_eq_none h1
    unfold World.shape? at hs
    rw [h2] at hs
    cases hs
set_option maxRecDepth 100000 in
theorem open_bytes {H : Type} {enc : TypeId × Value → H} {W : World} {r : Reach} {b0 base : Nat} {spare : Nat → Bool} {held : Bool} {v : Value} {d : DataW H} {p : List MemPlace}
    (hv : Value.okWide Try.prog W r b0 22 v) (h : DataW.Trod enc Try.prog W base spare held 22 v d p) : v = .slice none 0 0 ∨ ∃ a l cap b elems sp, v = .slice (some a) l cap ∧ l ≤ cap ∧ LieAt a l (yv b) W ∧ d = .slice elems sp ∧ elems.length = l := by
  obtain ⟨a, len, cap, rfl⟩ := okWide_slice Try.underlying22 hv
  obtain ⟨fuel, hf⟩ := h
  rcases open_ints Try.underlying22 Try.underlying5 (by kernel_rfl) hf with ⟨hcs, _⟩ | ⟨x, l, c, zs, hcs, _, hl, hm, hz, hd, hcell, hwz⟩
  · simp [Value.cells] at hcs
    obtain ⟨rfl, rfl, rfl⟩ := hcs
    exact .inl rfl
  · simp [Value.cells] at hcs
    obtain ⟨rfl, rfl, rfl⟩ := hcs
    have hlt : x.block < W.heap.size := by
      simp only [Value.okWide, Try.underlying22, Cell.okWide, Cell.ok] at hv
      exact has_lt hv.2.2
    have hlen : len ≤ zs.length := by rw [hz]; split <;> omega
    have hall : ∀ i, i < len → ∃ c : BitVec 8, zs.getD i 0 = (c.toNat : Int) := fun i hi => by
      refine of_wf8 (hwz _ ?_)
      rw [List.getD_eq_getElem?_getD, List.getElem?_eq_getElem (by omega), Option.getD_some]
      exact List.getElem_mem _
    refine .inr ⟨x, len, cap, fun i => if h : i < len then (hall i h).choose else 0#8, _, _, rfl, hl, ⟨fun j hj => ?_, hlt⟩, (Prod.mk.inj hd).1, by simp [lits]; omega⟩
    rw [hcell j (by omega)]
    simp only [yv, dif_pos hj]
    rw [← (hall j hj).choose_spec]
theorem bytes5 : Try.prog.bytesOf 5 = 1 := by kernel_rfl
set_option maxRecDepth 100000 in
/-- .. within the form's own reach -/
theorem barg {H : Type} {enc : TypeId × Value → H} {W : World} {r : Reach} {b0 base : Nat} {spare : Nat → Bool} {held : Bool} {v : Value} {d : DataW H} {p : List MemPlace} {ts : List TypeId} {ds : List (DataW H)}
    (hv : Value.okWide Try.prog W r b0 22 v) (h : DataW.Trod enc Try.prog W base spare held 22 v d p) (hsz : (DataW.weightsEach Try.prog ts ds).all (· ≤ reachBytes) = true) (j : Nat) (ht : ts[j]? = some 22) (hd : ds[j]? = some d) : BArg v W := by
  rcases open_bytes hv h with rfl | ⟨a, l, cap, b, elems, sp, rfl, hl, hb, rfl, he⟩
  · exact .inl rfl
  · have h1 := sized_slice hsz ht hd Try.underlying22
    rw [bytes5] at h1
    unfold reachBytes at h1
    exact .inr ⟨a, l, cap, b, rfl, hl, hb, by omega⟩
/-- so many bytes, nil or not -/
def BV (v : Value) (l : Nat) (b : Nat → BitVec 8) (w : World) : Prop := (v = .slice none 0 0 ∧ l = 0) ∨ ∃ a cap, v = .slice (some a) l cap ∧ l ≤ cap ∧ LieAt a l (yv b) w
theorem BV.ext {v : Value} {l : Nat} {b : Nat → BitVec 8} {w X : World} (h : BV v l b w) (k : Ext w X) : BV v l b X := by
  rcases h with h | ⟨a, cap, h1, h2, h3⟩
  · exact .inl h
  · exact .inr ⟨a, cap, h1, h2, h3.carry k⟩
theorem BArg.bv {v : Value} {w : World} (h : BArg v w) : ∃ l b, BV v l b w ∧ l ≤ 140737488351232 := by
  rcases h with rfl | ⟨a, l, cap, b, rfl, hl, hb, hm⟩
  · exact ⟨0, fun _ => 0#8, .inl ⟨rfl, rfl⟩, by omega⟩
  · exact ⟨l, b, .inr ⟨a, cap, rfl, hl, hb⟩, hm⟩
theorem OwnB.bv {base : Nat} {v : Value} {l : Nat} {b : Nat → BitVec 8} {w : World} (h : OwnB base 5 v l (yv b) w) : BV v l b w := by
  rcases Nat.eq_zero_or_pos l with h0 | h0
  · subst h0
    rcases h.2 with ⟨rfl, _⟩ | ⟨g, cap, cur, rfl, _, hg, hc, _⟩
    · exact .inl ⟨rfl, rfl⟩
    · exact .inr ⟨_, cap, rfl, hc, fun j hj => by omega, (Array.getElem?_eq_some_iff.1 hg).1⟩
  · obtain ⟨g, cap, rfl, _, hc, _, hR⟩ := h.lies h0
    refine .inr ⟨_, cap, rfl, hc, fun j hj => ?_, hR.2.2⟩
    have hadd : (⟨g, 0, none⟩ : Addr).add j = ⟨g, j, none⟩ := by unfold Addr.add; split <;> simp_all
    rw [hadd]
    exact hR.1 j hj
theorem loadLie {P : Program} {a : Addr} {n : Nat} {g : Nat → Value} {w : World} (h : LieAt a n g w) : (loadCells a n).run P w = .ok (row n g).toArray w := by
  have := run_loadCells_list (P := P) w a (row n g) (fun j v hv => by
    obtain ⟨hj, rfl⟩ := row_some hv
    exact h.1 j hj)
  rwa [row_length] at this
theorem convV (v : Value) (l : Nat) (b : Nat → BitVec 8) (w : World) (h : BV v l b w) : (convert 22 9 v).run Try.prog w = .ok (.string (bstr l b)) w := by
  rcases h with ⟨rfl, rfl⟩ | ⟨a, cap, rfl, h2, h3⟩
  · rw [run_convert_bytes_string w 22 9 5 _ _ _ Try.underlying22 Try.underlying5 Try.underlying9]
    rfl
  · rw [run_convert_bytes_string w 22 9 5 _ _ _ Try.underlying22 Try.underlying5 Try.underlying9]
    refine run_bytesToString w _ l cap ((List.range l).map fun j => ((b j).toNat : Int)) ?_
    rw [loadLie h3, List.map_map]
    rfl
end Go.Proofs.Ytkoodgfadedeoaa
