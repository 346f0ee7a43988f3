/-
  Slices of bytes that came in; bytes, nil or not, wherever they lie. There and back, on bytes; units by value.
-/
import Derived.Test.YtkoodgfadedeoaaQ13
import Derived.Test.YtkoodgfadedeoaaQ22
import Derived.SizedLaws
import Derived.ProofKit
import Derived.OpenShut
import Derived.ChangeOld
import Derived.Test.YtkoodgfadedeoaaQ21
namespace Go.Proofs.Ytkoodgfadedeoaa
open Go.ChangeShapes Go.WideShapes Go.ChangeAt Go.RowKit Go.BigFrame
/-- bytes that came in -/
def BArg (v : Value) (W : World) : Prop := v = .slice none 0 0 ∨ ∃ a l cap b, v = .slice (some a) l cap ∧ l ≤ cap ∧ LieAt a l (yv b) W ∧ l ≤ 140737488351232
theorem has_lt {P : Program} {w : World} {r : Reach} {base n : Nat} {a : Addr} {e : TypeId} (h : w.has P r base a e n) : a.block < w.heap.size := by
  obtain ⟨_, _, row, cells, hs, _⟩ := h
  rcases Nat.lt_or_ge a.block w.heap.size with h1 | h1
  · exact h1
  · exfalso
    have h2 : w.heap[a.block]? = none := Array.getElem?_eq_none h1
    unfold World.shape? at hs
    rw [h2] at hs
    cases hs
set_option maxRecDepth 100000 in
theorem open_bytes {H : Type} {enc : TypeId × Value → H} {W : World} {r : Reach} {b0 base : Nat} {spare : Nat → Bool} {held : Bool} {v : Value} {d : DataW H} {p : List MemPlace}
    (hv : Value.okWide Try.prog W r b0 22 v) (h : DataW.Trod enc Try.prog W base spare held 22 v d p) : v = .slice none 0 0 ∨ ∃ a l cap b elems sp, v = .slice (some a) l cap ∧ l ≤ cap ∧ LieAt a l (yv b) W ∧ d = .slice elems sp ∧ elems.length = l := by
  obtain ⟨a, len, cap, rfl⟩ := okWide_slice Try.underlying22 hv
  obtain ⟨fuel, hf⟩ := h
  rcases open_ints Try.underlying22 Try.underlying5 (by kernel_rfl) hf with ⟨hcs, _⟩ | ⟨x, l, c, zs, hcs, _, hl, hm, hz, hd, hcell, hwz⟩
  · simp [Value.cells] at hcs
    obtain ⟨rfl, rfl, rfl⟩ := hcs
    exact .inl rfl
  · simp [Value.cells] at hcs
    obtain ⟨rfl, rfl, rfl⟩ := hcs
    have hlt : x.block < W.heap.size := by
      simp only [Value.okWide, Try.underlying22, Cell.okWide, Cell.ok] at hv
      exact has_lt hv.2.2
    have hlen : len ≤ zs.length := by rw [hz]; split <;> omega
    have hall : ∀ i, i < len → ∃ c : BitVec 8, zs.getD i 0 = (c.toNat : Int) := fun i hi => by
      refine of_wf8 (hwz _ ?_)
      rw [List.getD_eq_getElem?_getD, List.getElem?_eq_getElem (by omega), Option.getD_some]
      exact List.getElem_mem _
    refine .inr ⟨x, len, cap, fun i => if h : i < len then (hall i h).choose else 0#8, _, _, rfl, hl, ⟨fun j hj => ?_, hlt⟩, (Prod.mk.inj hd).1, by simp [lits]; omega⟩
    rw [hcell j (by omega)]
    simp only [yv, dif_pos hj]
    rw [← (hall j hj).choose_spec]
theorem bytes5 : Try.prog.bytesOf 5 = 1 := by kernel_rfl
set_option maxRecDepth 100000 in
/-- .. within the form's own reach -/
theorem barg {H : Type} {enc : TypeId × Value → H} {W : World} {r : Reach} {b0 base : Nat} {spare : Nat → Bool} {held : Bool} {v : Value} {d : DataW H} {p : List MemPlace} {ts : List TypeId} {ds : List (DataW H)}
    (hv : Value.okWide Try.prog W r b0 22 v) (h : DataW.Trod enc Try.prog W base spare held 22 v d p) (hsz : (DataW.weightsEach Try.prog ts ds).all (· ≤ reachBytes) = true) (j : Nat) (ht : ts[j]? = some 22) (hd : ds[j]? = some d) : BArg v W := by
  rcases open_bytes hv h with rfl | ⟨a, l, cap, b, elems, sp, rfl, hl, hb, rfl, he⟩
  · exact .inl rfl
  · have h1 := sized_slice hsz ht hd Try.underlying22
    rw [bytes5] at h1
    unfold reachBytes at h1
    exact .inr ⟨a, l, cap, b, rfl, hl, hb, by omega⟩
/-- so many bytes, nil or not -/
def BV (v : Value) (l : Nat) (b : Nat → BitVec 8) (w : World) : Prop := (v = .slice none 0 0 ∧ l = 0) ∨ ∃ a cap, v = .slice (some a) l cap ∧ l ≤ cap ∧ LieAt a l (yv b) w
theorem BV.ext {v : Value} {l : Nat} {b : Nat → BitVec 8} {w X : World} (h : BV v l b w) (k : Ext w X) : BV v l b X := by
  rcases h with h | ⟨a, cap, h1, h2, h3⟩
  · exact .inl h
  · exact .inr ⟨a, cap, h1, h2, h3.carry k⟩
theorem BArg.bv {v : Value} {w : World} (h : BArg v w) : ∃ l b, BV v l b w ∧ l ≤ 140737488351232 := by
  rcases h with rfl | ⟨a, l, cap, b, rfl, hl, hb, hm⟩
  · exact ⟨0, fun _ => 0#8, .inl ⟨rfl, rfl⟩, by omega⟩
  · exact ⟨l, b, .inr ⟨a, cap, rfl, hl, hb⟩, hm⟩
theorem OwnB.bv {base : Nat} {v : Value} {l : Nat} {b : Nat → BitVec 8} {w : World} (h : OwnB base 5 v l (yv b) w) : BV v l b w := by
  rcases Nat.eq_zero_or_pos l with h0 | h0
  · subst h0
    rcases h.2 with ⟨rfl, _⟩ | ⟨g, cap, cur, rfl, _, hg, hc, _⟩
    · exact .inl ⟨rfl, rfl⟩
    · exact .inr ⟨_, cap, rfl, hc, fun j hj => by omega, (Array.getElem?_eq_some_iff.1 hg).1⟩
  · obtain ⟨g, cap, rfl, _, hc, _, hR⟩ := h.lies h0
    refine .inr ⟨_, cap, rfl, hc, fun j hj => ?_, hR.2.2⟩
    have hadd : (⟨g, 0, none⟩ : Addr).add j = ⟨g, j, none⟩ := by unfold Addr.add; split <;> simp_all
    rw [hadd]
    exact hR.1 j hj
theorem loadLie {P : Program} {a : Addr} {n : Nat} {g : Nat → Value} {w : World} (h : LieAt a n g w) : (loadCells a n).run P w = .ok (row n g).toArray w := by
  have := run_loadCells_list (P := P) w a (row n g) (fun j v hv => by
    obtain ⟨hj, rfl⟩ := row_some hv
    exact h.1 j hj)
  rwa [row_length] at this
theorem convV (v : Value) (l : Nat) (b : Nat → BitVec 8) (w : World) (h : BV v l b w) : (convert 22 9 v).run Try.prog w = .ok (.string (bstr l b)) w := by
  rcases h with ⟨rfl, rfl⟩ | ⟨a, cap, rfl, h2, h3⟩
  · rw [run_convert_bytes_string w 22 9 5 _ _ _ Try.underlying22 Try.underlying5 Try.underlying9]
    rfl
  · rw [run_convert_bytes_string w 22 9 5 _ _ _ Try.underlying22 Try.underlying5 Try.underlying9]
    refine run_bytesToString w _ l cap ((List.range l).map fun j => ((b j).toNat : Int)) ?_
    rw [loadLie h3, List.map_map]
    rfl
end Go.Proofs.Ytkoodgfadedeoaa
namespace Go.Proofs.Ytkoodgfadedeoaa
open Go.RowKit Go.BigFrame
def unitF (ch : BitVec 128 → (Nat → BitVec 8) → Nat → BitVec 8) (t t1 t2 : BitVec 128) (D : Nat → BitVec 8) (nb l : Nat) : Nat → BitVec 8 :=
  if l % 16 = 0 then fronts ch t D else stealF ch t1 t2 (fronts ch t D) D (16 * nb) (l % 16)
/-- one change undoes the other, block by block -/
structure Undoes (chA chB : BitVec 128 → (Nat → BitVec 8) → Nat → BitVec 8) : Prop where
  back : ∀ t f, Eq16 (chB t (chA t f)) f
  congr : ∀ t f g, Eq16 f g → Eq16 (chB t f) (chB t g)
theorem unit_back {chA chB : BitVec 128 → (Nat → BitVec 8) → Nat → BitVec 8} (h : Undoes chA chB) (t t1 t2 : BitVec 128) (D : Nat → BitVec 8) (nb l : Nat) (hnb : (l % 16 = 0 ∧ l = 16 * nb) ∨ (l % 16 ≠ 0 ∧ l = 16 * nb + 16 + l % 16)) (j : Nat) (hj : j < l) :
    unitF chB t t2 t1 (unitF chA t t1 t2 D nb l) nb l j = D j := by
  have hfr : ∀ C : Nat → BitVec 8, (∀ i, i < 16 * nb → C i = fronts chA t D i) → ∀ j, j < 16 * nb → fronts chB t C j = D j := by
    intro C hC j hj
    unfold fronts
    have e : Eq16 (fun i => C (16 * (j / 16) + i)) (chA (dK 135#128 (j / 16) t) (fun i => D (16 * (j / 16) + i))) := fun i hi => by
      show C (16 * (j / 16) + i) = _
      rw [hC _ (by omega)]
      unfold fronts
      rw [show (16 * (j / 16) + i) / 16 = j / 16 by omega, show (16 * (j / 16) + i) % 16 = i by omega]
    have h2 := (h.congr (dK 135#128 (j / 16) t) _ _ e).trans (h.back _ _)
    rw [h2 (j % 16) (by omega)]
    show D (16 * (j / 16) + j % 16) = D j
    rw [show 16 * (j / 16) + j % 16 = j by omega]
  rcases hnb with ⟨hm, hl⟩ | ⟨hm, hl⟩
  · unfold unitF
    rw [if_pos hm, if_pos hm]
    exact hfr _ (fun _ _ => rfl) j (by omega)
  · obtain ⟨s, hs⟩ : ∃ s, s = l % 16 := ⟨_, rfl⟩
    have hs1 : s < 16 := by omega
    unfold unitF
    rw [if_neg hm, if_neg hm, ← hs]
    rw [← hs] at hl
    obtain ⟨m, hmm⟩ : ∃ m, m = 16 * nb := ⟨_, rfl⟩
    rw [← hmm] at hl hfr ⊢
    obtain ⟨L, hL⟩ : ∃ L, L = lendF chA t1 D m := ⟨_, rfl⟩
    obtain ⟨C, hC⟩ : ∃ C, C = stealF chA t1 t2 (fronts chA t D) D m s := ⟨_, rfl⟩
    rw [← hC]
    have c1 : ∀ i, i < m → C i = fronts chA t D i := fun i hi => by rw [hC]; unfold stealF; rw [if_pos hi]
    have c2 : ∀ i, i < 16 → C (m + i) = chA t2 (fillF L D m s) i := fun i hi => by rw [hC, hL]; unfold stealF; rw [if_neg (by omega), if_pos (by omega), Nat.add_sub_cancel_left]
    have c3 : ∀ i, C (m + 16 + i) = L i := fun i => by rw [hC, hL]; unfold stealF; rw [if_neg (by omega), if_neg (by omega), Nat.add_sub_cancel_left]
    have d1 : Eq16 (lendF chB t2 C m) (fillF L D m s) := by
      unfold lendF
      exact (h.congr t2 _ _ (fun i hi => c2 i hi)).trans (h.back _ _)
    have d2 : Eq16 (fillF (lendF chB t2 C m) C m s) L := fun i hi => by
      show (if i < s then C (m + 16 + i) else lendF chB t2 C m i) = L i
      by_cases h1 : i < s
      · rw [if_pos h1, c3]
      · rw [if_neg h1, d1 i hi]
        unfold fillF
        rw [if_neg h1]
    have d3 : Eq16 (chB t1 (fillF (lendF chB t2 C m) C m s)) (fun i => D (m + i)) := by
      refine (h.congr t1 _ _ d2).trans ?_
      rw [hL]
      exact h.back _ _
    show (if j < m then fronts chB t C j else if j < m + 16 then chB t1 (fillF (lendF chB t2 C m) C m s) (j - m) else lendF chB t2 C m (j - (m + 16))) = D j
    by_cases h1 : j < m
    · rw [if_pos h1]
      exact hfr C c1 j h1
    · rw [if_neg h1]
      by_cases h2 : j < m + 16
      · rw [if_pos h2, d3 (j - m) (by omega)]
        show D (m + (j - m)) = D j
        rw [show m + (j - m) = j by omega]
      · rw [if_neg h2, d1 _ (by omega)]
        unfold fillF
        rw [if_pos (by omega), show m + 16 + (j - (m + 16)) = j by omega]
theorem unitF_congr (ch : BitVec 128 → (Nat → BitVec 8) → Nat → BitVec 8) (hc : ∀ t f g, Eq16 f g → Eq16 (ch t f) (ch t g)) (t t1 t2 : BitVec 128) (D D' : Nat → BitVec 8) (nb l : Nat) (hnb : (l % 16 = 0 ∧ l = 16 * nb) ∨ (l % 16 ≠ 0 ∧ l = 16 * nb + 16 + l % 16)) (hD : ∀ j, j < l → D j = D' j) (j : Nat) (hj : j < l) :
    unitF ch t t1 t2 D nb l j = unitF ch t t1 t2 D' nb l j := by
  have hfr : ∀ j, j < 16 * nb → fronts ch t D j = fronts ch t D' j := fun j hj => by
    unfold fronts
    exact hc _ _ _ (fun i hi => hD _ (by omega)) (j % 16) (by omega)
  unfold unitF
  rcases hnb with ⟨hm, hl⟩ | ⟨hm, hl⟩
  · rw [if_pos hm, if_pos hm]
    exact hfr j (by omega)
  · rw [if_neg hm, if_neg hm]
    obtain ⟨s, hs⟩ : ∃ s, s = l % 16 := ⟨_, rfl⟩
    rw [← hs] at hl ⊢
    have hs1 : s < 16 := by omega
    have l1 : Eq16 (lendF ch t1 D (16 * nb)) (lendF ch t1 D' (16 * nb)) := hc _ _ _ (fun i hi => hD _ (by omega))
    unfold stealF
    by_cases h1 : j < 16 * nb
    · rw [if_pos h1, if_pos h1]; exact hfr j h1
    · rw [if_neg h1, if_neg h1]
      by_cases h2 : j < 16 * nb + 16
      · rw [if_pos h2, if_pos h2]
        refine hc _ _ _ (fun i hi => ?_) _ (by omega)
        unfold fillF
        by_cases h3 : i < s
        · rw [if_pos h3, if_pos h3]; exact hD _ (by omega)
        · rw [if_neg h3, if_neg h3]; exact l1 i hi
      · rw [if_neg h2, if_neg h2]
        exact l1 _ (by omega)
theorem addF_twice (f m : Nat → BitVec 8) : addF (addF f m) m = f := by
  funext j
  show xB (xB (f j) (m j)) (m j) = f j
  show (f j ^^^ m j) ^^^ m j = f j
  rw [BitVec.xor_assoc, BitVec.xor_self, BitVec.xor_zero]
theorem addF_congr {f g : Nat → BitVec 8} (m : Nat → BitVec 8) (h : Eq16 f g) : Eq16 (addF f m) (addF g m) := fun j hj => by
  show xB (f j) (m j) = xB (g j) (m j)
  rw [h j hj]
theorem undoes_enc (S : Nat → BitVec 8) (r : Nat) (hr : 1 ≤ r) : Undoes (chF (encF S bxT twT r)) (chF (decF S ubT twT r)) :=
  ⟨fun t f => by
    unfold chF
    rw [addF_twice]
    have h1 := addF_congr (byB t) (dec_enc S (addF f (byB t)) r hr)
    rwa [addF_twice] at h1, fun t f g h => by
    unfold chF
    exact addF_congr _ (decF_congr S r (addF_congr _ h))⟩
theorem undoes_dec (S : Nat → BitVec 8) (r : Nat) (hr : 1 ≤ r) : Undoes (chF (decF S ubT twT r)) (chF (encF S bxT twT r)) :=
  ⟨fun t f => by
    unfold chF
    rw [addF_twice]
    have h1 := addF_congr (byB t) (enc_dec S (addF f (byB t)) r hr)
    rwa [addF_twice] at h1, fun t f g h => by
    unfold chF
    exact addF_congr _ (encF_congr S r (addF_congr _ h))⟩
def nbOf (l : Nat) : Nat := if l % 16 = 0 then l / 16 else l / 16 - 1
theorem nbOf_spec (l : Nat) (hl : 16 ≤ l) : (l % 16 = 0 ∧ l = 16 * nbOf l) ∨ (l % 16 ≠ 0 ∧ l = 16 * nbOf l + 16 + l % 16) := by
  unfold nbOf
  by_cases h : l % 16 = 0
  · rw [if_pos h]; exact .inl ⟨h, by omega⟩
  · rw [if_neg h]; exact .inr ⟨h, by omega⟩
/-- a unit enciphered, deciphered -/
def xE (S1 S2 : Nat → BitVec 8) (r : Nat) (u : BitVec 64) (D : Nat → BitVec 8) (l : Nat) : Nat → BitVec 8 := xencF (chF (encF S1 bxT twT r)) (tw0 S2 r u) D (nbOf l) l
def xD (S1 S2 : Nat → BitVec 8) (r : Nat) (u : BitVec 64) (D : Nat → BitVec 8) (l : Nat) : Nat → BitVec 8 := xdecF (chF (decF S1 ubT twT r)) (tw0 S2 r u) D (nbOf l) l
theorem xE_unit (S1 S2 : Nat → BitVec 8) (r : Nat) (u : BitVec 64) (D : Nat → BitVec 8) (l : Nat) : xE S1 S2 r u D l = unitF (chF (encF S1 bxT twT r)) (tw0 S2 r u) (dK 135#128 (nbOf l) (tw0 S2 r u)) (dX 135#128 (dK 135#128 (nbOf l) (tw0 S2 r u))) D (nbOf l) l := rfl
theorem xD_unit (S1 S2 : Nat → BitVec 8) (r : Nat) (u : BitVec 64) (D : Nat → BitVec 8) (l : Nat) : xD S1 S2 r u D l = unitF (chF (decF S1 ubT twT r)) (tw0 S2 r u) (dX 135#128 (dK 135#128 (nbOf l) (tw0 S2 r u))) (dK 135#128 (nbOf l) (tw0 S2 r u)) D (nbOf l) l := rfl
theorem xD_xE (S1 S2 : Nat → BitVec 8) (r : Nat) (hr : 1 ≤ r) (u : BitVec 64) (D : Nat → BitVec 8) (l : Nat) (hl : 16 ≤ l) (j : Nat) (hj : j < l) : xD S1 S2 r u (xE S1 S2 r u D l) l j = D j := by
  rw [xD_unit, xE_unit]
  exact unit_back (undoes_enc S1 r hr) _ _ _ D _ l (nbOf_spec l hl) j hj
theorem xE_xD (S1 S2 : Nat → BitVec 8) (r : Nat) (hr : 1 ≤ r) (u : BitVec 64) (D : Nat → BitVec 8) (l : Nat) (hl : 16 ≤ l) (j : Nat) (hj : j < l) : xE S1 S2 r u (xD S1 S2 r u D l) l j = D j := by
  rw [xD_unit, xE_unit]
  exact unit_back (undoes_dec S1 r hr) _ _ _ D _ l (nbOf_spec l hl) j hj
theorem xencV (q c1 c2 r l : Nat) (S1 S2 : Nat → BitVec 8) (hr : 1 ≤ r) (hr2 : r ≤ 14) (u : BitVec 64) (v : Value) (D : Nat → BitVec 8) (w : World) (hP : PairAt q c1 c2 r S1 S2 w) (hl1 : 16 ≤ l) (hl2 : l ≤ 65536) (hD : BV v l D w) :
    Calls Try.prog 21 #[.pointer (some ⟨q, 0, none⟩), .int .u64 (u.toNat : Int), v] w fun e w' => ∃ v', e = .returned (.tuple #[v', .int .i64 0]) ∧ OwnB w.heap.size 5 v' l (yv (xE S1 S2 r u D l)) w' ∧ Ext w w' := by
  rcases hD with ⟨_, h⟩ | ⟨a, cap, rfl, h2, h3⟩
  · omega
  · exact xenc_any q c1 c2 r l cap (nbOf l) S1 S2 hr hr2 u a D w hP hl1 hl2 h2 h3 (nbOf_spec l hl1)
theorem xdecV (q c1 c2 r l : Nat) (S1 S2 : Nat → BitVec 8) (hr : 1 ≤ r) (hr2 : r ≤ 14) (u : BitVec 64) (v : Value) (D : Nat → BitVec 8) (w : World) (hP : PairAt q c1 c2 r S1 S2 w) (hl1 : 16 ≤ l) (hl2 : l ≤ 65536) (hD : BV v l D w) :
    Calls Try.prog 23 #[.pointer (some ⟨q, 0, none⟩), .int .u64 (u.toNat : Int), v] w fun e w' => ∃ v', e = .returned (.tuple #[v', .int .i64 0]) ∧ OwnB w.heap.size 5 v' l (yv (xD S1 S2 r u D l)) w' ∧ Ext w w' := by
  rcases hD with ⟨_, h⟩ | ⟨a, cap, rfl, h2, h3⟩
  · omega
  · exact xdec_any q c1 c2 r l cap (nbOf l) S1 S2 hr hr2 u a D w hP hl1 hl2 h2 h3 (nbOf_spec l hl1)
end Go.Proofs.Ytkoodgfadedeoaa
