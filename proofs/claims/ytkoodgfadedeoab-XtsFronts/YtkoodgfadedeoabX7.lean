/-
  There and back, on bytes; units by value.
-/
import Derived.Test.YtkoodgfadedeoabX6
import Derived.Test.YtkoodgfadedeoabABv
import Derived.Test.YtkoodgfadedeoabALives
namespace Go.Proofs.Ytkoodgfadedeoab
open Go.RowKit Go.BigFrame
def unitF (ch : BitVec 128 → (Nat → BitVec 8) → Nat → BitVec 8) (t t1 t2 : BitVec 128) (D : Nat → BitVec 8) (nb l : Nat) : Nat → BitVec 8 :=
  if l % 16 = 0 then fronts ch t D else stealF ch t1 t2 (fronts ch t D) D (16 * nb) (l % 16)
/-- one change undoes the other, block by block -/
structure Undoes (chA chB : BitVec 128 → (Nat → BitVec 8) → Nat → BitVec 8) : Prop where
  back : ∀ t f, Eq16 (chB t (chA t f)) f
  congr : ∀ t f g, Eq16 f g → Eq16 (chB t f) (chB t g)
theorem unit_back {chA chB : BitVec 128 → (Nat → BitVec 8) → Nat → BitVec 8} (h : Undoes chA chB) (t t1 t2 : BitVec 128) (D : Nat → BitVec 8) (nb l : Nat) (hnb : (l % 16 = 0 ∧ l = 16 * nb) ∨ (l % 16 ≠ 0 ∧ l = 16 * nb + 16 + l % 16)) (j : Nat) (hj : j < l) :
    unitF chB t t2 t1 (unitF chA t t1 t2 D nb l) nb l j = D j := by
  have hfr : ∀ C : Nat → BitVec 8, (∀ i, i < 16 * nb → C i = fronts chA t D i) → ∀ j, j < 16 * nb → fronts chB t C j = D j := by
    intro C hC j hj
    unfold fronts
    have e : Eq16 (fun i => C (16 * (j / 16) + i)) (chA (dK 135#128 (j / 16) t) (fun i => D (16 * (j / 16) + i))) := fun i hi => by
      show C (16 * (j / 16) + i) = _
      rw [hC _ (by omega)]
      unfold fronts
      rw [show (16 * (j / 16) + i) / 16 = j / 16 by omega, show (16 * (j / 16) + i) % 16 = i by omega]
    have h2 := (h.congr (dK 135#128 (j / 16) t) _ _ e).trans (h.back _ _)
    rw [h2 (j % 16) (by omega)]
    show D (16 * (j / 16) + j % 16) = D j
    rw [show 16 * (j / 16) + j % 16 = j by omega]
  rcases hnb with ⟨hm, hl⟩ | ⟨hm, hl⟩
  · unfold unitF
    rw [if_pos hm, if_pos hm]
    exact hfr _ (fun _ _ => rfl) j (by omega)
  · obtain ⟨s, hs⟩ : ∃ s, s = l % 16 := ⟨_, rfl⟩
    have hs1 : s < 16 := by omega
    unfold unitF
    rw [if_neg hm, if_neg hm, ← hs]
    rw [← hs] at hl
    obtain ⟨m, hmm⟩ : ∃ m, m = 16 * nb := ⟨_, rfl⟩
    rw [← hmm] at hl hfr ⊢
    obtain ⟨L, hL⟩ : ∃ L, L = lendF chA t1 D m := ⟨_, rfl⟩
    obtain ⟨C, hC⟩ : ∃ C, C = stealF chA t1 t2 (fronts chA t D) D m s := ⟨_, rfl⟩
    rw [← hC]
    have c1 : ∀ i, i < m → C i = fronts chA t D i := fun i hi => by rw [hC]; unfold stealF; rw [if_pos hi]
    have c2 : ∀ i, i < 16 → C (m + i) = chA t2 (fillF L D m s) i := fun i hi => by rw [hC, hL]; unfold stealF; rw [if_neg (by omega), if_pos (by omega), Nat.add_sub_cancel_left]
    have c3 : ∀ i, C (m + 16 + i) = L i := fun i => by rw [hC, hL]; unfold stealF; rw [if_neg (by omega), if_neg (by omega), Nat.add_sub_cancel_left]
    have d1 : Eq16 (lendF chB t2 C m) (fillF L D m s) := by
      unfold lendF
      exact (h.congr t2 _ _ (fun i hi => c2 i hi)).trans (h.back _ _)
    have d2 : Eq16 (fillF (lendF chB t2 C m) C m s) L := fun i hi => by
      show (if i < s then C (m + 16 + i) else lendF chB t2 C m i) = L i
      by_cases h1 : i < s
      · rw [if_pos h1, c3]
      · rw [if_neg h1, d1 i hi]
        unfold fillF
        rw [if_neg h1]
    have d3 : Eq16 (chB t1 (fillF (lendF chB t2 C m) C m s)) (fun i => D (m + i)) := by
      refine (h.congr t1 _ _ d2).trans ?_
      rw [hL]
      exact h.back _ _
    show (if j < m then fronts chB t C j else if j < m + 16 then chB t1 (fillF (lendF chB t2 C m) C m s) (j - m) else lendF chB t2 C m (j - (m + 16))) = D j
    by_cases h1 : j < m
    · rw [if_pos h1]
      exact hfr C c1 j h1
    · rw [if_neg h1]
      by_cases h2 : j < m + 16
      · rw [if_pos h2, d3 (j - m) (by omega)]
        show D (m + (j - m)) = D j
        rw [show m + (j - m) = j by omega]
      · rw [if_neg h2, d1 _ (by omega)]
        unfold fillF
        rw [if_pos (by omega), show m + 16 + (j - (m + 16)) = j by omega]
theorem unitF_congr (ch : BitVec 128 → (Nat → BitVec 8) → Nat → BitVec 8) (hc : ∀ t f g, Eq16 f g → Eq16 (ch t f) (ch t g)) (t t1 t2 : BitVec 128) (D D' : Nat → BitVec 8) (nb l : Nat) (hnb : (l % 16 = 0 ∧ l = 16 * nb) ∨ (l % 16 ≠ 0 ∧ l = 16 * nb + 16 + l % 16)) (hD : ∀ j, j < l → D j = D' j) (j : Nat) (hj : j < l) :
    unitF ch t t1 t2 D nb l j = unitF ch t t1 t2 D' nb l j := by
  have hfr : ∀ j, j < 16 * nb → fronts ch t D j = fronts ch t D' j := fun j hj => by
    unfold fronts
    exact hc _ _ _ (fun i hi => hD _ (by omega)) (j % 16) (by omega)
  unfold unitF
  rcases hnb with ⟨hm, hl⟩ | ⟨hm, hl⟩
  · rw [if_pos hm, if_pos hm]
    exact hfr j (by omega)
  · rw [if_neg hm, if_neg hm]
    obtain ⟨s, hs⟩ : ∃ s, s = l % 16 := ⟨_, rfl⟩
    rw [← hs] at hl ⊢
    have hs1 : s < 16 := by omega
    have l1 : Eq16 (lendF ch t1 D (16 * nb)) (lendF ch t1 D' (16 * nb)) := hc _ _ _ (fun i hi => hD _ (by omega))
    unfold stealF
    by_cases h1 : j < 16 * nb
    · rw [if_pos h1, if_pos h1]; exact hfr j h1
    · rw [if_neg h1, if_neg h1]
      by_cases h2 : j < 16 * nb + 16
      · rw [if_pos h2, if_pos h2]
        refine hc _ _ _ (fun i hi => ?_) _ (by omega)
        unfold fillF
        by_cases h3 : i < s
        · rw [if_pos h3, if_pos h3]; exact hD _ (by omega)
        · rw [if_neg h3, if_neg h3]; exact l1 i hi
      · rw [if_neg h2, if_neg h2]
        exact l1 _ (by omega)
theorem addF_twice (f m : Nat → BitVec 8) : addF (addF f m) m = f := by
  funext j
  show xB (xB (f j) (m j)) (m j) = f j
  show (f j ^^^ m j) ^^^ m j = f j
  rw [BitVec.xor_assoc, BitVec.xor_self, BitVec.xor_zero]
theorem addF_congr {f g : Nat → BitVec 8} (m : Nat → BitVec 8) (h : Eq16 f g) : Eq16 (addF f m) (addF g m) := fun j hj => by
  show xB (f j) (m j) = xB (g j) (m j)
  rw [h j hj]
theorem undoes_enc (S : Nat → BitVec 8) (r : Nat) (hr : 1 ≤ r) : Undoes (chF (encF S bxT twT r)) (chF (decF S ubT twT r)) :=
  ⟨fun t f => by
    unfold chF
    rw [addF_twice]
    have h1 := addF_congr (byB t) (dec_enc S (addF f (byB t)) r hr)
    rwa [addF_twice] at h1, fun t f g h => by
    unfold chF
    exact addF_congr _ (decF_congr S r (addF_congr _ h))⟩
theorem undoes_dec (S : Nat → BitVec 8) (r : Nat) (hr : 1 ≤ r) : Undoes (chF (decF S ubT twT r)) (chF (encF S bxT twT r)) :=
  ⟨fun t f => by
    unfold chF
    rw [addF_twice]
    have h1 := addF_congr (byB t) (enc_dec S (addF f (byB t)) r hr)
    rwa [addF_twice] at h1, fun t f g h => by
    unfold chF
    exact addF_congr _ (encF_congr S r (addF_congr _ h))⟩
def nbOf (l : Nat) : Nat := if l % 16 = 0 then l / 16 else l / 16 - 1
theorem nbOf_spec (l : Nat) (hl : 16 ≤ l) : (l % 16 = 0 ∧ l = 16 * nbOf l) ∨ (l % 16 ≠ 0 ∧ l = 16 * nbOf l + 16 + l % 16) := by
  unfold nbOf
  by_cases h : l % 16 = 0
  · rw [if_pos h]; exact .inl ⟨h, by omega⟩
  · rw [if_neg h]; exact .inr ⟨h, by omega⟩
/-- a unit enciphered, deciphered -/
def xE (S1 S2 : Nat → BitVec 8) (r : Nat) (u : BitVec 64) (D : Nat → BitVec 8) (l : Nat) : Nat → BitVec 8 := xencF (chF (encF S1 bxT twT r)) (tw0 S2 r u) D (nbOf l) l
def xD (S1 S2 : Nat → BitVec 8) (r : Nat) (u : BitVec 64) (D : Nat → BitVec 8) (l : Nat) : Nat → BitVec 8 := xdecF (chF (decF S1 ubT twT r)) (tw0 S2 r u) D (nbOf l) l
theorem xE_unit (S1 S2 : Nat → BitVec 8) (r : Nat) (u : BitVec 64) (D : Nat → BitVec 8) (l : Nat) : xE S1 S2 r u D l = unitF (chF (encF S1 bxT twT r)) (tw0 S2 r u) (dK 135#128 (nbOf l) (tw0 S2 r u)) (dX 135#128 (dK 135#128 (nbOf l) (tw0 S2 r u))) D (nbOf l) l := rfl
theorem xD_unit (S1 S2 : Nat → BitVec 8) (r : Nat) (u : BitVec 64) (D : Nat → BitVec 8) (l : Nat) : xD S1 S2 r u D l = unitF (chF (decF S1 ubT twT r)) (tw0 S2 r u) (dX 135#128 (dK 135#128 (nbOf l) (tw0 S2 r u))) (dK 135#128 (nbOf l) (tw0 S2 r u)) D (nbOf l) l := rfl
theorem xD_xE (S1 S2 : Nat → BitVec 8) (r : Nat) (hr : 1 ≤ r) (u : BitVec 64) (D : Nat → BitVec 8) (l : Nat) (hl : 16 ≤ l) (j : Nat) (hj : j < l) : xD S1 S2 r u (xE S1 S2 r u D l) l j = D j := by
  rw [xD_unit, xE_unit]
  exact unit_back (undoes_enc S1 r hr) _ _ _ D _ l (nbOf_spec l hl) j hj
theorem xE_xD (S1 S2 : Nat → BitVec 8) (r : Nat) (hr : 1 ≤ r) (u : BitVec 64) (D : Nat → BitVec 8) (l : Nat) (hl : 16 ≤ l) (j : Nat) (hj : j < l) : xE S1 S2 r u (xD S1 S2 r u D l) l j = D j := by
  rw [xD_unit, xE_unit]
  exact unit_back (undoes_dec S1 r hr) _ _ _ D _ l (nbOf_spec l hl) j hj
theorem xencV (q c1 c2 r l : Nat) (S1 S2 : Nat → BitVec 8) (hr : 1 ≤ r) (hr2 : r ≤ 14) (u : BitVec 64) (v : Value) (D : Nat → BitVec 8) (w : World) (hP : PairAt q c1 c2 r S1 S2 w) (hl1 : 16 ≤ l) (hl2 : l ≤ 65536) (hD : BV v l D w) :
    Calls Try.prog 6 #[.pointer (some ⟨q, 0, none⟩), .int .u64 (u.toNat : Int), v] w fun e w' => ∃ v', e = .returned (.tuple #[v', .int .i64 0]) ∧ OwnB w.heap.size 5 v' l (yv (xE S1 S2 r u D l)) w' ∧ Ext w w' := by
  rcases hD with ⟨_, h⟩ | ⟨a, cap, rfl, h2, h3⟩
  · omega
  · exact xenc_any q c1 c2 r l cap (nbOf l) S1 S2 hr hr2 u a D w hP hl1 hl2 h2 h3 (nbOf_spec l hl1)
theorem xdecV (q c1 c2 r l : Nat) (S1 S2 : Nat → BitVec 8) (hr : 1 ≤ r) (hr2 : r ≤ 14) (u : BitVec 64) (v : Value) (D : Nat → BitVec 8) (w : World) (hP : PairAt q c1 c2 r S1 S2 w) (hl1 : 16 ≤ l) (hl2 : l ≤ 65536) (hD : BV v l D w) :
    Calls Try.prog 7 #[.pointer (some ⟨q, 0, none⟩), .int .u64 (u.toNat : Int), v] w fun e w' => ∃ v', e = .returned (.tuple #[v', .int .i64 0]) ∧ OwnB w.heap.size 5 v' l (yv (xD S1 S2 r u D l)) w' ∧ Ext w w' := by
  rcases hD with ⟨_, h⟩ | ⟨a, cap, rfl, h2, h3⟩
  · omega
  · exact xdec_any q c1 c2 r l cap (nbOf l) S1 S2 hr hr2 u a D w hP hl1 hl2 h2 h3 (nbOf_spec l hl1)
end Go.Proofs.Ytkoodgfadedeoab
