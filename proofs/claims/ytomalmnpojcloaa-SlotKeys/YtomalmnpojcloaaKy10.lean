/-
  Slots and keys there and back: plain facts on bytes; what is decoded of what was encoded.
-/
import Derived.Test.YtomalmnpojcloaaKy9
namespace Go.Proofs.Ytomalmnpojcloaa
open Go.RowKit Go.BigFrame
theorem sl_zero (f : Nat → BitVec 8) : zB (padF (slF f) 84) 512 = false := zB_false (i := 0) (by
  show ¬ (if 0 < 84 then slF f 0 else 0#8) = 0#8
  rw [if_pos (by decide)]
  show ¬ (if 0 < 4 then bT [83, 76, 79, 84] 0 else f (0 - 4)) = 0#8
  rw [if_pos (by decide)]
  decide) 512 (by decide)
theorem sl_ok (f : Nat → BitVec 8) : okS (padF (slF f) 84) = true := by
  unfold okS
  rw [Bool.and_eq_true]
  constructor
  · rw [eqN_iff]
    intro j hj
    unfold padF slF
    rw [if_pos (by omega), if_pos hj]
  · rw [zB_spec]
    intro j hj
    unfold padF
    rw [if_neg (by omega)]
theorem sl_back (f : Nat → BitVec 8) (j : Nat) (hj : j < 80) : padF (slF f) 84 (4 + j) = f j := by
  unfold padF slF
  rw [if_pos (by omega), if_neg (by omega), Nat.add_sub_cancel_left]
theorem dec_back (v : Value) (f : Nat → BitVec 8) (w : World) (hv : BV v 512 (padF (slF f) 84) w) : Calls Try.prog 11 #[v] w fun e w' => e = .returned (.tuple #[.agg (row 81 (slv true f)).toArray, .int .i64 0]) ∧ Ext w w' := by
  have h := dec_act v _ w hv (sl_zero f) (sl_ok f)
  rwa [slv_congr (f := fun j => padF (slF f) 84 (4 + j)) (g := f) (fun j hj => sl_back f j hj)] at h
theorem dec_back0 (v : Value) (w : World) (hv : BV v 512 zF w) : Calls Try.prog 11 #[v] w fun e w' => e = .returned (.tuple #[.agg (row 81 (slv false zF)).toArray, .int .i64 0]) ∧ Ext w w' :=
  dec_zero v zF w hv (by rw [zB_spec]; intro j _; rfl)
theorem byB_nat (x : BitVec 64) (j : Nat) : (byB x j).toNat = x.toNat / 2 ^ (8 * j) % 256 := by
  unfold byB
  rw [BitVec.toNat_setWidth, BitVec.toNat_ushiftRight, Nat.shiftRight_eq_div_pow]
theorem le_by4 (g : Nat → BitVec 8) (x : BitVec 64) (h : ∀ j, j < 4 → g j = byB x j) (hx : x.toNat ≤ 4294967295) : leN g 4 = x := by
  apply BitVec.eq_of_toNat_eq
  rw [(leN_nat g 4 (by omega)).1]
  have e0 := byB_nat x 0
  have e1 := byB_nat x 1
  have e2 := byB_nat x 2
  have e3 := byB_nat x 3
  simp only [leS, h 0 (by omega), h 1 (by omega), h 2 (by omega), h 3 (by omega), e0, e1, e2, e3]
  clear e0 e1 e2 e3 h
  generalize x.toNat = q at *
  omega
theorem EpAt.congr2 {a o n : Nat} {xs ys : Nat → Int} {fs gs : Nat → Nat → BitVec 8} {w : World} (h : EpAt a o n xs fs w) (e : ∀ i, i < n → xs i = ys i) (e2 : ∀ i, i < n → ∀ j, j < 64 → fs i j = gs i j) : EpAt a o n ys gs w := fun i hi j hj => by
  rw [h i hi j hj]
  unfold epv
  by_cases h0 : j = 0
  · rw [if_pos h0, if_pos h0, e i hi]
  · rw [if_neg h0, if_neg h0, e2 i hi (j - 1) (by omega)]
theorem EV.congr {v : Value} {n : Nat} {xs ys : Nat → Int} {fs gs : Nat → Nat → BitVec 8} {w : World} (h : EV v n xs fs w) (e : ∀ i, i < n → xs i = ys i) (e2 : ∀ i, i < n → ∀ j, j < 64 → fs i j = gs i j) : EV v n ys gs w := by
  rcases h with h | ⟨a, o, cap, h1, h2, h3⟩
  · exact .inl h
  · exact .inr ⟨a, o, cap, h1, h2, h3.congr2 e e2⟩
def keB (n : Nat) (xs : Nat → Int) (fs : Nat → Nat → BitVec 8) (t : Nat → BitVec 8) : Nat → BitVec 8 := padF (keF n xs fs t) (37 + 68 * n)
theorem keB_se {n : Nat} {xs : Nat → Int} {fs : Nat → Nat → BitVec 8} {t : Nat → BitVec 8} (j : Nat) (hj : j < 5 + 68 * n) : keB n xs fs t j = seF n xs fs j := by
  unfold keB padF keF catF
  rw [if_pos (by omega), if_pos hj]
theorem keB_four {n : Nat} {xs : Nat → Int} {fs : Nat → Nat → BitVec 8} {t : Nat → BitVec 8} (hn : n ≤ 2) : (keB n xs fs t 4).toNat = n := by
  rw [keB_se 4 (by omega)]
  unfold seF
  rw [if_neg (by omega), if_pos rfl, BitVec.toNat_ofNat]
  omega
theorem keB_ep {n : Nat} {xs : Nat → Int} {fs : Nat → Nat → BitVec 8} {t : Nat → BitVec 8} (i j : Nat) (hi : i < n) (hj : j < 68) : keB n xs fs t (5 + (68 * i + j)) = oneB (xB xs i) (fs i) j := by
  rw [keB_se _ (by omega)]
  unfold seF
  rw [if_neg (by omega), if_neg (by omega), show 5 + (68 * i + j) - 5 = 68 * i + j by omega]
  unfold manyB
  rw [show (68 * i + j) / 68 = i by omega, show (68 * i + j) % 68 = j by omega]
theorem keB_x {n : Nat} {xs : Nat → Int} {fs : Nat → Nat → BitVec 8} {t : Nat → BitVec 8} (hb : okE n xs) (i : Nat) (hi : i < n) : xG (shF (keB n xs fs t) 5) i = xs i := by
  obtain ⟨h1, h2⟩ := xB_nat hb i hi
  unfold xG
  rw [le_by4 _ (xB xs i) (fun j hj => ?_) h2]
  · exact h1.symm
  · show keB n xs fs t (5 + (68 * i + j)) = _
    rw [keB_ep i j hi (by omega)]
    unfold oneB
    rw [if_pos hj]
theorem keB_f {n : Nat} {xs : Nat → Int} {fs : Nat → Nat → BitVec 8} {t : Nat → BitVec 8} (i : Nat) (hi : i < n) (j : Nat) (hj : j < 64) : fG (shF (keB n xs fs t) 5) i j = fs i j := by
  show keB n xs fs t (5 + (68 * i + (4 + j))) = _
  rw [keB_ep i (4 + j) hi (by omega)]
  unfold oneB
  rw [if_neg (by omega), Nat.add_sub_cancel_left]
theorem keB_t {n : Nat} {xs : Nat → Int} {fs : Nat → Nat → BitVec 8} {t : Nat → BitVec 8} (j : Nat) (hj : j < 32) : shF (keB n xs fs t) (5 + 68 * n) j = t j := by
  show keB n xs fs t (5 + 68 * n + j) = _
  unfold keB padF keF catF
  rw [if_pos (by omega), if_neg (by omega), Nat.add_sub_cancel_left]
theorem okE_congr {n : Nat} {xs ys : Nat → Int} (h : okE n xs) (e : ∀ i, i < n → xs i = ys i) : okE n ys := ⟨h.1, fun i hi => by
  have h0 : 0 < n := by omega
  have := h.2 i hi
  unfold okX at this ⊢
  rw [← e i hi, ← e 0 h0]
  exact this⟩
theorem keB_ok {n : Nat} {xs : Nat → Int} {fs : Nat → Nat → BitVec 8} {t : Nat → BitVec 8} (hb : okE n xs) : okK (keB n xs fs t) := by
  have hn : n ≤ 2 := by have := hb.1; omega
  refine ⟨?_, ?_, ?_⟩
  · rw [eqN_iff]
    intro j hj
    rw [keB_se j (by omega)]
    unfold seF
    rw [if_pos hj]
  · rw [keB_four hn]
    exact okE_congr hb fun i hi => (keB_x hb i hi).symm
  · rw [keB_four hn, zB_spec]
    intro j hj
    show keB n xs fs t (37 + 68 * n + j) = 0#8
    unfold keB padF
    rw [if_neg (by omega)]
/-- what was encoded is decoded -/
theorem kdec_back (v : Value) (n : Nat) (xs : Nat → Int) (fs : Nat → Nat → BitVec 8) (t : Nat → BitVec 8) (w : World) (hv : BV v 512 (keB n xs fs t) w) (hb : okE n xs) :
    Calls Try.prog 18 #[v] w fun e w' => ∃ u s, e = .returned (.tuple #[.agg (row 33 (kyv u s)).toArray, .int .i64 0]) ∧ EV u n xs fs w' ∧ (∀ j, j < 32 → s j = t j) ∧ Ext w w' := by
  have hn : n ≤ 2 := by have := hb.1; omega
  refine (kdec_ok v _ w hv (keB_ok hb)).mono ?_
  rintro e w' ⟨u, rfl, hE, _, hX⟩
  rw [keB_four hn] at hE ⊢
  exact ⟨u, _, rfl, hE.congr (fun i hi => keB_x hb i hi) (fun i hi j hj => keB_f i hi j hj), fun j hj => keB_t j hj, hX⟩
end Go.Proofs.Ytomalmnpojcloaa
