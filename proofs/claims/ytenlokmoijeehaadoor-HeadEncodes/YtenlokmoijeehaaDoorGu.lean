/-
  A header's bytes, and what bytes say: there and back. When headers are the same. What must come of every program. How headers that came in read.
-/
import Derived.Test.YtenlokmoijeehaaDoorGs
import Derived.Test.YtenlokmoijeehaaDoorGl
import Derived.Test.YtenlokmoijeehaaDoorGt
import Derived.Test.YtenlokmoijeehaaDoorGg
import Derived.Test.YtenlokmoijeehaaDoorGm
import Derived.Deep.Slices
namespace Go.Proofs.YtenlokmoijeehaaDoor
open Go.RowKit Go.BigFrame
theorem byB_nat (x : BitVec 64) (j : Nat) : (byB x j).toNat = x.toNat / 2 ^ (8 * j) % 256 := by
  unfold byB
  rw [BitVec.toNat_setWidth, BitVec.toNat_ushiftRight, Nat.shiftRight_eq_div_pow]
theorem le_by (g : Nat → BitVec 8) (x : BitVec 64) (h : ∀ j, j < 8 → g j = byB x j) : leN g 8 = x := by
  apply BitVec.eq_of_toNat_eq
  rw [(leN_nat g 8 (by omega)).1]
  have e0 := byB_nat x 0
  have e1 := byB_nat x 1
  have e2 := byB_nat x 2
  have e3 := byB_nat x 3
  have e4 := byB_nat x 4
  have e5 := byB_nat x 5
  have e6 := byB_nat x 6
  have e7 := byB_nat x 7
  have hx := x.isLt
  simp only [leS, h 0 (by omega), h 1 (by omega), h 2 (by omega), h 3 (by omega), h 4 (by omega), h 5 (by omega), h 6 (by omega), h 7 (by omega), e0, e1, e2, e3, e4, e5, e6, e7]
  clear e0 e1 e2 e3 e4 e5 e6 e7 h
  generalize x.toNat = q at *
  omega
theorem le_by1 (g : Nat → BitVec 8) (x : BitVec 64) (h : ∀ j, j < 1 → g j = byB x j) (hx : x.toNat < 256) : leN g 1 = x := by
  apply BitVec.eq_of_toNat_eq
  rw [(leN_nat g 1 (by omega)).1]
  have e0 := byB_nat x 0
  simp only [leS, h 0 (by omega), e0]
  clear e0 h
  generalize x.toNat = q at *
  omega
theorem le_by2 (g : Nat → BitVec 8) (x : BitVec 64) (h : ∀ j, j < 2 → g j = byB x j) (hx : x.toNat < 65536) : leN g 2 = x := by
  apply BitVec.eq_of_toNat_eq
  rw [(leN_nat g 2 (by omega)).1]
  have e0 := byB_nat x 0
  have e1 := byB_nat x 1
  simp only [leS, h 0 (by omega), h 1 (by omega), e0, e1]
  clear e0 e1 h
  generalize x.toNat = q at *
  omega
theorem le_by4 (g : Nat → BitVec 8) (x : BitVec 64) (h : ∀ j, j < 4 → g j = byB x j) (hx : x.toNat < 4294967296) : leN g 4 = x := by
  apply BitVec.eq_of_toNat_eq
  rw [(leN_nat g 4 (by omega)).1]
  have e0 := byB_nat x 0
  have e1 := byB_nat x 1
  have e2 := byB_nat x 2
  have e3 := byB_nat x 3
  simp only [leS, h 0 (by omega), h 1 (by omega), h 2 (by omega), h 3 (by omega), e0, e1, e2, e3]
  clear e0 e1 e2 e3 h
  generalize x.toNat = q at *
  omega
theorem by_le1 (g : Nat → BitVec 8) (m : Nat) (hm : m < 1) : byB (leN g 1) m = g m := by
  apply BitVec.eq_of_toNat_eq
  rw [byB_nat, (leN_nat g 1 (by decide)).1]
  have h0 := (g 0).isLt
  simp only [leS]
  obtain rfl : m = 0 := by omega
  omega
theorem by_le2 (g : Nat → BitVec 8) (m : Nat) (hm : m < 2) : byB (leN g 2) m = g m := by
  apply BitVec.eq_of_toNat_eq
  rw [byB_nat, (leN_nat g 2 (by decide)).1]
  have h0 := (g 0).isLt
  have h1 := (g 1).isLt
  simp only [leS]
  rcases (by omega : m = 0 ∨ m = 1) with rfl | rfl <;> omega
theorem by_le4 (g : Nat → BitVec 8) (m : Nat) (hm : m < 4) : byB (leN g 4) m = g m := by
  apply BitVec.eq_of_toNat_eq
  rw [byB_nat, (leN_nat g 4 (by decide)).1]
  have h0 := (g 0).isLt
  have h1 := (g 1).isLt
  have h2 := (g 2).isLt
  have h3 := (g 3).isLt
  simp only [leS]
  rcases (by omega : m = 0 ∨ m = 1 ∨ m = 2 ∨ m = 3) with rfl | rfl | rfl | rfl <;> omega
theorem by_le8 (g : Nat → BitVec 8) (m : Nat) (hm : m < 8) : byB (leN g 8) m = g m := by
  apply BitVec.eq_of_toNat_eq
  rw [byB_nat, (leN_nat g 8 (by decide)).1]
  have h0 := (g 0).isLt
  have h1 := (g 1).isLt
  have h2 := (g 2).isLt
  have h3 := (g 3).isLt
  have h4 := (g 4).isLt
  have h5 := (g 5).isLt
  have h6 := (g 6).isLt
  have h7 := (g 7).isLt
  simp only [leS]
  rcases (by omega : m = 0 ∨ m = 1 ∨ m = 2 ∨ m = 3 ∨ m = 4 ∨ m = 5 ∨ m = 6 ∨ m = 7) with rfl | rfl | rfl | rfl | rfl | rfl | rfl | rfl <;> omega
theorem bI_of (x : BitVec 64) : bI ((x.toNat : Nat) : Int) = x := by
  unfold bI
  rw [Int.toNat_natCast]
  apply BitVec.eq_of_toNat_eq
  rw [BitVec.toNat_ofNat, Nat.mod_eq_of_lt x.isLt]
/-- a header's 44 bytes, by place -/
def hpF (h : Hd) (j : Nat) : BitVec 8 :=
  if j < 8 then bT mkL j else if j < 16 then byB h.g (j - 8) else if j < 20 then byB (bI h.se) (j - 16) else if j < 21 then byB (bI h.sl) (j - 20) else if j < 23 then byB (bI h.jo) (j - 21) else if j < 24 then byB (bI h.sg) (j - 23)
  else if j < 25 then byB (bI h.ti) (j - 24) else if j < 27 then byB (bI h.me) (j - 25) else if j < 28 then byB (bI h.la) (j - 27) else h.nm (j - 28)
theorem hdF_hp (h : Hd) (j : Nat) : hdF h j = hpF h j := by
  unfold hdF ppF hm1 hpF mkL catF
  by_cases c0 : j < 8
  · have q8 : j < 8 := by omega
    have q16 : j < 16 := by omega
    have q20 : j < 20 := by omega
    have q21 : j < 21 := by omega
    have q23 : j < 23 := by omega
    have q24 : j < 24 := by omega
    have q25 : j < 25 := by omega
    have q27 : j < 27 := by omega
    have q28 : j < 28 := by omega
    simp only [Nat.reduceAdd, q8, q16, q20, q21, q23, q24, q25, q27, q28, if_true]
  by_cases c1 : j < 16
  · have q8 : ¬ j < 8 := by omega
    have q16 : j < 16 := by omega
    have q20 : j < 20 := by omega
    have q21 : j < 21 := by omega
    have q23 : j < 23 := by omega
    have q24 : j < 24 := by omega
    have q25 : j < 25 := by omega
    have q27 : j < 27 := by omega
    have q28 : j < 28 := by omega
    simp only [Nat.reduceAdd, q8, q16, q20, q21, q23, q24, q25, q27, q28, if_true, if_false]
  by_cases c2 : j < 20
  · have q8 : ¬ j < 8 := by omega
    have q16 : ¬ j < 16 := by omega
    have q20 : j < 20 := by omega
    have q21 : j < 21 := by omega
    have q23 : j < 23 := by omega
    have q24 : j < 24 := by omega
    have q25 : j < 25 := by omega
    have q27 : j < 27 := by omega
    have q28 : j < 28 := by omega
    simp only [Nat.reduceAdd, q8, q16, q20, q21, q23, q24, q25, q27, q28, if_true, if_false]
  by_cases c3 : j < 21
  · have q8 : ¬ j < 8 := by omega
    have q16 : ¬ j < 16 := by omega
    have q20 : ¬ j < 20 := by omega
    have q21 : j < 21 := by omega
    have q23 : j < 23 := by omega
    have q24 : j < 24 := by omega
    have q25 : j < 25 := by omega
    have q27 : j < 27 := by omega
    have q28 : j < 28 := by omega
    simp only [Nat.reduceAdd, q8, q16, q20, q21, q23, q24, q25, q27, q28, if_true, if_false]
  by_cases c4 : j < 23
  · have q8 : ¬ j < 8 := by omega
    have q16 : ¬ j < 16 := by omega
    have q20 : ¬ j < 20 := by omega
    have q21 : ¬ j < 21 := by omega
    have q23 : j < 23 := by omega
    have q24 : j < 24 := by omega
    have q25 : j < 25 := by omega
    have q27 : j < 27 := by omega
    have q28 : j < 28 := by omega
    simp only [Nat.reduceAdd, q8, q16, q20, q21, q23, q24, q25, q27, q28, if_true, if_false]
  by_cases c5 : j < 24
  · have q8 : ¬ j < 8 := by omega
    have q16 : ¬ j < 16 := by omega
    have q20 : ¬ j < 20 := by omega
    have q21 : ¬ j < 21 := by omega
    have q23 : ¬ j < 23 := by omega
    have q24 : j < 24 := by omega
    have q25 : j < 25 := by omega
    have q27 : j < 27 := by omega
    have q28 : j < 28 := by omega
    simp only [Nat.reduceAdd, q8, q16, q20, q21, q23, q24, q25, q27, q28, if_true, if_false]
  by_cases c6 : j < 25
  · have q8 : ¬ j < 8 := by omega
    have q16 : ¬ j < 16 := by omega
    have q20 : ¬ j < 20 := by omega
    have q21 : ¬ j < 21 := by omega
    have q23 : ¬ j < 23 := by omega
    have q24 : ¬ j < 24 := by omega
    have q25 : j < 25 := by omega
    have q27 : j < 27 := by omega
    have q28 : j < 28 := by omega
    simp only [Nat.reduceAdd, q8, q16, q20, q21, q23, q24, q25, q27, q28, if_true, if_false]
  by_cases c7 : j < 27
  · have q8 : ¬ j < 8 := by omega
    have q16 : ¬ j < 16 := by omega
    have q20 : ¬ j < 20 := by omega
    have q21 : ¬ j < 21 := by omega
    have q23 : ¬ j < 23 := by omega
    have q24 : ¬ j < 24 := by omega
    have q25 : ¬ j < 25 := by omega
    have q27 : j < 27 := by omega
    have q28 : j < 28 := by omega
    simp only [Nat.reduceAdd, q8, q16, q20, q21, q23, q24, q25, q27, q28, if_true, if_false]
  by_cases c8 : j < 28
  · have q8 : ¬ j < 8 := by omega
    have q16 : ¬ j < 16 := by omega
    have q20 : ¬ j < 20 := by omega
    have q21 : ¬ j < 21 := by omega
    have q23 : ¬ j < 23 := by omega
    have q24 : ¬ j < 24 := by omega
    have q25 : ¬ j < 25 := by omega
    have q27 : ¬ j < 27 := by omega
    have q28 : j < 28 := by omega
    simp only [Nat.reduceAdd, q8, q16, q20, q21, q23, q24, q25, q27, q28, if_true, if_false]
  have q8 : ¬ j < 8 := by omega
  have q16 : ¬ j < 16 := by omega
  have q20 : ¬ j < 20 := by omega
  have q21 : ¬ j < 21 := by omega
  have q23 : ¬ j < 23 := by omega
  have q24 : ¬ j < 24 := by omega
  have q25 : ¬ j < 25 := by omega
  have q27 : ¬ j < 27 := by omega
  have q28 : ¬ j < 28 := by omega
  simp only [Nat.reduceAdd, q8, q16, q20, q21, q23, q24, q25, q27, q28, if_false]
/-- the bytes that a header has say this header -/
theorem hz_at (h : Hd) {j : Nat} (hj : j < 44) : hbF h j = hpF h j := by
  unfold hbF hzF padF catF
  rw [if_pos (by omega)]
  show (if j < 44 then hdF h j else 0#8) = _
  rw [if_pos hj, hdF_hp]
theorem of_g (h : Hd) : (ofB (hbF h)).g = h.g := le_by _ _ fun j hj => by
    show hbF h (8 + j) = _
    rw [hz_at h (by omega)]
    unfold hpF
    rw [if_neg (by omega), if_pos (by omega)]
    congr 1
    omega
theorem of_se (h : Hd) (h0 : 0 ≤ h.se) (h1 : h.se < 65536) : (ofB (hbF h)).se = h.se := by
  have e : leN (shF (shF (hbF h) 8) 8) 4 = bI h.se := le_by4 _ _ (fun j hj => by
    show hbF h (8 + (8 + j)) = _
    rw [hz_at h (by omega)]
    unfold hpF
    rw [if_neg (by omega), if_neg (by omega), if_pos (by omega)]
    congr 1
    omega) (by
    have := bI_nat h0 (by omega)
    omega)
  show ((leN (shF (shF (hbF h) 8) 8) 4).toNat : Int) = _
  rw [e, bI_nat h0 (by omega)]
theorem of_sl (h : Hd) (h0 : 0 ≤ h.sl) (h1 : h.sl < 256) : (ofB (hbF h)).sl = h.sl := by
  have e : leN (shF (shF (shF (hbF h) 8) 8) 4) 1 = bI h.sl := le_by1 _ _ (fun j hj => by
    show hbF h (8 + (8 + (4 + j))) = _
    rw [hz_at h (by omega)]
    unfold hpF
    rw [if_neg (by omega), if_neg (by omega), if_neg (by omega), if_pos (by omega)]
    congr 1
    omega) (by
    have := bI_nat h0 (by omega)
    omega)
  show ((leN (shF (shF (shF (hbF h) 8) 8) 4) 1).toNat : Int) = _
  rw [e, bI_nat h0 (by omega)]
theorem of_jo (h : Hd) (h0 : 0 ≤ h.jo) (h1 : h.jo < 65536) : (ofB (hbF h)).jo = h.jo := by
  have e : leN (shF (shF (shF (shF (hbF h) 8) 8) 4) 1) 2 = bI h.jo := le_by2 _ _ (fun j hj => by
    show hbF h (8 + (8 + (4 + (1 + j)))) = _
    rw [hz_at h (by omega)]
    unfold hpF
    rw [if_neg (by omega), if_neg (by omega), if_neg (by omega), if_neg (by omega), if_pos (by omega)]
    congr 1
    omega) (by
    have := bI_nat h0 (by omega)
    omega)
  show ((leN (shF (shF (shF (shF (hbF h) 8) 8) 4) 1) 2).toNat : Int) = _
  rw [e, bI_nat h0 (by omega)]
theorem of_sg (h : Hd) (h0 : 0 ≤ h.sg) (h1 : h.sg < 256) : (ofB (hbF h)).sg = h.sg := by
  have e : leN (shF (shF (shF (shF (shF (hbF h) 8) 8) 4) 1) 2) 1 = bI h.sg := le_by1 _ _ (fun j hj => by
    show hbF h (8 + (8 + (4 + (1 + (2 + j))))) = _
    rw [hz_at h (by omega)]
    unfold hpF
    rw [if_neg (by omega), if_neg (by omega), if_neg (by omega), if_neg (by omega), if_neg (by omega), if_pos (by omega)]
    congr 1
    omega) (by
    have := bI_nat h0 (by omega)
    omega)
  show ((leN (shF (shF (shF (shF (shF (hbF h) 8) 8) 4) 1) 2) 1).toNat : Int) = _
  rw [e, bI_nat h0 (by omega)]
theorem of_ti (h : Hd) (h0 : 0 ≤ h.ti) (h1 : h.ti < 256) : (ofB (hbF h)).ti = h.ti := by
  have e : leN (shF (shF (shF (shF (shF (shF (hbF h) 8) 8) 4) 1) 2) 1) 1 = bI h.ti := le_by1 _ _ (fun j hj => by
    show hbF h (8 + (8 + (4 + (1 + (2 + (1 + j)))))) = _
    rw [hz_at h (by omega)]
    unfold hpF
    rw [if_neg (by omega), if_neg (by omega), if_neg (by omega), if_neg (by omega), if_neg (by omega), if_neg (by omega), if_pos (by omega)]
    congr 1
    omega) (by
    have := bI_nat h0 (by omega)
    omega)
  show ((leN (shF (shF (shF (shF (shF (shF (hbF h) 8) 8) 4) 1) 2) 1) 1).toNat : Int) = _
  rw [e, bI_nat h0 (by omega)]
theorem of_me (h : Hd) (h0 : 0 ≤ h.me) (h1 : h.me < 65536) : (ofB (hbF h)).me = h.me := by
  have e : leN (shF (shF (shF (shF (shF (shF (shF (hbF h) 8) 8) 4) 1) 2) 1) 1) 2 = bI h.me := le_by2 _ _ (fun j hj => by
    show hbF h (8 + (8 + (4 + (1 + (2 + (1 + (1 + j))))))) = _
    rw [hz_at h (by omega)]
    unfold hpF
    rw [if_neg (by omega), if_neg (by omega), if_neg (by omega), if_neg (by omega), if_neg (by omega), if_neg (by omega), if_neg (by omega), if_pos (by omega)]
    congr 1
    omega) (by
    have := bI_nat h0 (by omega)
    omega)
  show ((leN (shF (shF (shF (shF (shF (shF (shF (hbF h) 8) 8) 4) 1) 2) 1) 1) 2).toNat : Int) = _
  rw [e, bI_nat h0 (by omega)]
theorem of_la (h : Hd) (h0 : 0 ≤ h.la) (h1 : h.la < 256) : (ofB (hbF h)).la = h.la := by
  have e : leN (shF (shF (shF (shF (shF (shF (shF (shF (hbF h) 8) 8) 4) 1) 2) 1) 1) 2) 1 = bI h.la := le_by1 _ _ (fun j hj => by
    show hbF h (8 + (8 + (4 + (1 + (2 + (1 + (1 + (2 + j)))))))) = _
    rw [hz_at h (by omega)]
    unfold hpF
    rw [if_neg (by omega), if_neg (by omega), if_neg (by omega), if_neg (by omega), if_neg (by omega), if_neg (by omega), if_neg (by omega), if_neg (by omega), if_pos (by omega)]
    congr 1
    omega) (by
    have := bI_nat h0 (by omega)
    omega)
  show ((leN (shF (shF (shF (shF (shF (shF (shF (shF (hbF h) 8) 8) 4) 1) 2) 1) 1) 2) 1).toNat : Int) = _
  rw [e, bI_nat h0 (by omega)]
theorem of_nm (h : Hd) (j : Nat) (hj : j < 16) : (ofB (hbF h)).nm j = h.nm j := by
  show hbF h (8 + (8 + (4 + (1 + (2 + (1 + (1 + (2 + (1 + j))))))))) = _
  rw [hz_at h (by omega)]
  unfold hpF
  rw [if_neg (by omega), if_neg (by omega), if_neg (by omega), if_neg (by omega), if_neg (by omega), if_neg (by omega), if_neg (by omega), if_neg (by omega), if_neg (by omega)]
  congr 1
  omega
theorem ofB_hb (h : Hd) (hk : okH h) : ∀ j, j < 24 → hdv (ofB (hbF h)) j = hdv h j := fun j hj => by
  obtain ⟨⟨a1, a2, a3, a4, a5, a6⟩, p1, p2, p3⟩ := hk
  unfold hdv
  rw [of_g, of_se h (by omega) (by omega), of_sl h (by omega) (by omega), of_jo h (by omega) (by omega), of_sg h (by omega) (by omega), of_ti h (by omega) (by omega), of_me h (by omega) (by omega), of_la h (by omega) (by omega)]
  by_cases c : j < 8
  · rcases (by omega : j = 0 ∨ j = 1 ∨ j = 2 ∨ j = 3 ∨ j = 4 ∨ j = 5 ∨ j = 6 ∨ j = 7) with rfl | rfl | rfl | rfl | rfl | rfl | rfl | rfl <;> rfl
  · rw [of_nm h (j - 8) (by omega)]
theorem ok_of (h : Hd) (hk : okH h) : okH (ofB (hbF h)) := by
  obtain ⟨⟨a1, a2, a3, a4, a5, a6⟩, p1, p2, p3⟩ := hk
  unfold okH okA okP
  rw [of_g, of_se h (by omega) (by omega), of_sl h (by omega) (by omega), of_jo h (by omega) (by omega), of_sg h (by omega) (by omega), of_ti h (by omega) (by omega), of_me h (by omega) (by omega), of_la h (by omega) (by omega)]
  exact ⟨⟨a1, a2, a3, a4, a5, a6⟩, p1, p2, p3⟩
theorem isH_hb (h : Hd) (hk : okH h) : isH 512 (hbF h) := by
  refine ⟨rfl, ?_, ?_, ?_, ok_of h hk⟩
  · rw [eqN_iff]
    intro j hj
    have e : shaF (hbF h) 480 = shaF (hzF h) 480 := shaF_congr _ _ 480 fun i hi => by
      unfold hbF catF
      rw [if_pos hi]
    rw [e]
    unfold hbF
    show _ = catF _ _ _ _
    unfold catF
    rw [if_neg (by omega), Nat.add_sub_cancel_left]
  · rw [eqN_iff]
    intro j hj
    rw [hz_at h (by omega)]
    unfold hpF
    rw [if_pos hj]
  · rw [zB_spec]
    intro j hj
    show hbF h (8 + (8 + (4 + (1 + (2 + (1 + (1 + (2 + (1 + (16 + j)))))))))) = _
    unfold hbF hzF catF padF
    rw [if_pos (by omega), if_neg (by omega)]
/-- bytes that are a header's are those of the header that they say -/
theorem hb_of (l : Nat) (b : Nat → BitVec 8) (hi : isH l b) : ∀ j, j < 512 → hbF (ofB b) j = b j := fun j hj => by
  obtain ⟨rfl, h1, h2, h3, h4⟩ := hi
  rw [eqN_iff] at h1 h2
  rw [zB_spec] at h3
  have hz : ∀ j, j < 480 → hzF (ofB b) j = b j := fun j hj => by
    unfold hzF padF
    by_cases c : j < 44
    · rw [if_pos c, hdF_hp]
      unfold hpF
      by_cases c0 : j < 8
      · rw [if_pos c0, h2 j c0]
      rw [if_neg c0]
      by_cases c1 : j < 16
      · rw [if_pos c1]
        show byB (leN (shF b 8) 8) _ = _
        rw [by_le8 _ _ (by omega)]
        show b (8 + (j - 8)) = b j
        congr 1
        omega
      rw [if_neg c1]
      by_cases c2 : j < 20
      · rw [if_pos c2]
        show byB (bI (((leN (shF (shF b 8) 8) 4).toNat : Nat) : Int)) _ = _
        rw [bI_of, by_le4 _ _ (by omega)]
        show b (8 + (8 + (j - 16))) = b j
        congr 1
        omega
      rw [if_neg c2]
      by_cases c3 : j < 21
      · rw [if_pos c3]
        show byB (bI (((leN (shF (shF (shF b 8) 8) 4) 1).toNat : Nat) : Int)) _ = _
        rw [bI_of, by_le1 _ _ (by omega)]
        show b (8 + (8 + (4 + (j - 20)))) = b j
        congr 1
        omega
      rw [if_neg c3]
      by_cases c4 : j < 23
      · rw [if_pos c4]
        show byB (bI (((leN (shF (shF (shF (shF b 8) 8) 4) 1) 2).toNat : Nat) : Int)) _ = _
        rw [bI_of, by_le2 _ _ (by omega)]
        show b (8 + (8 + (4 + (1 + (j - 21))))) = b j
        congr 1
        omega
      rw [if_neg c4]
      by_cases c5 : j < 24
      · rw [if_pos c5]
        show byB (bI (((leN (shF (shF (shF (shF (shF b 8) 8) 4) 1) 2) 1).toNat : Nat) : Int)) _ = _
        rw [bI_of, by_le1 _ _ (by omega)]
        show b (8 + (8 + (4 + (1 + (2 + (j - 23)))))) = b j
        congr 1
        omega
      rw [if_neg c5]
      by_cases c6 : j < 25
      · rw [if_pos c6]
        show byB (bI (((leN (shF (shF (shF (shF (shF (shF b 8) 8) 4) 1) 2) 1) 1).toNat : Nat) : Int)) _ = _
        rw [bI_of, by_le1 _ _ (by omega)]
        show b (8 + (8 + (4 + (1 + (2 + (1 + (j - 24))))))) = b j
        congr 1
        omega
      rw [if_neg c6]
      by_cases c7 : j < 27
      · rw [if_pos c7]
        show byB (bI (((leN (shF (shF (shF (shF (shF (shF (shF b 8) 8) 4) 1) 2) 1) 1) 2).toNat : Nat) : Int)) _ = _
        rw [bI_of, by_le2 _ _ (by omega)]
        show b (8 + (8 + (4 + (1 + (2 + (1 + (1 + (j - 25)))))))) = b j
        congr 1
        omega
      rw [if_neg c7]
      by_cases c8 : j < 28
      · rw [if_pos c8]
        show byB (bI (((leN (shF (shF (shF (shF (shF (shF (shF (shF b 8) 8) 4) 1) 2) 1) 1) 2) 1).toNat : Nat) : Int)) _ = _
        rw [bI_of, by_le1 _ _ (by omega)]
        show b (8 + (8 + (4 + (1 + (2 + (1 + (1 + (2 + (j - 27))))))))) = b j
        congr 1
        omega
      rw [if_neg c8]
      show b (8 + (8 + (4 + (1 + (2 + (1 + (1 + (2 + (1 + (j - 28)))))))))) = b j
      congr 1
      omega
    · rw [if_neg c]
      have := h3 (j - 44) (by omega)
      rw [← this]
      show b (8 + (8 + (4 + (1 + (2 + (1 + (1 + (2 + (1 + (16 + (j - 44))))))))))) = b j
      congr 1
      omega
  unfold hbF catF
  by_cases c : j < 480
  · rw [if_pos c, hz j c]
  · rw [if_neg c, shaF_congr _ _ 480 hz]
    rw [h1 (j - 480) (by omega), show 480 + (j - 480) = j by omega]
end Go.Proofs.YtenlokmoijeehaaDoor
namespace Go.Proofs.YtenlokmoijeehaaDoor
open Go.RowKit Go.BigFrame
def G0 : Field := { name := "Generation", type := 22, offset := 0, embedded := false, tag := "", pkgPath := "", byteOffset := 0 }
def G1 : Field := { name := "Sectors", type := 3, offset := 1, embedded := false, tag := "", pkgPath := "", byteOffset := 8 }
def G2 : Field := { name := "Slots", type := 3, offset := 2, embedded := false, tag := "", pkgPath := "", byteOffset := 16 }
def G3 : Field := { name := "Journal", type := 3, offset := 3, embedded := false, tag := "", pkgPath := "", byteOffset := 24 }
def G4 : Field := { name := "Segment", type := 3, offset := 4, embedded := false, tag := "", pkgPath := "", byteOffset := 32 }
def G5 : Field := { name := "Params", type := 24, offset := 5, embedded := false, tag := "", pkgPath := "", byteOffset := 40 }
def G6 : Field := { name := "Name", type := 25, offset := 8, embedded := false, tag := "", pkgPath := "", byteOffset := 64 }
def K0 : Field := { name := "Time", type := 3, offset := 0, embedded := false, tag := "", pkgPath := "", byteOffset := 0 }
def K1 : Field := { name := "Memory", type := 3, offset := 1, embedded := false, tag := "", pkgPath := "", byteOffset := 8 }
def K2 : Field := { name := "Lanes", type := 3, offset := 2, embedded := false, tag := "", pkgPath := "", byteOffset := 16 }
theorem equalP (h : Hd) (w : World) : (Op.equalIn 9999 24 (.agg (row 3 fun j => hdv h (5 + j)).toArray) (.agg (row 3 fun j => hdv h (5 + j)).toArray)).run Tryd.prog w = (.ok true w : Result Bool) := by
  rw [run_equalIn_struct w 9998 24 _ _ (by kernel_rfl) (by kernel_rfl)]
  have hf : (Tryd.prog.fieldsOf 24).toList = [K0, K1, K2] := by kernel_rfl
  rw [hf]
  have r := eqFields_cons (P := Tryd.prog) 9998 (row 3 fun j => hdv h (5 + j)).toArray (row 3 fun j => hdv h (5 + j)).toArray K0 _ (.int .i64 h.ti) (.int .i64 h.ti) _ _ w (by decide) (part_one (Tryd.isAgg3 w) (by decide)) (part_one (Tryd.isAgg3 w) (by decide)) (run_equalIn_int w 9997 3 .i64 .i64 _ _ Tryd.underlying3)
    (eqFields_cons 9998 _ _ K1 _ (.int .i64 h.me) (.int .i64 h.me) _ _ w (by decide) (part_one (Tryd.isAgg3 w) (by decide)) (part_one (Tryd.isAgg3 w) (by decide)) (run_equalIn_int w 9997 3 .i64 .i64 _ _ Tryd.underlying3)
    (eqFields_cons 9998 _ _ K2 _ (.int .i64 h.la) (.int .i64 h.la) _ _ w (by decide) (part_one (Tryd.isAgg3 w) (by decide)) (part_one (Tryd.isAgg3 w) (by decide)) (run_equalIn_int w 9997 3 .i64 .i64 _ _ Tryd.underlying3) (eqFields_nil _ _ _ w)))
  rw [r]
  simp
theorem hdv_nm (h : Hd) : (row 16 fun j => hdv h (8 + j)) = row 16 fun j => .int .u8 ((h.nm j).toNat : Int) := row_ext fun j _ => by
  unfold hdv
  rw [if_neg (by omega), if_neg (by omega), if_neg (by omega), if_neg (by omega), if_neg (by omega), if_neg (by omega), if_neg (by omega), if_neg (by omega), show 8 + j - 8 = j by omega]
theorem equalH (h : Hd) (w : World) : (Op.equalIn 10000 27 (.agg (row 24 (hdv h)).toArray) (.agg (row 24 (hdv h)).toArray)).run Tryd.prog w = (.ok true w : Result Bool) := by
  rw [run_equalIn_struct w 9999 27 _ _ (by kernel_rfl) (by kernel_rfl)]
  have hf : (Tryd.prog.fieldsOf 27).toList = [G0, G1, G2, G3, G4, G5, G6] := by kernel_rfl
  rw [hf]
  have e6 := equalIn_row (P := Tryd.prog) 9997 25 5 16 .u8 Tryd.underlying25 Tryd.underlying5 Tryd.sizeOf5 (fun j => ((h.nm j).toNat : Int)) (fun j => ((h.nm j).toNat : Int)) w
  rw [← hdv_nm h] at e6
  have r := (eqFields_cons (P := Tryd.prog) 9999 (row 24 (hdv h)).toArray (row 24 (hdv h)).toArray G0 _ (.int .u64 (h.g.toNat : Int)) (.int .u64 (h.g.toNat : Int)) _ _ w (by decide) (part_one (Tryd.isAgg22 w) (by decide)) (part_one (Tryd.isAgg22 w) (by decide)) (run_equalIn_int w 9998 22 .u64 .u64 _ _ Tryd.underlying22)
    (eqFields_cons (P := Tryd.prog) 9999 (row 24 (hdv h)).toArray (row 24 (hdv h)).toArray G1 _ (.int .i64 h.se) (.int .i64 h.se) _ _ w (by decide) (part_one (Tryd.isAgg3 w) (by decide)) (part_one (Tryd.isAgg3 w) (by decide)) (run_equalIn_int w 9998 3 .i64 .i64 _ _ Tryd.underlying3)
    (eqFields_cons (P := Tryd.prog) 9999 (row 24 (hdv h)).toArray (row 24 (hdv h)).toArray G2 _ (.int .i64 h.sl) (.int .i64 h.sl) _ _ w (by decide) (part_one (Tryd.isAgg3 w) (by decide)) (part_one (Tryd.isAgg3 w) (by decide)) (run_equalIn_int w 9998 3 .i64 .i64 _ _ Tryd.underlying3)
    (eqFields_cons (P := Tryd.prog) 9999 (row 24 (hdv h)).toArray (row 24 (hdv h)).toArray G3 _ (.int .i64 h.jo) (.int .i64 h.jo) _ _ w (by decide) (part_one (Tryd.isAgg3 w) (by decide)) (part_one (Tryd.isAgg3 w) (by decide)) (run_equalIn_int w 9998 3 .i64 .i64 _ _ Tryd.underlying3)
    (eqFields_cons (P := Tryd.prog) 9999 (row 24 (hdv h)).toArray (row 24 (hdv h)).toArray G4 _ (.int .i64 h.sg) (.int .i64 h.sg) _ _ w (by decide) (part_one (Tryd.isAgg3 w) (by decide)) (part_one (Tryd.isAgg3 w) (by decide)) (run_equalIn_int w 9998 3 .i64 .i64 _ _ Tryd.underlying3)
    (eqFields_cons 9999 _ _ G5 _ _ _ _ _ w (by decide) (part_arr (Tryd.isAgg24 w) (Tryd.sizeOf24 w) (by decide)) (part_arr (Tryd.isAgg24 w) (Tryd.sizeOf24 w) (by decide)) (equalP h w)
    (eqFields_cons 9999 _ _ G6 _ _ _ _ _ w (by decide) (part_arr (Tryd.isAgg25 w) (Tryd.sizeOf25 w) (by decide)) (part_arr (Tryd.isAgg25 w) (Tryd.sizeOf25 w) (by decide)) e6 (eqFields_nil _ _ _ w))))))))
  rw [r]
  simp
theorem eqlH (h : Hd) (w : World) : (binOp .eql 27 (.agg (row 24 (hdv h)).toArray) (.agg (row 24 (hdv h)).toArray)).run Tryd.prog w = .ok (.bool true) w := by
  rw [run_eql_struct, equalH]; rfl
theorem neqH (h : Hd) (w : World) : (binOp .neq 27 (.agg (row 24 (hdv h)).toArray) (.agg (row 24 (hdv h)).toArray)).run Tryd.prog w = .ok (.bool false) w := by
  rw [run_neq_struct, equalH]; rfl
theorem hd_same {h k : Hd} (e : ∀ j, j < 24 → hdv h j = hdv k j) : row 24 (hdv h) = row 24 (hdv k) := row_ext e
end Go.Proofs.YtenlokmoijeehaaDoor
namespace Go.Proofs.YtenlokmoijeehaaDoor
open Go.RowKit Go.BigFrame
def oneH : Hd := ⟨1#64, 100, 2, 16, 4, 1, 8, 1, fun _ => 0#8⟩
theorem ok_one : okH oneH := by unfold okH okA okP oneH; decide
theorem no_zero : ¬ okH zH := by unfold okH okA okP zH; decide
theorem bl24 (w : World) : (Instr.build 24 #[(0, .int .i64 1), (1, .int .i64 8), (2, .int .i64 1)]).run Tryd.prog w = .ok (.agg (row 3 (pav 1 8 1)).toArray) w := run_build w 24 _ _ (by kernel_rfl)
theorem bl27 (w : World) : (Instr.build 27 #[(0, .int .u64 1), (1, .int .i64 100), (2, .int .i64 2), (3, .int .i64 16), (4, .int .i64 4), (5, .agg (row 3 (pav 1 8 1)).toArray)]).run Tryd.prog w = .ok (.agg (row 24 (hdv oneH)).toArray) w := run_build w 27 _ _ (by kernel_rfl)
theorem made27 (w : World) (h : Hd) : RowAt w.heap.size 24 (hdv zH) (w.alloc (.cells (row 24 (hdv zH)).toArray 27)) ∧ RowAt w.heap.size 24 (hdv h) ((w.alloc (.cells (row 24 (hdv zH)).toArray 27)).setCells w.heap.size 0 (row 24 (hdv h))) ∧ Ext w ((w.alloc (.cells (row 24 (hdv zH)).toArray 27)).setCells w.heap.size 0 (row 24 (hdv h))) :=
  ⟨RowAt.new w 24 (hdv zH) 27, (RowAt.new w 24 (hdv zH) 27).cells, below_setCells w.heap.size (Nat.le_refl _) _ 0 _ ((Below.refl _ _).alloc (Nat.le_refl _) _)⟩
theorem made34 (w : World) (z : Nat → Int) (v : Value) : RowAt w.heap.size 9 (lyv (fun _ => 0) (.slice none 0 0)) (w.alloc (.cells (row 9 (lyv (fun _ => 0) (.slice none 0 0))).toArray 34)) ∧ RowAt w.heap.size 9 (lyv z v) ((w.alloc (.cells (row 9 (lyv (fun _ => 0) (.slice none 0 0))).toArray 34)).setCells w.heap.size 0 (row 9 (lyv z v))) ∧ Ext w ((w.alloc (.cells (row 9 (lyv (fun _ => 0) (.slice none 0 0))).toArray 34)).setCells w.heap.size 0 (row 9 (lyv z v))) :=
  ⟨RowAt.new w 9 _ 34, (RowAt.new w 9 _ 34).cells, below_setCells w.heap.size (Nat.le_refl _) _ 0 _ ((Below.refl _ _).alloc (Nat.le_refl _) _)⟩
set_option maxRecDepth 20000 in
set_option maxHeartbeats 2000000 in
theorem one_any (w : World) : Calls Tryd.prog 32 #[] w fun e w' => e = .returned (.agg (row 24 (hdv oneH)).toArray) ∧ Ext w w' := by
  obtain ⟨H1, H2, hE⟩ := made27 w oneH
  replace H1 := hideit H1
  replace H2 := hideit H2
  replace hE := hideit hE
  go_enter Tryd.func32, Tryd.ntmps32
  go_upto_region 0 with (fail)
  refine wp_region_lit ?_
  refine wpList_to rfl (.pointer (some ⟨w.heap.size, 0, none⟩)) (w.alloc (.cells (row 24 (hdv zH)).toArray 27)) (exec_alloc 27 _ rfl (zeroH w)) ?_
  simp only [Act.put, List.setIfInBounds_toArray, List.set_cons_zero]
  go_upto_region 1 with (fail)
  refine wp_region_lit ?_
  refine wpList_build rfl 24 [(0, .const (.int .i64 1)), (1, .const (.int .i64 8)), (2, .const (.int .i64 1))] rfl (.agg (row 3 (pav 1 8 1)).toArray) (bl24 _) ?_
  simp only [Act.put, List.setIfInBounds_toArray, List.set_cons_zero, List.set_cons_succ]
  refine wpList_build rfl 27 [(0, .const (.int .u64 1)), (1, .const (.int .i64 100)), (2, .const (.int .i64 2)), (3, .const (.int .i64 16)), (4, .const (.int .i64 4)), (5, .tmp 1)] rfl (.agg (row 24 (hdv oneH)).toArray) (bl27 _) ?_
  simp only [Act.put, List.setIfInBounds_toArray, List.set_cons_zero, List.set_cons_succ]
  refine wpList_store_mid rfl 27 (.tmp 0) (.tmp 2) rfl w.heap.size 0 (row 24 (hdv oneH)).toArray rfl rfl (by rw [row_size]; exact H1.out.there) (by rw [row_size]; exact infoH) (row_one fun j _ => hdv_one _ j) ?_
  rw [show (row 24 (hdv oneH)).toArray.toList = row 24 (hdv oneH) from rfl]
  generalize (w.alloc (.cells (row 24 (hdv zH)).toArray 27)).setCells w.heap.size 0 (row 24 (hdv oneH)) = w2 at *
  simp only [Act.put]
  go_wp2
  exact bodyPost_ret (ret_row Tryd.results32 rfl H2.out Tryd.underlying27 rfl infoH) rfl ⟨rfl, hE.out⟩
theorem mark_hb (h : Hd) : (bstr 8 fun j => ((hbF h j).toNat : Int)).toList = [67, 65, 83, 75, 69, 84, 48, 49] := by
  have e : lst 8 (hbF h) = lst 8 (bT mkL) := eq_of_beq (by
    rw [lst_beq, eqN_iff]
    intro j hj
    rw [hz_at h (by omega)]
    unfold hpF
    rw [if_pos hj])
  rw [bstr_list, e]
  decide +kernel
theorem dec_back (v : Value) (h : Hd) (w : World) (hv : BV v 512 (hbF h) w) (hC : TabC w) (hk : okH h) : Calls Tryd.prog 16 #[v] w fun e w' => e = .returned (.tuple #[.agg (row 24 (hdv h)).toArray, .int .i64 0]) ∧ Ext w w' := by
  have k := dec_yes v 512 (hbF h) w hv hC (isH_hb h hk)
  rw [hd_same (ofB_hb h hk)] at k
  exact k
set_option maxRecDepth 20000 in
set_option maxHeartbeats 2000000 in
theorem lives_any (w : World) (hC : Hid (TabC w)) : Calls Tryd.prog 12 #[] w fun e w' => e = .returned (.bool true) ∧ Ext w w' := by
  go_enter Tryd.func12, Tryd.ntmps12
  go_upto_region 1 with (fail)
  refine wp_region_lit ?_
  refine wpList_call rfl (by simp [go_sem]; exact ⟨rfl, rfl⟩) ?_
  refine (one_any w).mono ?_
  rintro e w1 ⟨rfl, hX1⟩
  refine ⟨_, rfl, ?_⟩
  simp only [Act.put, List.setIfInBounds_toArray, List.set_cons_zero, List.set_cons_succ]
  have C1 := hideit (hC.out.ext hX1)
  refine wpList_call rfl (by simp [go_sem]; exact ⟨rfl, rfl⟩) ?_
  refine (enc_ok oneH w1 ok_one C1.out).mono ?_
  rintro e w2 ⟨g, rfl, hg2, hR2, hX2⟩
  refine ⟨_, rfl, ?_⟩
  simp only [Act.put, List.setIfInBounds_toArray, List.set_cons_zero, List.set_cons_succ]
  have C2 := hideit (C1.out.ext hX2)
  have hE2 := hideit (Ext.trans hX1 hX2)
  replace hR2 := hideit hR2
  clear C1 hX1 hX2 hg2 hC
  go_upto_region 2 with (fail)
  refine wp_region_lit ?_
  refine wpList_run rfl (.slice (some ⟨g, 0, none⟩) 512 512) (by simp [go_sem]) ?_
  simp only [Act.put, List.setIfInBounds_toArray, List.set_cons_zero, List.set_cons_succ]
  refine wpList_call rfl (by simp [go_sem]; exact ⟨rfl, rfl⟩) ?_
  refine (dec_back (.slice (some ⟨g, 0, none⟩) 512 512) oneH w2 (hR2.out.bv 512 (Nat.le_refl _)) C2.out ok_one).mono ?_
  rintro e w3 ⟨rfl, hX3⟩
  refine ⟨_, rfl, ?_⟩
  simp only [Act.put, List.setIfInBounds_toArray, List.set_cons_zero, List.set_cons_succ]
  have R3 := hideit (hR2.out.carry hX3)
  have C3 := hideit (C2.out.ext hX3)
  have hE3 := hideit (Ext.trans hE2.out hX3)
  clear C2 hR2 hE2 hX3
  refine wpList_run rfl (.tuple #[.agg (row 24 (hdv oneH)).toArray, .int .i64 0]) (by simp [go_sem]) ?_
  simp only [Act.put, List.setIfInBounds_toArray, List.set_cons_zero, List.set_cons_succ]
  refine wpList_run rfl (.agg (row 24 (hdv oneH)).toArray) (by simp [go_sem]) ?_
  simp only [Act.put, List.setIfInBounds_toArray, List.set_cons_zero, List.set_cons_succ]
  refine wpList_run rfl (.int .i64 0) (by simp [go_sem]) ?_
  simp only [Act.put, List.setIfInBounds_toArray, List.set_cons_zero, List.set_cons_succ]
  obtain ⟨M1, M2, M3⟩ := made27 w3 oneH
  replace M1 := hideit M1
  replace M2 := hideit M2
  have R4 := hideit (R3.out.carry M3)
  have C4 := hideit (C3.out.ext M3)
  have hE4 := hideit (Ext.trans hE3.out M3)
  refine wpList_to rfl (.pointer (some ⟨w3.heap.size, 0, none⟩)) (w3.alloc (.cells (row 24 (hdv zH)).toArray 27)) (exec_alloc 27 _ rfl (zeroH w3)) ?_
  simp only [Act.put, List.setIfInBounds_toArray, List.set_cons_zero, List.set_cons_succ]
  refine wpList_store_mid rfl 27 (.tmp 3) (.tmp 17) rfl w3.heap.size 0 (row 24 (hdv oneH)).toArray rfl rfl (by rw [row_size]; exact M1.out.there) (by rw [row_size]; exact infoH) (row_one fun j _ => hdv_one _ j) ?_
  rw [show (row 24 (hdv oneH)).toArray.toList = row 24 (hdv oneH) from rfl]
  generalize (w3.alloc (.cells (row 24 (hdv zH)).toArray 27)).setCells w3.heap.size 0 (row 24 (hdv oneH)) = w4 at *
  generalize w3.heap.size = d at *
  clear M1 M3 R3 C3 hE3
  simp only [Act.put]
  go_upto_region 3 with (fail)
  refine wp_region_lit ?_
  refine wpList_call rfl (by simp [go_sem]; exact ⟨rfl, rfl⟩) ?_
  refine (one_any w4).mono ?_
  rintro e w5 ⟨rfl, hX5⟩
  refine ⟨_, rfl, ?_⟩
  simp only [Act.put, List.setIfInBounds_toArray, List.set_cons_zero, List.set_cons_succ]
  have k := lay_ok oneH w5 ok_one 13 1 (by decide) (by decide)
  simp only [if_true] at k
  replace k := hideit k
  have R5 := hideit (R4.out.carry hX5)
  have D5 := hideit (M2.out.carry hX5)
  have hE5 := hideit (Ext.trans hE4.out hX5)
  have C5 := hideit (C4.out.ext hX5)
  clear R4 M2 hE4 C4 hX5
  refine wpList_call rfl (by simp [go_sem]; exact ⟨rfl, rfl⟩) ?_
  refine (k.out).mono ?_
  rintro e w6 ⟨lb, cap, rfl, hR6, hX6⟩
  refine ⟨_, rfl, ?_⟩
  simp only [Act.put, List.setIfInBounds_toArray, List.set_cons_zero, List.set_cons_succ]
  have R6 := hideit (R5.out.carry hX6)
  have D6 := hideit (D5.out.carry hX6)
  have hE6 := hideit (Ext.trans hE5.out hX6)
  have C6 := hideit (C5.out.ext hX6)
  replace hR6 := hideit hR6
  clear R5 D5 hE5 C5 hX6 k
  refine wpList_run rfl (.tuple #[.agg (row 9 (lyv (lzF oneH (lsum 1) 13) (.slice (some ⟨lb, 0, none⟩) 1 cap))).toArray, .int .i64 0]) (by simp [go_sem]) ?_
  simp only [Act.put, List.setIfInBounds_toArray, List.set_cons_zero, List.set_cons_succ]
  refine wpList_run rfl (.agg (row 9 (lyv (lzF oneH (lsum 1) 13) (.slice (some ⟨lb, 0, none⟩) 1 cap))).toArray) (by simp [go_sem]) ?_
  simp only [Act.put, List.setIfInBounds_toArray, List.set_cons_zero, List.set_cons_succ]
  refine wpList_run rfl (.int .i64 0) (by simp [go_sem]) ?_
  simp only [Act.put, List.setIfInBounds_toArray, List.set_cons_zero, List.set_cons_succ]
  obtain ⟨M1, M2, M3⟩ := made34 w6 (lzF oneH (lsum 1) 13) (.slice (some ⟨lb, 0, none⟩) 1 cap)
  replace M1 := hideit M1
  replace M2 := hideit M2
  have R7 := hideit (R6.out.carry M3)
  have D7 := hideit (D6.out.carry M3)
  have C7 := hideit (C6.out.ext M3)
  have hE7 := hideit (Ext.trans hE6.out M3)
  refine wpList_to rfl (.pointer (some ⟨w6.heap.size, 0, none⟩)) (w6.alloc (.cells (row 9 (lyv (fun _ => 0) (.slice none 0 0))).toArray 34)) (exec_alloc 34 _ rfl (zeroL w6)) ?_
  simp only [Act.put, List.setIfInBounds_toArray, List.set_cons_zero, List.set_cons_succ]
  refine wpList_store_mid rfl 34 (.tmp 5) (.tmp 22) rfl w6.heap.size 0 (row 9 (lyv (lzF oneH (lsum 1) 13) (.slice (some ⟨lb, 0, none⟩) 1 cap))).toArray rfl rfl (by rw [row_size]; exact M1.out.there) (by rw [row_size]; exact infoL) (row_one fun j _ => lyv_one _ rfl j) ?_
  rw [show (row 9 (lyv (lzF oneH (lsum 1) 13) (.slice (some ⟨lb, 0, none⟩) 1 cap))).toArray.toList = row 9 (lyv (lzF oneH (lsum 1) 13) (.slice (some ⟨lb, 0, none⟩) 1 cap)) from rfl]
  generalize (w6.alloc (.cells (row 9 (lyv (fun _ => 0) (.slice none 0 0))).toArray 34)).setCells w6.heap.size 0 (row 9 (lyv (lzF oneH (lsum 1) 13) (.slice (some ⟨lb, 0, none⟩) 1 cap))) = w7 at *
  generalize w6.heap.size = l at *
  clear M1 M3 R6 D6 C6 hE6 hR6
  simp only [Act.put]
  go_upto_region 4 with (fail)
  refine wp_region_lit ?_
  refine wpList_build rfl 27 [] rfl (.agg (row 24 (hdv zH)).toArray) (buildH _) ?_
  simp only [Act.put, List.setIfInBounds_toArray, List.set_cons_zero, List.set_cons_succ]
  refine wpList_call rfl (by simp [go_sem]; exact ⟨rfl, rfl⟩) ?_
  refine (enc_no zH w7 no_zero).mono ?_
  rintro e w8 ⟨rfl, hX8⟩
  refine ⟨_, rfl, ?_⟩
  simp only [Act.put, List.setIfInBounds_toArray, List.set_cons_zero, List.set_cons_succ]
  have hX9 := Ext.trans hX8 (Ext.refl w8).draw
  have R8 := hideit (R7.out.carry hX9)
  have D8 := hideit (D7.out.carry hX9)
  have L8 := hideit (M2.out.carry hX9)
  have hE8 := hideit (Ext.trans hE7.out hX9)
  clear R7 D7 M2 hE7 C7 hX8 hX9
  go_upto_region 5 with (fail)
  have hcv0 : Hid (∀ X, Ext w8.drew X → (convert 28 9 (.slice (some ⟨g, 0, none⟩) 8 512)).run Tryd.prog X = .ok (.string (bstr 8 fun j => ((hbF oneH j).toNat : Int))) X) := hideit fun X hX => convV _ 8 _ X ((R8.out.carry hX).bv 8 (by decide) |> fun q => q)
  have hms := hideit (mark_hb oneH)
  generalize (bstr 8 fun j => ((hbF oneH j).toNat : Int)) = str at *
  refine wp_region_lad (fun X => Ext w8.drew X) [(false, 0), (false, 1), (false, 2), (false, 3), (false, 4), (false, 5), (false, 6), (false, 7), (false, 8), (false, 9), (false, 10), (false, 11), (false, 12), (false, 13), (false, 14), (false, 15), (true, 16), (false, 17), (false, 18), (false, 19), (false, 20), (false, 21), (false, 22), (false, 23), (false, 24), (false, 25), (false, 26), (false, 27), (false, 28), (false, 29), (false, 30), (false, 31), (false, 32), (false, 33), (false, 34), (false, 35), (false, 36), (false, 37), (false, 38), (false, 39), (false, 40), (false, 41), (false, 42), (false, 43), (false, 44), (false, 45), (false, 46)] (by kernel_rfl) (by kernel_rfl) (by decide +kernel) (by decide +kernel) (by decide +kernel) (by decide +kernel) (Ext.refl _) ?_
  refine wpX_f _ (.int .i64 0) rfl rfl (fun X _ => by simp [go_sem]) ?_
  simp only [List.getElem_toArray, List.getElem_cons_zero, Act.put, List.setIfInBounds_toArray, List.set_cons_zero, List.set_cons_succ]
  refine wpX_f _ (.bool true) rfl rfl (fun X _ => by simp [go_sem]) ?_
  simp only [List.getElem_toArray, List.getElem_cons_zero, List.getElem_cons_succ, Act.put, List.setIfInBounds_toArray, List.set_cons_zero, List.set_cons_succ]
  refine wpX_f _ (.bool true) rfl rfl (fun X _ => by simp [go_sem]) ?_
  simp only [List.getElem_toArray, List.getElem_cons_zero, List.getElem_cons_succ, Act.put, List.setIfInBounds_toArray, List.set_cons_zero, List.set_cons_succ]
  refine wpX_f _ (.int .i64 0) rfl rfl (fun X _ => by simp [go_sem]) ?_
  simp only [List.getElem_toArray, List.getElem_cons_zero, List.getElem_cons_succ, Act.put, List.setIfInBounds_toArray, List.set_cons_zero, List.set_cons_succ]
  refine wpX_f _ (.bool true) rfl rfl (fun X _ => by simp [go_sem]) ?_
  simp only [List.getElem_toArray, List.getElem_cons_zero, List.getElem_cons_succ, Act.put, List.setIfInBounds_toArray, List.set_cons_zero, List.set_cons_succ]
  refine wpX_f _ (.bool true) rfl rfl (fun X _ => by simp [go_sem]) ?_
  simp only [List.getElem_toArray, List.getElem_cons_zero, List.getElem_cons_succ, Act.put, List.setIfInBounds_toArray, List.set_cons_zero, List.set_cons_succ]
  refine wpX_f _ (.bool true) rfl rfl (fun X _ => by simp [go_sem]) ?_
  simp only [List.getElem_toArray, List.getElem_cons_zero, List.getElem_cons_succ, Act.put, List.setIfInBounds_toArray, List.set_cons_zero, List.set_cons_succ]
  refine wpX_f _ (.int .i64 0) rfl rfl (fun X _ => by simp [go_sem]) ?_
  simp only [List.getElem_toArray, List.getElem_cons_zero, List.getElem_cons_succ, Act.put, List.setIfInBounds_toArray, List.set_cons_zero, List.set_cons_succ]
  refine wpX_f _ (.bool true) rfl rfl (fun X _ => by simp [go_sem]) ?_
  simp only [List.getElem_toArray, List.getElem_cons_zero, List.getElem_cons_succ, Act.put, List.setIfInBounds_toArray, List.set_cons_zero, List.set_cons_succ]
  refine wpX_f _ (.bool true) rfl rfl (fun X _ => by simp [go_sem]) ?_
  simp only [List.getElem_toArray, List.getElem_cons_zero, List.getElem_cons_succ, Act.put, List.setIfInBounds_toArray, List.set_cons_zero, List.set_cons_succ]
  refine wpX_f _ (.bool true) rfl rfl (fun X _ => by simp [go_sem]) ?_
  simp only [List.getElem_toArray, List.getElem_cons_zero, List.getElem_cons_succ, Act.put, List.setIfInBounds_toArray, List.set_cons_zero, List.set_cons_succ]
  refine wpX_f _ (.int .i64 1) rfl rfl (fun X _ => by simp [go_sem]) ?_
  simp only [List.getElem_toArray, List.getElem_cons_zero, List.getElem_cons_succ, Act.put, List.setIfInBounds_toArray, List.set_cons_zero, List.set_cons_succ]
  refine wpX_f _ (.bool true) rfl rfl (fun X _ => by simp [go_sem]) ?_
  simp only [List.getElem_toArray, List.getElem_cons_zero, List.getElem_cons_succ, Act.put, List.setIfInBounds_toArray, List.set_cons_zero, List.set_cons_succ]
  refine wpX_f _ (.bool true) rfl rfl (fun X _ => by simp [go_sem]) ?_
  simp only [List.getElem_toArray, List.getElem_cons_zero, List.getElem_cons_succ, Act.put, List.setIfInBounds_toArray, List.set_cons_zero, List.set_cons_succ]
  refine wpX_f _ (.bool true) rfl rfl (fun X _ => by simp [go_sem]) ?_
  simp only [List.getElem_toArray, List.getElem_cons_zero, List.getElem_cons_succ, Act.put, List.setIfInBounds_toArray, List.set_cons_zero, List.set_cons_succ]
  refine wpX_f _ (.agg (row 24 (hdv oneH)).toArray) rfl rfl (fun X hX => exec_loadR 27 (.tmp 3) rfl d 0 24 _ rfl (D8.out.carry hX).range Tryd.underlying27 rfl infoH) ?_
  simp only [List.getElem_toArray, List.getElem_cons_zero, List.getElem_cons_succ, Act.put, List.setIfInBounds_toArray, List.set_cons_zero, List.set_cons_succ]
  refine wpX_call _ rfl rfl (by simp [go_sem]) ((one_any w8.drew).mono ?_)
  rintro e w9 ⟨rfl, hX9⟩
  refine ⟨_, rfl, fun X => Ext w9 X, fun X hX => Ext.trans hX9 hX, Ext.refl _, ?_⟩
  simp only [List.getElem_toArray, List.getElem_cons_zero, List.getElem_cons_succ, Act.put, List.setIfInBounds_toArray, List.set_cons_zero, List.set_cons_succ]
  refine wpX_f _ (.bool true) rfl rfl (fun X hX => exec_cmp .eql 27 27 (.tmp 44) (.tmp 45) rfl _ _ rfl rfl (by kernel_rfl) true (eqlH oneH X)) ?_
  simp only [List.getElem_toArray, List.getElem_cons_zero, List.getElem_cons_succ, Act.put, List.setIfInBounds_toArray, List.set_cons_zero, List.set_cons_succ]
  refine wpX_f _ (.bool true) rfl rfl (fun X _ => by simp [go_sem]) ?_
  simp only [List.getElem_toArray, List.getElem_cons_zero, List.getElem_cons_succ, Act.put, List.setIfInBounds_toArray, List.set_cons_zero, List.set_cons_succ]
  refine wpX_f _ (.bool true) rfl rfl (fun X _ => by simp [go_sem]) ?_
  simp only [List.getElem_toArray, List.getElem_cons_zero, List.getElem_cons_succ, Act.put, List.setIfInBounds_toArray, List.set_cons_zero, List.set_cons_succ]
  refine wpX_f _ (.slice (some ⟨g, 0, none⟩) 512 512) rfl rfl (fun X _ => by simp [go_sem]) ?_
  simp only [List.getElem_toArray, List.getElem_cons_zero, List.getElem_cons_succ, Act.put, List.setIfInBounds_toArray, List.set_cons_zero, List.set_cons_succ]
  refine wpX_f _ (.int .i64 512) rfl rfl (fun X _ => by simp [go_sem]) ?_
  simp only [List.getElem_toArray, List.getElem_cons_zero, List.getElem_cons_succ, Act.put, List.setIfInBounds_toArray, List.set_cons_zero, List.set_cons_succ]
  refine wpX_f _ (.bool true) rfl rfl (fun X _ => by simp [go_sem]) ?_
  simp only [List.getElem_toArray, List.getElem_cons_zero, List.getElem_cons_succ, Act.put, List.setIfInBounds_toArray, List.set_cons_zero, List.set_cons_succ]
  refine wpX_f _ (.bool true) rfl rfl (fun X _ => by simp [go_sem]) ?_
  simp only [List.getElem_toArray, List.getElem_cons_zero, List.getElem_cons_succ, Act.put, List.setIfInBounds_toArray, List.set_cons_zero, List.set_cons_succ]
  refine wpX_f _ (.bool true) rfl rfl (fun X _ => by simp [go_sem]) ?_
  simp only [List.getElem_toArray, List.getElem_cons_zero, List.getElem_cons_succ, Act.put, List.setIfInBounds_toArray, List.set_cons_zero, List.set_cons_succ]
  refine wpX_f _ (.slice (some ⟨g, 0, none⟩) 512 512) rfl rfl (fun X _ => by simp [go_sem]) ?_
  simp only [List.getElem_toArray, List.getElem_cons_zero, List.getElem_cons_succ, Act.put, List.setIfInBounds_toArray, List.set_cons_zero, List.set_cons_succ]
  refine wpX_f _ (.slice (some ⟨g, 0, none⟩) 8 512) rfl rfl (fun X _ => by simp [go_sem]) ?_
  simp only [List.getElem_toArray, List.getElem_cons_zero, List.getElem_cons_succ, Act.put, List.setIfInBounds_toArray, List.set_cons_zero, List.set_cons_succ]
  refine wpX_f _ (.string str) rfl rfl (fun X hX => by have hcv := hcv0.out X (Ext.trans hX9 hX); simp [go_sem, hcv]) ?_
  simp only [List.getElem_toArray, List.getElem_cons_zero, List.getElem_cons_succ, Act.put, List.setIfInBounds_toArray, List.set_cons_zero, List.set_cons_succ]
  refine wpX_f _ (.bool true) rfl rfl (fun X _ => by simp [go_sem, hms.out]) ?_
  simp only [List.getElem_toArray, List.getElem_cons_zero, List.getElem_cons_succ, Act.put, List.setIfInBounds_toArray, List.set_cons_zero, List.set_cons_succ]
  refine wpX_f _ (.bool true) rfl rfl (fun X _ => by simp [go_sem]) ?_
  simp only [List.getElem_toArray, List.getElem_cons_zero, List.getElem_cons_succ, Act.put, List.setIfInBounds_toArray, List.set_cons_zero, List.set_cons_succ]
  refine wpX_f _ (.bool true) rfl rfl (fun X _ => by simp [go_sem]) ?_
  simp only [List.getElem_toArray, List.getElem_cons_zero, List.getElem_cons_succ, Act.put, List.setIfInBounds_toArray, List.set_cons_zero, List.set_cons_succ]
  refine wpX_f _ (.pointer (some ⟨l, 7, none⟩)) rfl rfl (fun X _ => by simp [go_sem]) ?_
  simp only [List.getElem_toArray, List.getElem_cons_zero, List.getElem_cons_succ, Act.put, List.setIfInBounds_toArray, List.set_cons_zero, List.set_cons_succ]
  refine wpX_f _ (.int .i64 36) rfl rfl (fun X hX => by have e : X.cell? ⟨l, 7, none⟩ = some (.int .i64 36) := (L8.out.carry (Ext.trans hX9 hX)).1 7 (by decide); simp [go_sem, e]) ?_
  simp only [List.getElem_toArray, List.getElem_cons_zero, List.getElem_cons_succ, Act.put, List.setIfInBounds_toArray, List.set_cons_zero, List.set_cons_succ]
  refine wpX_f _ (.bool true) rfl rfl (fun X _ => by simp [go_sem]) ?_
  simp only [List.getElem_toArray, List.getElem_cons_zero, List.getElem_cons_succ, Act.put, List.setIfInBounds_toArray, List.set_cons_zero, List.set_cons_succ]
  refine wpX_f _ (.bool true) rfl rfl (fun X _ => by simp [go_sem]) ?_
  simp only [List.getElem_toArray, List.getElem_cons_zero, List.getElem_cons_succ, Act.put, List.setIfInBounds_toArray, List.set_cons_zero, List.set_cons_succ]
  refine wpX_f _ (.bool true) rfl rfl (fun X _ => by simp [go_sem]) ?_
  simp only [List.getElem_toArray, List.getElem_cons_zero, List.getElem_cons_succ, Act.put, List.setIfInBounds_toArray, List.set_cons_zero, List.set_cons_succ]
  refine wpX_f _ (.pointer (some ⟨l, 8, none⟩)) rfl rfl (fun X _ => by simp [go_sem]) ?_
  simp only [List.getElem_toArray, List.getElem_cons_zero, List.getElem_cons_succ, Act.put, List.setIfInBounds_toArray, List.set_cons_zero, List.set_cons_succ]
  refine wpX_f _ (.int .i64 136) rfl rfl (fun X hX => by have e : X.cell? ⟨l, 8, none⟩ = some (.int .i64 136) := (L8.out.carry (Ext.trans hX9 hX)).1 8 (by decide); simp [go_sem, e]) ?_
  simp only [List.getElem_toArray, List.getElem_cons_zero, List.getElem_cons_succ, Act.put, List.setIfInBounds_toArray, List.set_cons_zero, List.set_cons_succ]
  refine wpX_f _ (.bool true) rfl rfl (fun X _ => by simp [go_sem]) ?_
  simp only [List.getElem_toArray, List.getElem_cons_zero, List.getElem_cons_succ, Act.put, List.setIfInBounds_toArray, List.set_cons_zero, List.set_cons_succ]
  refine wpX_f _ (.bool true) rfl rfl (fun X _ => by simp [go_sem]) ?_
  simp only [List.getElem_toArray, List.getElem_cons_zero, List.getElem_cons_succ, Act.put, List.setIfInBounds_toArray, List.set_cons_zero, List.set_cons_succ]
  refine wpX_f _ (.bool true) rfl rfl (fun X _ => by simp [go_sem]) ?_
  simp only [List.getElem_toArray, List.getElem_cons_zero, List.getElem_cons_succ, Act.put, List.setIfInBounds_toArray, List.set_cons_zero, List.set_cons_succ]
  refine wpX_f _ (.pointer (some ⟨l, 5, none⟩)) rfl rfl (fun X _ => by simp [go_sem]) ?_
  simp only [List.getElem_toArray, List.getElem_cons_zero, List.getElem_cons_succ, Act.put, List.setIfInBounds_toArray, List.set_cons_zero, List.set_cons_succ]
  refine wpX_f _ (.slice (some ⟨lb, 0, none⟩) 1 cap) rfl rfl (fun X hX => by have e : X.cell? ⟨l, 5, none⟩ = some (.slice (some ⟨lb, 0, none⟩) 1 cap) := (L8.out.carry (Ext.trans hX9 hX)).1 5 (by decide); simp [go_sem, e]) ?_
  simp only [List.getElem_toArray, List.getElem_cons_zero, List.getElem_cons_succ, Act.put, List.setIfInBounds_toArray, List.set_cons_zero, List.set_cons_succ]
  refine wpX_f _ (.int .i64 1) rfl rfl (fun X _ => by simp [go_sem]) ?_
  simp only [List.getElem_toArray, List.getElem_cons_zero, List.getElem_cons_succ, Act.put, List.setIfInBounds_toArray, List.set_cons_zero, List.set_cons_succ]
  refine wpX_f _ (.bool true) rfl rfl (fun X _ => by simp [go_sem]) ?_
  simp only [List.getElem_toArray, List.getElem_cons_zero, List.getElem_cons_succ, Act.put, List.setIfInBounds_toArray, List.set_cons_zero, List.set_cons_succ]
  refine wpX_f _ (.bool true) rfl rfl (fun X _ => by simp [go_sem]) ?_
  simp only [List.getElem_toArray, List.getElem_cons_zero, List.getElem_cons_succ, Act.put, List.setIfInBounds_toArray, List.set_cons_zero, List.set_cons_succ]
  refine wpX_f _ (.bool true) rfl rfl (fun X _ => by simp [go_sem]) ?_
  simp only [List.getElem_toArray, List.getElem_cons_zero, List.getElem_cons_succ, Act.put, List.setIfInBounds_toArray, List.set_cons_zero]
  refine wpX_nil ?_
  have hE9 := hideit (Ext.trans hE8.out hX9)
  clear R8 D8 L8 hE8 hX9 hcv0 hms
  go_wp2
  go_ret
  exact ⟨rfl, hE9.out⟩
end Go.Proofs.YtenlokmoijeehaaDoor
namespace Go.Proofs.YtenlokmoijeehaaDoor
open Go.ChangeShapes Go.WideShapes Go.ChangeAt Go.RowKit
theorem arr_cells {H : Type} {enc : TypeId × Value → H} {W : World} {base : Nat} {spare : Nat → Bool} {held : Bool} {n : Nat} {cs : List Value} {x : DataW H × List MemPlace} {t : TypeId} {N : Nat} (hu : Tryd.prog.underlying t = some (.array N 5)) (h : DataW.trod enc Tryd.prog W base spare held n t cs = some x) :
    ∃ f : Nat → BitVec 8, ∀ i, i < N → cs[i]? = some (.int .u8 ((f i).toNat : Int)) := by
  have hc5 : Tryd.prog.cellsOf 5 = 1 := by kernel_rfl
  obtain ⟨xs, m, _, _, _, hxl, hx⟩ := DataW.trod_array hu h
  have hall : ∀ i, i < N → ∃ b : BitVec 8, cs[i]? = some (.int .u8 (b.toNat : Int)) := by
    intro i hi
    have h1 := hx i hi
    rw [List.getElem?_eq_getElem (by omega)] at h1
    obtain ⟨n, e0, _, w0⟩ := DataW.trod_int Tryd.underlying5 h1
    obtain ⟨b, rfl⟩ := of_wf8 w0
    refine ⟨b, ?_⟩
    rw [hc5] at e0
    have h2 : (List.take 1 (List.drop (i * 1) cs))[0]? = some (.int .u8 (b.toNat : Int)) := by rw [e0]; rfl
    simpa [List.getElem?_take, List.getElem?_drop] using h2
  refine ⟨fun i => if h : i < N then (hall i h).choose else 0#8, fun i hi => ?_⟩
  rw [(hall i hi).choose_spec]
  simp only [dif_pos hi]
theorem sub_cells {cs : List Value} {off m i : Nat} (hi : i < m) : ((cs.drop off).take m)[i]? = cs[off + i]? := by
  rw [List.getElem?_take_of_lt hi, List.getElem?_drop]
theorem row_of {cs : List Value} {n : Nat} {g : Nat → Value} (hl : cs.length = n) (h : ∀ i, i < n → cs[i]? = some (g i)) : cs = row n g := by
  apply List.ext_getElem?
  intro i
  by_cases hi : i < n
  · rw [h i hi, row_get n g i hi]
  · rw [List.getElem?_eq_none (by omega), List.getElem?_eq_none (by rw [row_length]; omega)]
theorem okWide_st {P : Program} {w : World} {r : Reach} {base : Nat} {t : TypeId} {v : Value} {fs : Array Field} (ht : P.underlying t = some (.struct fs)) (h : Value.okWide P w r base t v) : ∃ cs, v = .agg cs ∧ cs.size = P.cellsOf t ∧ Row.okWide P w r base t cs := by
  unfold Value.okWide at h
  rw [ht] at h
  exact h
theorem of_wf64 {n : Int} (h : (Lit.int .u64 n).wf = true) : ∃ a : BitVec 64, n = (a.toNat : Int) := by
  have hb := bounds_u64 h
  exact ⟨BitVec.ofNat 64 n.toNat, by rw [BitVec.toNat_ofNat]; omega⟩
theorem trod_st {H : Type} {enc : TypeId × Value → H} {P : Program} {w : World} {base : Nat} {spare : Nat → Bool} {held : Bool} {t : TypeId} {fs : List Field} {fuel : Nat} {cs : List Value} {x : DataW H × List MemPlace} (ht : P.underlying t = some (.struct fs.toArray)) (h : DataW.trod enc P w base spare held fuel t cs = some x) :
    ∃ n, cs.length = P.cellsOf t ∧ ∀ (i : Nat) (f : Field), fs[i]? = some f → ∃ y, DataW.trod enc P w base spare held n f.type ((cs.drop f.offset).take (P.cellsOf f.type)) = some y := by
  obtain ⟨xs, n, _, _, hl, hlen, hf⟩ := DataW.trod_struct ht h
  refine ⟨n, hl, fun i f hi => ?_⟩
  have hi2 : fs.toArray[i]? = some f := by simpa using hi
  have hlt : i < xs.length := by
    have := (List.getElem?_eq_some_iff.1 hi).1
    simp at hlen
    omega
  refine ⟨xs[i], ?_⟩
  rw [hf i f hi2, List.getElem?_eq_getElem hlt]
set_option maxRecDepth 100000 in
theorem pa_cells {H : Type} {enc : TypeId × Value → H} {W : World} {base : Nat} {spare : Nat → Bool} {held : Bool} {n : Nat} {cs : List Value} {x : DataW H × List MemPlace} (h : DataW.trod enc Tryd.prog W base spare held n 24 cs = some x) :
    ∃ a b c, ∀ i, i < 3 → cs[i]? = some (pav a b c i) := by
  have c3 : Tryd.prog.cellsOf 3 = 1 := by kernel_rfl
  obtain ⟨m, hl, hf⟩ := trod_st (fs := [_, _, _]) Tryd.underlying24 h
  have _ := hl
  · obtain ⟨y0, h0⟩ := hf 0 _ rfl
    obtain ⟨y1, h1⟩ := hf 1 _ rfl
    obtain ⟨y2, h2⟩ := hf 2 _ rfl
    simp only [c3] at h0 h1 h2
    obtain ⟨k0, e0, _, _⟩ := DataW.trod_int Tryd.underlying3 h0
    obtain ⟨k1, e1, _, _⟩ := DataW.trod_int Tryd.underlying3 h1
    obtain ⟨k2, e2, _, _⟩ := DataW.trod_int Tryd.underlying3 h2
    refine ⟨k0, k1, k2, fun i hi => ?_⟩
    have q0 := congrArg (·[0]?) e0
    have q1 := congrArg (·[0]?) e1
    have q2 := congrArg (·[0]?) e2
    simp only [sub_cells (show 0 < 1 by decide)] at q0 q1 q2
    rcases (by omega : i = 0 ∨ i = 1 ∨ i = 2) with rfl | rfl | rfl
    · exact q0
    · exact q1
    · exact q2
set_option maxRecDepth 100000 in
theorem head_cells {H : Type} {enc : TypeId × Value → H} {W : World} {base : Nat} {spare : Nat → Bool} {held : Bool} {n : Nat} {cs : List Value} {x : DataW H × List MemPlace} (h : DataW.trod enc Tryd.prog W base spare held n 27 cs = some x) :
    ∃ k : Hd, cs = row 24 (hdv k) := by
  have hC : Tryd.prog.cellsOf 27 = 24 := by kernel_rfl
  have c3 : Tryd.prog.cellsOf 3 = 1 := by kernel_rfl
  have c22 : Tryd.prog.cellsOf 22 = 1 := by kernel_rfl
  have c24 : Tryd.prog.cellsOf 24 = 3 := by kernel_rfl
  have c25 : Tryd.prog.cellsOf 25 = 16 := by kernel_rfl
  obtain ⟨m, hl, hf⟩ := trod_st (fs := [_, _, _, _, _, _, _]) Tryd.underlying27 h
  rw [hC] at hl
  · obtain ⟨y0, h0⟩ := hf 0 _ rfl
    obtain ⟨y1, h1⟩ := hf 1 _ rfl
    obtain ⟨y2, h2⟩ := hf 2 _ rfl
    obtain ⟨y3, h3⟩ := hf 3 _ rfl
    obtain ⟨y4, h4⟩ := hf 4 _ rfl
    obtain ⟨y5, h5⟩ := hf 5 _ rfl
    obtain ⟨y6, h6⟩ := hf 6 _ rfl
    simp only [c3, c22, c24, c25] at h0 h1 h2 h3 h4 h5 h6
    obtain ⟨k0, e0, _, w0⟩ := DataW.trod_int Tryd.underlying22 h0
    obtain ⟨g, rfl⟩ := of_wf64 w0
    obtain ⟨k1, e1, _, _⟩ := DataW.trod_int Tryd.underlying3 h1
    obtain ⟨k2, e2, _, _⟩ := DataW.trod_int Tryd.underlying3 h2
    obtain ⟨k3, e3, _, _⟩ := DataW.trod_int Tryd.underlying3 h3
    obtain ⟨k4, e4, _, _⟩ := DataW.trod_int Tryd.underlying3 h4
    obtain ⟨a, b, c, e5⟩ := pa_cells h5
    obtain ⟨f, e6⟩ := arr_cells Tryd.underlying25 h6
    have q0 := congrArg (·[0]?) e0
    have q1 := congrArg (·[0]?) e1
    have q2 := congrArg (·[0]?) e2
    have q3 := congrArg (·[0]?) e3
    have q4 := congrArg (·[0]?) e4
    have p0 := e5 0 (by decide)
    have p1 := e5 1 (by decide)
    have p2 := e5 2 (by decide)
    simp only [sub_cells (show 0 < 1 by decide), sub_cells (show 0 < 3 by decide), sub_cells (show 1 < 3 by decide), sub_cells (show 2 < 3 by decide)] at q0 q1 q2 q3 q4 p0 p1 p2
    refine ⟨⟨g, k1, k2, k3, k4, a, b, c, f⟩, row_of hl fun i hi => ?_⟩
    by_cases c8 : i < 8
    · rcases (by omega : i = 0 ∨ i = 1 ∨ i = 2 ∨ i = 3 ∨ i = 4 ∨ i = 5 ∨ i = 6 ∨ i = 7) with rfl | rfl | rfl | rfl | rfl | rfl | rfl | rfl
      · exact q0
      · exact q1
      · exact q2
      · exact q3
      · exact q4
      · exact p0
      · exact p1
      · exact p2
    · have := e6 (i - 8) (by omega)
      rw [sub_cells (by omega), show 8 + (i - 8) = i by omega] at this
      rw [this]
      unfold hdv
      rw [if_neg (by omega), if_neg (by omega), if_neg (by omega), if_neg (by omega), if_neg (by omega), if_neg (by omega), if_neg (by omega), if_neg (by omega)]
theorem open_head {H : Type} {enc : TypeId × Value → H} {W : World} {r : Reach} {b0 base : Nat} {spare : Nat → Bool} {held : Bool} {v : Value} {d : DataW H} {p : List MemPlace}
    (hv : Value.okWide Tryd.prog W r b0 27 v) (h : DataW.Trod enc Tryd.prog W base spare held 27 v d p) : ∃ k : Hd, v = .agg (row 24 (hdv k)).toArray := by
  obtain ⟨cs, rfl, _, _⟩ := okWide_st Tryd.underlying27 hv
  obtain ⟨fuel, hf⟩ := h
  obtain ⟨k, e⟩ := head_cells hf
  refine ⟨k, ?_⟩
  rw [← e]
  simp [Value.cells]
end Go.Proofs.YtenlokmoijeehaaDoor
