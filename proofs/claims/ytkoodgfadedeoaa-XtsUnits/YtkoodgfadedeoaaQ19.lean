/-
  Mixing columns and undoing it; turning rows; boxes: plain facts on bytes. One block under one key: the rounds, one by one.
-/
import Derived.Test.YtkoodgfadedeoaaQ10
import Derived.Test.YtkoodgfadedeoaaQ11
import Derived.Test.YtkoodgfadedeoaaQ18
namespace Go.Proofs.Ytkoodgfadedeoaa
theorem mB_two : ∀ a : BitVec 8, mB a 2#8 = dX 27#8 a := by decide +kernel
theorem tw_d (a : BitVec 8) : twT a.toNat = dX 27#8 a := by
  unfold twT
  rw [BitVec.ofNat_toNat, BitVec.setWidth_eq, mB_two]
theorem xc (a b : BitVec 8) : a ^^^ (a ^^^ b) = b := by rw [← BitVec.xor_assoc, BitVec.xor_self, BitVec.zero_xor]
theorem xl (a b c : BitVec 8) : a ^^^ (b ^^^ c) = b ^^^ (a ^^^ c) := by rw [← BitVec.xor_assoc, BitVec.xor_comm a b, BitVec.xor_assoc]
def m0 (x y z w : BitVec 8) : BitVec 8 := y ^^^ (z ^^^ (w ^^^ (dX 27#8 x ^^^ dX 27#8 y)))
def p0 (x z : BitVec 8) : BitVec 8 := x ^^^ (dX 27#8 (dX 27#8 x) ^^^ dX 27#8 (dX 27#8 z))
set_option maxHeartbeats 2000000 in
theorem col1 (x y z w : BitVec 8) : m0 (p0 (m0 x y z w) (m0 z w x y)) (p0 (m0 y z w x) (m0 w x y z)) (p0 (m0 z w x y) (m0 x y z w)) (p0 (m0 w x y z) (m0 y z w x)) = x := by
  simp only [m0, p0, dX_add]
  generalize dX 27#8 x = x1
  generalize dX 27#8 y = y1
  generalize dX 27#8 z = z1
  generalize dX 27#8 w = w1
  generalize dX 27#8 x1 = x2
  generalize dX 27#8 y1 = y2
  generalize dX 27#8 z1 = z2
  generalize dX 27#8 w1 = w2
  generalize dX 27#8 x2 = x3
  generalize dX 27#8 y2 = y3
  generalize dX 27#8 z2 = z3
  generalize dX 27#8 w2 = w3
  generalize dX 27#8 x3 = x4
  generalize dX 27#8 y3 = y4
  generalize dX 27#8 z3 = z4
  generalize dX 27#8 w3 = w4
  simp only [BitVec.xor_assoc, BitVec.xor_comm, xl, BitVec.xor_self, xc, BitVec.xor_zero]
set_option maxHeartbeats 2000000 in
theorem col2 (x y z w : BitVec 8) : m0 (m0 (p0 x z) (p0 y w) (p0 z x) (p0 w y)) (m0 (p0 y w) (p0 z x) (p0 w y) (p0 x z)) (m0 (p0 z x) (p0 w y) (p0 x z) (p0 y w)) (m0 (p0 w y) (p0 x z) (p0 y w) (p0 z x)) = x := by
  simp only [m0, p0, dX_add]
  generalize dX 27#8 x = x1
  generalize dX 27#8 y = y1
  generalize dX 27#8 z = z1
  generalize dX 27#8 w = w1
  generalize dX 27#8 x1 = x2
  generalize dX 27#8 y1 = y2
  generalize dX 27#8 z1 = z2
  generalize dX 27#8 w1 = w2
  generalize dX 27#8 x2 = x3
  generalize dX 27#8 y2 = y3
  generalize dX 27#8 z2 = z3
  generalize dX 27#8 w2 = w3
  generalize dX 27#8 x3 = x4
  generalize dX 27#8 y3 = y4
  generalize dX 27#8 z3 = z4
  generalize dX 27#8 w3 = w4
  simp only [BitVec.xor_assoc, BitVec.xor_comm, xl, BitVec.xor_self, xc, BitVec.xor_zero]
def Eq16 (f g : Nat → BitVec 8) : Prop := ∀ j, j < 16 → f j = g j
theorem Eq16.trans {f g h : Nat → BitVec 8} (a : Eq16 f g) (b : Eq16 g h) : Eq16 f h := fun j hj => (a j hj).trans (b j hj)
theorem Eq16.symm {f g : Nat → BitVec 8} (a : Eq16 f g) : Eq16 g f := fun j hj => (a j hj).symm
theorem Eq16.rfl' (f : Nat → BitVec 8) : Eq16 f f := fun _ _ => rfl
theorem Eq16.row {f g : Nat → BitVec 8} (h : Eq16 f g) : row 16 (yv f) = row 16 (yv g) := row_ext fun j hj => by simp only [yv, h j hj]
theorem Eq16.add {f g h : Nat → BitVec 8} (a : Eq16 f g) : Eq16 (addF f h) (addF g h) := fun j hj => by simp only [addF, a j hj]
theorem Eq16.repl {t f g : Nat → BitVec 8} (a : Eq16 f g) : Eq16 (replF t f) (replF t g) := fun j hj => by simp only [replF, a j hj]
theorem Eq16.turn {m : Nat} {f g : Nat → BitVec 8} (a : Eq16 f g) : Eq16 (turnF m f) (turnF m g) := fun j hj => by
  unfold turnF
  exact a _ (Nat.mod_lt _ (by omega))
theorem Eq16.mix {t f g : Nat → BitVec 8} (a : Eq16 f g) : Eq16 (mixF t f) (mixF t g) := fun j hj => by
  unfold mixF allF
  rw [a j hj, a (j / 4 * 4) (by omega), a (j / 4 * 4 + 1) (by omega), a (j / 4 * 4 + 2) (by omega), a (j / 4 * 4 + 3) (by omega), a (j / 4 * 4 + (j + 1) % 4) (by omega)]
theorem Eq16.pre {t f g : Nat → BitVec 8} (a : Eq16 f g) : Eq16 (preF t f) (preF t g) := fun j hj => by
  unfold preF
  rw [a j hj, a (j / 4 * 4 + j % 2) (by omega), a (j / 4 * 4 + (j % 2 + 2)) (by omega)]
theorem Eq16.unmix {t f g : Nat → BitVec 8} (a : Eq16 f g) : Eq16 (unmixF t f) (unmixF t g) := a.pre.mix
theorem turn_at31 : ∀ j, j < 16 → ((j + 4 * (j % 4) * 3) % 16 + 4 * ((j + 4 * (j % 4) * 3) % 16 % 4) * 1) % 16 = j := by decide
theorem turn_at13 : ∀ j, j < 16 → ((j + 4 * (j % 4) * 1) % 16 + 4 * ((j + 4 * (j % 4) * 1) % 16 % 4) * 3) % 16 = j := by decide
theorem turn31 (f : Nat → BitVec 8) : Eq16 (turnF 3 (turnF 1 f)) f := fun j hj => by
  unfold turnF
  rw [turn_at31 j hj]
theorem turn13 (f : Nat → BitVec 8) : Eq16 (turnF 1 (turnF 3 f)) f := fun j hj => by
  unfold turnF
  rw [turn_at13 j hj]
theorem sub_ub (f : Nat → BitVec 8) : Eq16 (replF ubT (replF bxT f)) f := fun j _ => by
  unfold replF ubT bxT
  rw [BitVec.ofNat_toNat, BitVec.setWidth_eq, BitVec.ofNat_toNat, BitVec.setWidth_eq, unbox_box]
theorem sub_bu (f : Nat → BitVec 8) : Eq16 (replF bxT (replF ubT f)) f := fun j _ => by
  unfold replF ubT bxT
  rw [BitVec.ofNat_toNat, BitVec.setWidth_eq, BitVec.ofNat_toNat, BitVec.setWidth_eq, box_unbox]
theorem add_add (f k : Nat → BitVec 8) : Eq16 (addF (addF f k) k) f := fun j _ => by
  unfold addF xB
  exact xx _ _
def nx (k j : Nat) : Nat := j / 4 * 4 + (j + k) % 4
theorem mix_at (f : Nat → BitVec 8) (j : Nat) (hj : j < 16) : mixF twT f j = m0 (f j) (f (nx 1 j)) (f (nx 2 j)) (f (nx 3 j)) := by
  rcases (by omega : j = 0 ∨ j = 1 ∨ j = 2 ∨ j = 3 ∨ j = 4 ∨ j = 5 ∨ j = 6 ∨ j = 7 ∨ j = 8 ∨ j = 9 ∨ j = 10 ∨ j = 11 ∨ j = 12 ∨ j = 13 ∨ j = 14 ∨ j = 15) with rfl | rfl | rfl | rfl | rfl | rfl | rfl | rfl | rfl | rfl | rfl | rfl | rfl | rfl | rfl | rfl
  all_goals
    simp only [mixF, allF, xB, tw_d, dX_add, m0, nx, Nat.reduceDiv, Nat.reduceMul, Nat.reduceMod, Nat.reduceAdd]
    simp only [BitVec.xor_assoc, BitVec.xor_comm, xl, xc]
theorem pre_at (f : Nat → BitVec 8) (j : Nat) (hj : j < 16) : preF twT f j = p0 (f j) (f (nx 2 j)) := by
  rcases (by omega : j = 0 ∨ j = 1 ∨ j = 2 ∨ j = 3 ∨ j = 4 ∨ j = 5 ∨ j = 6 ∨ j = 7 ∨ j = 8 ∨ j = 9 ∨ j = 10 ∨ j = 11 ∨ j = 12 ∨ j = 13 ∨ j = 14 ∨ j = 15) with rfl | rfl | rfl | rfl | rfl | rfl | rfl | rfl | rfl | rfl | rfl | rfl | rfl | rfl | rfl | rfl
  all_goals
    simp only [preF, xB, tw_d, dX_add, p0, nx, Nat.reduceDiv, Nat.reduceMul, Nat.reduceMod, Nat.reduceAdd]
    try simp only [BitVec.xor_comm]
theorem nx_lt (k j : Nat) (hj : j < 16) : nx k j < 16 := by unfold nx; omega
theorem nx_nx : ∀ j, j < 16 → nx 1 (nx 1 j) = nx 2 j ∧ nx 1 (nx 2 j) = nx 3 j ∧ nx 1 (nx 3 j) = j ∧ nx 2 (nx 1 j) = nx 3 j ∧ nx 2 (nx 2 j) = j ∧ nx 2 (nx 3 j) = nx 1 j ∧ nx 3 (nx 1 j) = j ∧ nx 3 (nx 2 j) = nx 1 j ∧ nx 3 (nx 3 j) = nx 2 j := by decide
theorem unmix_mix (f : Nat → BitVec 8) : Eq16 (unmixF twT (mixF twT f)) f := fun j hj => by
  obtain ⟨a11, a12, a13, a21, a22, a23, a31, a32, a33⟩ := nx_nx j hj
  have l1 := nx_lt 1 j hj
  have l2 := nx_lt 2 j hj
  have l3 := nx_lt 3 j hj
  unfold unmixF
  rw [mix_at _ j hj, pre_at _ j hj, pre_at _ _ l1, pre_at _ _ l2, pre_at _ _ l3, a21, a22, a23, mix_at f j hj, mix_at f _ l1, mix_at f _ l2, mix_at f _ l3, a11, a12, a13, a21, a22, a23, a31, a32, a33]
  exact col1 _ _ _ _
theorem mix_unmix (f : Nat → BitVec 8) : Eq16 (mixF twT (unmixF twT f)) f := fun j hj => by
  obtain ⟨a11, a12, a13, a21, a22, a23, a31, a32, a33⟩ := nx_nx j hj
  have l1 := nx_lt 1 j hj
  have l2 := nx_lt 2 j hj
  have l3 := nx_lt 3 j hj
  unfold unmixF
  rw [mix_at _ j hj, mix_at _ j hj, mix_at _ _ l1, mix_at _ _ l2, mix_at _ _ l3, a11, a12, a13, a21, a22, a23, a31, a32, a33, pre_at _ j hj, pre_at _ _ l1, pre_at _ _ l2, pre_at _ _ l3, a21, a22, a23]
  exact col2 _ _ _ _
theorem encK_s (K bx tw f : Nat → BitVec 8) (n : Nat) : encK K bx tw f (n + 1) = addF (mixF tw (turnF 1 (replF bx (encK K bx tw f n)))) (kF K (n + 1)) := rfl
theorem encK_z (K bx tw f : Nat → BitVec 8) : encK K bx tw f 0 = addF f (kF K 0) := rfl
theorem decK_s (K ub tw f : Nat → BitVec 8) (r m : Nat) : decK K ub tw r f (m + 1) = unmixF tw (addF (replF ub (turnF 3 (decK K ub tw r f m))) (kF K (r - 1 - m))) := rfl
theorem decK_z (K ub tw f : Nat → BitVec 8) (r : Nat) : decK K ub tw r f 0 = addF f (kF K r) := rfl
/-- there and back -/
theorem dec_enc_state (K f : Nat → BitVec 8) (r : Nat) (hr : 1 ≤ r) : ∀ m, m ≤ r - 1 → Eq16 (decK K ubT twT r (encF K bxT twT r f) m) (turnF 1 (replF bxT (encK K bxT twT f (r - 1 - m))))
  | 0, _ => by
    rw [decK_z]
    unfold encF
    exact add_add _ _
  | m + 1, hm => by
    have ih := dec_enc_state K f r hr m (by omega)
    obtain ⟨n, hn⟩ : ∃ n, r - 1 - m = n + 1 := ⟨r - 2 - m, by omega⟩
    have hn' : r - 1 - (m + 1) = n := by omega
    rw [hn] at ih
    rw [hn', decK_s, hn]
    have h1 : Eq16 (replF ubT (turnF 3 (decK K ubT twT r (encF K bxT twT r f) m))) (encK K bxT twT f (n + 1)) := (ih.turn.repl).trans (((turn31 _).repl).trans (sub_ub _))
    refine (h1.add.unmix).trans ?_
    have h2 : Eq16 (addF (encK K bxT twT f (n + 1)) (kF K (n + 1))) (mixF twT (turnF 1 (replF bxT (encK K bxT twT f n)))) := by
      rw [encK_s]
      exact add_add _ _
    exact (h2.unmix).trans (unmix_mix _)
theorem dec_enc (K f : Nat → BitVec 8) (r : Nat) (hr : 1 ≤ r) : Eq16 (decF K ubT twT r (encF K bxT twT r f)) f := by
  have h := dec_enc_state K f r hr (r - 1) (Nat.le_refl _)
  rw [Nat.sub_self] at h
  unfold decF
  have h1 := (h.turn (m := 3)).repl (t := ubT)
  refine (h1.add).trans ?_
  have h2 : Eq16 (replF ubT (turnF 3 (turnF 1 (replF bxT (encK K bxT twT f 0))))) (addF f (kF K 0)) := ((turn31 _).repl).trans (sub_ub _)
  exact (h2.add).trans (add_add _ _)
theorem enc_dec_state (K g : Nat → BitVec 8) (r : Nat) (hr : 1 ≤ r) : ∀ n, n ≤ r - 1 → Eq16 (encK K bxT twT (decF K ubT twT r g) n) (replF ubT (turnF 3 (decK K ubT twT r g (r - 1 - n))))
  | 0, _ => by
    rw [encK_z]
    unfold decF
    exact add_add _ _
  | n + 1, hn => by
    have ih := enc_dec_state K g r hr n (by omega)
    obtain ⟨m, hm⟩ : ∃ m, r - 1 - n = m + 1 := ⟨r - 2 - n, by omega⟩
    have hm' : r - 1 - (n + 1) = m := by omega
    rw [hm] at ih
    rw [hm', encK_s]
    have h1 : Eq16 (turnF 1 (replF bxT (encK K bxT twT (decF K ubT twT r g) n))) (decK K ubT twT r g (m + 1)) := (ih.repl.turn).trans (((sub_bu _).turn).trans (turn13 _))
    have h2 : Eq16 (mixF twT (decK K ubT twT r g (m + 1))) (addF (replF ubT (turnF 3 (decK K ubT twT r g m))) (kF K (n + 1))) := by
      rw [decK_s, show r - 1 - m = n + 1 by omega]
      exact mix_unmix _
    exact ((h1.mix.trans h2).add).trans (add_add _ _)
theorem enc_dec (K g : Nat → BitVec 8) (r : Nat) (hr : 1 ≤ r) : Eq16 (encF K bxT twT r (decF K ubT twT r g)) g := by
  have h := enc_dec_state K g r hr (r - 1) (Nat.le_refl _)
  rw [Nat.sub_self] at h
  unfold encF
  have h1 : Eq16 (turnF 1 (replF bxT (encK K bxT twT (decF K ubT twT r g) (r - 1)))) (addF g (kF K r)) := (h.repl.turn).trans (((sub_bu _).turn).trans (turn13 _))
  exact (h1.add).trans (add_add _ _)
theorem encK_congr (K : Nat → BitVec 8) {f g : Nat → BitVec 8} (h : Eq16 f g) : ∀ n, Eq16 (encK K bxT twT f n) (encK K bxT twT g n)
  | 0 => h.add
  | n + 1 => by
    rw [encK_s, encK_s]
    exact (encK_congr K h n).repl.turn.mix.add
theorem encF_congr (K : Nat → BitVec 8) (r : Nat) {f g : Nat → BitVec 8} (h : Eq16 f g) : Eq16 (encF K bxT twT r f) (encF K bxT twT r g) := (encK_congr K h _).repl.turn.add
theorem decK_congr (K : Nat → BitVec 8) (r : Nat) {f g : Nat → BitVec 8} (h : Eq16 f g) : ∀ n, Eq16 (decK K ubT twT r f n) (decK K ubT twT r g n)
  | 0 => h.add
  | n + 1 => by
    rw [decK_s, decK_s]
    exact (decK_congr K r h n).turn.repl.add.unmix
theorem decF_congr (K : Nat → BitVec 8) (r : Nat) {f g : Nat → BitVec 8} (h : Eq16 f g) : Eq16 (decF K ubT twT r f) (decF K ubT twT r g) := (decK_congr K r h _).turn.repl.add
end Go.Proofs.Ytkoodgfadedeoaa
namespace Go.Proofs.Ytkoodgfadedeoaa
def sl (j : Nat) : BitVec 8 := ([0#8, 1#8, 2#8, 3#8, 4#8, 5#8, 6#8, 7#8, 8#8, 9#8, 10#8, 11#8, 12#8, 13#8, 14#8, 15#8, 214#8, 170#8, 116#8, 253#8, 210#8, 175#8, 114#8, 250#8, 218#8, 166#8, 120#8, 241#8, 214#8, 171#8, 118#8, 254#8, 182#8, 146#8, 207#8, 11#8, 100#8, 61#8, 189#8, 241#8, 190#8, 155#8, 197#8, 0#8, 104#8, 48#8, 179#8, 254#8, 182#8, 255#8, 116#8, 78#8, 210#8, 194#8, 201#8, 191#8, 108#8, 89#8, 12#8, 191#8, 4#8, 105#8, 191#8, 65#8, 71#8, 247#8, 247#8, 188#8, 149#8, 53#8, 62#8, 3#8, 249#8, 108#8, 50#8, 188#8, 253#8, 5#8, 141#8, 253#8, 60#8, 170#8, 163#8, 232#8, 169#8, 159#8, 157#8, 235#8, 80#8, 243#8, 175#8, 87#8, 173#8, 246#8, 34#8, 170#8, 94#8, 57#8, 15#8, 125#8, 247#8, 166#8, 146#8, 150#8, 167#8, 85#8, 61#8, 193#8, 10#8, 163#8, 31#8, 107#8, 20#8, 249#8, 112#8, 26#8, 227#8, 95#8, 226#8, 140#8, 68#8, 10#8, 223#8, 77#8, 78#8, 169#8, 192#8, 38#8, 71#8, 67#8, 135#8, 53#8, 164#8, 28#8, 101#8, 185#8, 224#8, 22#8, 186#8, 244#8, 174#8, 191#8, 122#8, 210#8, 84#8, 153#8, 50#8, 209#8, 240#8, 133#8, 87#8, 104#8, 16#8, 147#8, 237#8, 156#8, 190#8, 44#8, 151#8, 78#8, 19#8, 17#8, 29#8, 127#8, 227#8, 148#8, 74#8, 23#8, 243#8, 7#8, 167#8, 139#8, 77#8, 43#8, 48#8, 197#8] : List (BitVec 8)).getD j 0#8
def cl (j : Nat) : BitVec 8 := ([1#8, 2#8, 2#8, 2#8, 2#8, 4#8, 4#8, 4#8, 4#8, 8#8, 8#8, 8#8, 8#8, 16#8, 16#8, 16#8, 16#8, 32#8, 32#8, 32#8, 32#8, 64#8, 64#8, 64#8, 64#8, 128#8, 128#8, 128#8, 128#8, 27#8, 27#8, 27#8, 27#8, 54#8, 54#8, 54#8, 54#8, 108#8, 108#8, 108#8, 108#8] : List (BitVec 8)).getD j 0#8
def el (n j : Nat) : BitVec 8 := ([0#8, 16#8, 32#8, 48#8, 64#8, 80#8, 96#8, 112#8, 128#8, 144#8, 160#8, 176#8, 192#8, 208#8, 224#8, 240#8, 137#8, 216#8, 16#8, 232#8, 133#8, 90#8, 206#8, 104#8, 45#8, 24#8, 67#8, 216#8, 203#8, 18#8, 143#8, 228#8, 73#8, 21#8, 89#8, 143#8, 85#8, 229#8, 215#8, 160#8, 218#8, 202#8, 148#8, 250#8, 31#8, 10#8, 99#8, 247#8, 250#8, 99#8, 106#8, 40#8, 37#8, 179#8, 57#8, 201#8, 64#8, 102#8, 138#8, 49#8, 87#8, 36#8, 77#8, 23#8, 36#8, 114#8, 64#8, 35#8, 105#8, 102#8, 179#8, 250#8, 110#8, 210#8, 117#8, 50#8, 136#8, 66#8, 91#8, 108#8, 200#8, 22#8, 119#8, 188#8, 155#8, 122#8, 201#8, 59#8, 37#8, 2#8, 121#8, 146#8, 176#8, 38#8, 25#8, 150#8, 198#8, 47#8, 225#8, 9#8, 247#8, 94#8, 237#8, 195#8, 204#8, 121#8, 57#8, 93#8, 132#8, 249#8, 207#8, 93#8, 209#8, 135#8, 108#8, 15#8, 121#8, 196#8, 48#8, 10#8, 180#8, 85#8, 148#8, 173#8, 214#8, 111#8, 244#8, 31#8, 253#8, 227#8, 186#8, 210#8, 5#8, 229#8, 208#8, 215#8, 53#8, 71#8, 150#8, 78#8, 241#8, 254#8, 55#8, 241#8, 189#8, 110#8, 124#8, 61#8, 242#8, 181#8, 119#8, 158#8, 11#8, 97#8, 33#8, 110#8, 139#8, 16#8, 182#8, 137#8] : List (BitVec 8)).getD (16 * n + j) 0#8
def rl (n j : Nat) : BitVec 8 := ([99#8, 202#8, 183#8, 4#8, 9#8, 83#8, 208#8, 81#8, 205#8, 96#8, 224#8, 231#8, 186#8, 112#8, 225#8, 140#8, 167#8, 97#8, 202#8, 155#8, 151#8, 190#8, 139#8, 69#8, 216#8, 173#8, 26#8, 97#8, 31#8, 201#8, 115#8, 105#8, 59#8, 89#8, 203#8, 115#8, 252#8, 217#8, 14#8, 224#8, 87#8, 116#8, 34#8, 45#8, 192#8, 103#8, 251#8, 104#8, 45#8, 251#8, 2#8, 52#8, 63#8, 109#8, 18#8, 221#8, 9#8, 51#8, 126#8, 199#8, 91#8, 54#8, 227#8, 240#8, 54#8, 64#8, 9#8, 38#8, 249#8, 51#8, 109#8, 45#8, 159#8, 181#8, 157#8, 35#8, 196#8, 44#8, 57#8, 80#8, 232#8, 71#8, 245#8, 101#8, 20#8, 218#8, 221#8, 226#8, 63#8, 119#8, 182#8, 79#8, 231#8, 247#8, 212#8, 144#8, 180#8, 21#8, 248#8, 1#8, 104#8, 88#8, 85#8, 46#8, 75#8, 182#8, 18#8, 76#8, 95#8, 153#8, 138#8, 76#8, 62#8, 23#8, 80#8, 118#8, 182#8, 28#8, 4#8, 103#8, 141#8, 252#8, 34#8, 149#8, 246#8, 168#8, 191#8, 192#8, 84#8, 17#8, 244#8, 181#8, 107#8, 217#8, 112#8, 14#8, 150#8, 160#8, 144#8, 47#8, 161#8, 187#8, 154#8, 161#8, 122#8, 159#8, 16#8, 39#8, 137#8, 213#8, 245#8, 11#8, 43#8, 239#8, 253#8, 159#8, 61#8, 202#8, 78#8, 167#8] : List (BitVec 8)).getD (16 * n + j) 0#8
def pl (j : Nat) : BitVec 8 := ([0#8, 17#8, 34#8, 51#8, 68#8, 85#8, 102#8, 119#8, 136#8, 153#8, 170#8, 187#8, 204#8, 221#8, 238#8, 255#8] : List (BitVec 8)).getD j 0#8
def ex (j : Nat) : BitVec 8 := ([105#8, 196#8, 224#8, 216#8, 106#8, 123#8, 4#8, 48#8, 216#8, 205#8, 183#8, 128#8, 112#8, 180#8, 197#8, 90#8] : List (BitVec 8)).getD j 0#8
theorem wordAt_congr {k : Nat} {bx S S' : Nat → BitVec 8} {p : Nat} {c : BitVec 8} {i : Nat} (hp : 1 ≤ p) (h : ∀ j, j < 4 * p → S j = S' j) (hi : i < 4) : wordAt k bx p S c i = wordAt k bx p S' c i := by
  unfold wordAt
  rw [h (4 * (p - 1) + 1) (by omega), h (4 * (p - 1) + (i + 1) % 4) (by omega), h (4 * (p - 1) + i) (by omega)]
theorem chk_words : ∀ m, m < 40 → ∀ i, i < 4 → xB (sl (4 * m + i)) (wordAt 4 bxT (m + 4) sl (cl m) i) = sl (16 + 4 * m + i) := by decide +kernel
theorem chk_const : ∀ m, m < 40 → (if (m + 4) % 4 = 0 then twT (cl m).toNat else cl m) = cl (m + 1) := by decide +kernel
theorem wordK_s (k : Nat) (bx tw key : Nat → BitVec 8) (m : Nat) : wordK k bx tw key (m + 1) = (partS k (m + k) (wordAt k bx (m + k) (wordK k bx tw key m).1 (wordK k bx tw key m).2) (wordK k bx tw key m).1 4, if (m + k) % k = 0 then tw (wordK k bx tw key m).2.toNat else (wordK k bx tw key m).2) := rfl
theorem words_lives : ∀ m, m ≤ 40 → (wordK 4 bxT twT sl m).2 = cl m ∧ ∀ j, (wordK 4 bxT twT sl m).1 j = if j < 16 + 4 * m then sl j else 0#8
  | 0, _ => ⟨rfl, fun _ => rfl⟩
  | m + 1, hm => by
    obtain ⟨h1, h2⟩ := words_lives m (by omega)
    rw [wordK_s]
    refine ⟨?_, fun j => ?_⟩
    · show (if (m + 4) % 4 = 0 then twT (wordK 4 bxT twT sl m).2.toNat else (wordK 4 bxT twT sl m).2) = _
      rw [h1, chk_const m (by omega)]
    · show partS 4 (m + 4) (wordAt 4 bxT (m + 4) (wordK 4 bxT twT sl m).1 (wordK 4 bxT twT sl m).2) (wordK 4 bxT twT sl m).1 4 j = _
      unfold partS
      by_cases hin : 4 * (m + 4) ≤ j ∧ j < 4 * (m + 4) + 4
      · obtain ⟨i, rfl⟩ : ∃ i, j = 16 + 4 * m + i := ⟨j - (16 + 4 * m), by omega⟩
        have hi : i < 4 := by omega
        rw [if_pos hin, if_pos (by omega), h2, if_pos (by omega), show 16 + 4 * m + i - 4 * 4 = 4 * m + i by omega, show 16 + 4 * m + i - 4 * (m + 4) = i by omega, h1,
          wordAt_congr (S' := sl) (by omega) (fun j hj => by rw [h2, if_pos (by omega)]) hi]
        exact chk_words m (by omega) i hi
      · rw [if_neg hin, h2]
        by_cases hlo : j < 16 + 4 * m
        · rw [if_pos hlo, if_pos (by omega)]
        · rw [if_neg hlo, if_neg (by omega)]
theorem sched_lives (j : Nat) (hj : j < 176) : schedK 4 sl j = sl j := by
  unfold schedK keyP
  rw [if_pos (by omega)]
  have h := (words_lives 40 (Nat.le_refl _)).2 j
  rw [if_pos (by omega)] at h
  exact h
theorem chk0 : ∀ j, j < 16 → xB (pl j) (sl j) = el 0 j := by decide +kernel
theorem chk1 : ∀ n, n < 10 → ∀ j, j < 16 → bxT (el n j).toNat = rl n j := by decide +kernel
theorem chk2 : ∀ n, n < 9 → ∀ j, j < 16 → xB (mixF twT (turnF 1 (rl n)) j) (sl ((n + 1) * 16 + j)) = el (n + 1) j := by decide +kernel
theorem chk3 : ∀ j, j < 16 → xB (turnF 1 (rl 9) j) (sl (10 * 16 + j)) = ex j := by decide +kernel
theorem enc_lives_state : ∀ n, n ≤ 9 → Eq16 (encK (schedK 4 sl) bxT twT pl n) (el n)
  | 0, _ => fun j hj => by
    rw [encK_z]
    unfold addF kF
    rw [Nat.zero_mul, Nat.zero_add, sched_lives j (by omega)]
    exact chk0 j hj
  | n + 1, hn => by
    have ih := enc_lives_state n (by omega)
    have h1 : Eq16 (replF bxT (encK (schedK 4 sl) bxT twT pl n)) (rl n) := ih.repl.trans (fun j hj => chk1 n (by omega) j hj)
    intro j hj
    rw [encK_s]
    unfold addF kF
    rw [sched_lives _ (by omega), h1.turn.mix j hj]
    exact chk2 n (by omega) j hj
theorem enc_lives : Eq16 (encF (schedK 4 sl) bxT twT 10 pl) ex := by
  have h1 : Eq16 (replF bxT (encK (schedK 4 sl) bxT twT pl 9)) (rl 9) := (enc_lives_state 9 (Nat.le_refl _)).repl.trans (fun j hj => chk1 9 (by omega) j hj)
  intro j hj
  unfold encF addF kF
  rw [sched_lives _ (by omega), h1.turn j hj]
  exact chk3 j hj
end Go.Proofs.Ytkoodgfadedeoaa
