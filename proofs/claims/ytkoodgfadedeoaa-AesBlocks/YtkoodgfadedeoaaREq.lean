/-
  The program's enciphering and the document's are the same, block by block.
-/
import Derived.Test.YtkoodgfadedeoaaRDec
import Derived.Test.YtkoodgfadedeoaaCols
namespace Go.Proofs.Ytkoodgfadedeoaa
theorem mB1 : ∀ x : BitVec 8, mB 1#8 x = x := by decide +kernel
theorem mB2 : ∀ x : BitVec 8, mB 2#8 x = dX 27#8 x := by decide +kernel
theorem mB3 : ∀ x : BitVec 8, mB 3#8 x = dX 27#8 x ^^^ x := by decide +kernel
theorem mB9 : ∀ x : BitVec 8, mB 9#8 x = dX 27#8 (dX 27#8 (dX 27#8 x)) ^^^ x := by decide +kernel
theorem mB11 : ∀ x : BitVec 8, mB 11#8 x = dX 27#8 (dX 27#8 (dX 27#8 x)) ^^^ (dX 27#8 x ^^^ x) := by decide +kernel
theorem mB13 : ∀ x : BitVec 8, mB 13#8 x = dX 27#8 (dX 27#8 (dX 27#8 x)) ^^^ (dX 27#8 (dX 27#8 x) ^^^ x) := by decide +kernel
theorem mB14 : ∀ x : BitVec 8, mB 14#8 x = dX 27#8 (dX 27#8 (dX 27#8 x)) ^^^ (dX 27#8 (dX 27#8 x) ^^^ dX 27#8 x) := by decide +kernel
theorem rmix_at (a b c d : BitVec 8) (f : Nat → BitVec 8) (j : Nat) (hj : j < 16) : rmixF (fac a b c d) f j = mB a (f j) ^^^ (mB b (f (nx 1 j)) ^^^ (mB c (f (nx 2 j)) ^^^ mB d (f (nx 3 j)))) := by
  rcases (by omega : j = 0 ∨ j = 1 ∨ j = 2 ∨ j = 3 ∨ j = 4 ∨ j = 5 ∨ j = 6 ∨ j = 7 ∨ j = 8 ∨ j = 9 ∨ j = 10 ∨ j = 11 ∨ j = 12 ∨ j = 13 ∨ j = 14 ∨ j = 15) with rfl | rfl | rfl | rfl | rfl | rfl | rfl | rfl | rfl | rfl | rfl | rfl | rfl | rfl | rfl | rfl
  all_goals
    simp only [rmixF, rmixP, xB, fac, nx, Nat.reduceDiv, Nat.reduceMul, Nat.reduceMod, Nat.reduceAdd, Nat.reduceSub, Nat.reduceEqDiff, if_true, if_false, BitVec.zero_xor, Nat.add_zero, Nat.zero_add]
    try simp only [BitVec.xor_assoc, BitVec.xor_comm, xl]
theorem rmix_mix (f : Nat → BitVec 8) : Eq16 (rmixF (fac 2#8 3#8 1#8 1#8) f) (mixF twT f) := fun j hj => by
  rw [rmix_at _ _ _ _ f j hj, mix_at f j hj, mB2, mB3, mB1, mB1]
  unfold m0
  simp only [BitVec.xor_assoc, BitVec.xor_comm, xl]
set_option maxHeartbeats 1000000 in
theorem col3 (x y z w : BitVec 8) : mB 14#8 x ^^^ (mB 11#8 y ^^^ (mB 13#8 z ^^^ mB 9#8 w)) = m0 (p0 x z) (p0 y w) (p0 z x) (p0 w y) := by
  rw [mB14, mB11, mB13, mB9]
  simp only [m0, p0, dX_add]
  generalize dX 27#8 x = x1
  generalize dX 27#8 y = y1
  generalize dX 27#8 z = z1
  generalize dX 27#8 w = w1
  generalize dX 27#8 x1 = x2
  generalize dX 27#8 y1 = y2
  generalize dX 27#8 z1 = z2
  generalize dX 27#8 w1 = w2
  generalize dX 27#8 x2 = x3
  generalize dX 27#8 y2 = y3
  generalize dX 27#8 z2 = z3
  generalize dX 27#8 w2 = w3
  simp only [BitVec.xor_assoc, BitVec.xor_comm, xl, xc]
theorem rmix_unmix (f : Nat → BitVec 8) : Eq16 (rmixF (fac 14#8 11#8 13#8 9#8) f) (unmixF twT f) := fun j hj => by
  obtain ⟨_, _, _, a21, a22, a23, _, _, _⟩ := nx_nx j hj
  have l1 := nx_lt 1 j hj
  have l2 := nx_lt 2 j hj
  have l3 := nx_lt 3 j hj
  rw [rmix_at _ _ _ _ f j hj, col3]
  unfold unmixF
  rw [mix_at _ j hj, pre_at _ j hj, pre_at _ _ l1, pre_at _ _ l2, pre_at _ _ l3, a21, a22, a23]
theorem turn_at111 : ∀ j, j < 16 → (((j + 4 * (j % 4) * 1) % 16 + 4 * ((j + 4 * (j % 4) * 1) % 16 % 4) * 1) % 16 + 4 * (((j + 4 * (j % 4) * 1) % 16 + 4 * ((j + 4 * (j % 4) * 1) % 16 % 4) * 1) % 16 % 4) * 1) % 16 = (j + 4 * (j % 4) * 3) % 16 := by decide
theorem turn111 (f : Nat → BitVec 8) : Eq16 (turnF 1 (turnF 1 (turnF 1 f))) (turnF 3 f) := fun j hj => by
  unfold turnF
  rw [turn_at111 j hj]
theorem rencK_s (N : Nat) (K bx f : Nat → BitVec 8) (n : Nat) : rencK N K bx f (n + 1) = addF (rencM N (n + 1) (turnF 1 (replF bx (rencK N K bx f n)))) (kF K (n + 1)) := rfl
theorem rdecK_s (N : Nat) (K ub f : Nat → BitVec 8) (m : Nat) : rdecK N K ub f (m + 1) = replF ub (turnF 1 (turnF 1 (turnF 1 (rdecM N (N - 1 - m) (addF (rdecK N K ub f m) (kF K (N - 1 - m))))))) := rfl
theorem renc_state (K f : Nat → BitVec 8) (r : Nat) : ∀ n, n ≤ r - 1 → Eq16 (rencK (r + 1) K bxT f n) (encK K bxT twT f n)
  | 0, _ => Eq16.rfl' _
  | n + 1, hn => by
    rw [rencK_s, encK_s]
    have hm : rencM (r + 1) (n + 1) (turnF 1 (replF bxT (rencK (r + 1) K bxT f n))) = rmixF (fac 2#8 3#8 1#8 1#8) (turnF 1 (replF bxT (rencK (r + 1) K bxT f n))) := by unfold rencM; rw [if_pos (by omega)]
    rw [hm]
    exact ((rmix_mix _).trans (renc_state K f r n (by omega)).repl.turn.mix).add
theorem renc_enc (K f : Nat → BitVec 8) (r : Nat) (hr : 1 ≤ r) : Eq16 (rencK (r + 1) K bxT f (r + 1 - 1)) (encF K bxT twT r f) := by
  obtain ⟨n, rfl⟩ : ∃ n, r = n + 1 := ⟨r - 1, by omega⟩
  rw [Nat.add_sub_cancel, rencK_s]
  have hm : rencM (n + 1 + 1) (n + 1) (turnF 1 (replF bxT (rencK (n + 1 + 1) K bxT f n))) = turnF 1 (replF bxT (rencK (n + 1 + 1) K bxT f n)) := by unfold rencM; rw [if_neg (by omega)]
  rw [hm]
  unfold encF
  rw [Nat.add_sub_cancel]
  exact (renc_state K f (n + 1) n (by omega)).repl.turn.add
theorem rdec_state (K f : Nat → BitVec 8) (r : Nat) : ∀ m, m ≤ r - 1 → Eq16 (rdecM (r + 1) (r + 1 - 1 - m) (addF (rdecK (r + 1) K ubT f m) (kF K (r + 1 - 1 - m)))) (decK K ubT twT r f m)
  | 0, _ => by
    unfold rdecM
    rw [if_neg (by omega), decK_z]
    exact Eq16.rfl' _
  | m + 1, hm => by
    have ih := rdec_state K f r m (by omega)
    rw [rdecK_s, decK_s]
    unfold rdecM at ih ⊢
    rw [if_pos (by omega), show r + 1 - 1 - (m + 1) = r - 1 - m by omega]
    refine (rmix_unmix _).trans ?_
    exact ((turn111 _).trans ih.turn).repl.add.unmix
theorem rdec_dec (K f : Nat → BitVec 8) (r : Nat) (hr : 1 ≤ r) : Eq16 (addF (rdecK (r + 1) K ubT f (r + 1 - 1)) (kF K 0)) (decF K ubT twT r f) := by
  obtain ⟨n, rfl⟩ : ∃ n, r = n + 1 := ⟨r - 1, by omega⟩
  have h := rdec_state K f (n + 1) n (by omega)
  rw [Nat.add_sub_cancel, rdecK_s]
  unfold decF
  rw [Nat.add_sub_cancel]
  exact ((turn111 _).trans h.turn).repl.add
end Go.Proofs.Ytkoodgfadedeoaa
