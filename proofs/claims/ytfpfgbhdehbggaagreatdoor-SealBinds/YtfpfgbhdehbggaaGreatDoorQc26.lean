/-
  Pairs of ciphers. Mixing columns and undoing it; turning rows; boxes: plain facts on bytes. There and back, on bytes; units by value.
-/
import Derived.Test.YtfpfgbhdehbggaaGreatDoorQc24
import Derived.Test.YtfpfgbhdehbggaaGreatDoorQc25
import Derived.Test.YtfpfgbhdehbggaaGreatDoorQc21
import Derived.Test.YtfpfgbhdehbggaaGreatDoorQc22
import Derived.Test.YtfpfgbhdehbggaaGreatDoorQc9
namespace Go.Proofs.YtfpfgbhdehbggaaGreatDoor
set_option maxRecDepth 20000
open Go.RowKit Go.BigFrame
set_option maxRecDepth 20000 in
set_option maxHeartbeats 2000000 in
theorem xnew4_any (a : Addr) (cap : Nat) (key : Nat → BitVec 8) (w : World) (hk : LieAt a 32 (yv key) w) (hcap : 32 ≤ cap) :
    Calls Tryz.prog 31 #[.slice (some a) 32 cap] w fun e w' => ∃ q c1 c2, e = .returned (.tuple #[.pointer (some ⟨q, 0, none⟩), .int .i64 0]) ∧ PairAt q c1 c2 10 (schedK 4 key) (schedK 4 fun j => key (16 + j)) w' ∧ Below w.heap.size w w' ∧ w.heap.size ≤ q ∧ w.heap.size ≤ c1 ∧ w.heap.size ≤ c2 := by
  have i1 : (16 : Int) ≤ (cap : Int) := by omega
  have i2 : ¬ cap = 16 := by omega
  have i3 : 16 ≤ cap := by omega
  obtain ⟨S1, hS1⟩ : ∃ S1, S1 = schedK 4 key := ⟨_, rfl⟩
  obtain ⟨S2, hS2⟩ : ∃ S2, S2 = schedK 4 (fun j => key (16 + j)) := ⟨_, rfl⟩
  obtain ⟨sa, hsa⟩ : ∃ sa : Addr, sa = a.add 16 := ⟨_, rfl⟩
  have hn1 : Calls Tryz.prog 58 #[.slice (some a) 16 cap] w fun e w' => e = .returned (.tuple #[.pointer (some ⟨w.heap.size, 0, none⟩), .int .i64 0]) ∧ CipherAt w.heap.size 10 S1 bxT ubT twT w' ∧ Below w.heap.size w w' := by
    rw [hS1]
    exact new4_any a cap key w ⟨fun j hj => hk.1 j (by omega), hk.2⟩ i3
  have hn2 : ∀ X, Ext w X → Calls Tryz.prog 58 #[.slice (some sa) 16 (cap - 16)] X fun e w' => e = .returned (.tuple #[.pointer (some ⟨X.heap.size, 0, none⟩), .int .i64 0]) ∧ CipherAt X.heap.size 10 S2 bxT ubT twT w' ∧ Below X.heap.size X w' := fun X hX => by
    rw [hS2]
    have h1 := hk.carry hX
    refine new4_any sa (cap - 16) (fun j => key (16 + j)) X ⟨fun j hj => ?_, by rw [hsa, add_block]; exact h1.2⟩ (by omega)
    rw [hsa, add_add', h1.1 (16 + j) (by omega)]
    rfl
  replace hn1 := hideit hn1
  replace hn2 := hideit hn2
  rw [← hS1, ← hS2]
  replace hS1 := hideit hS1
  replace hS2 := hideit hS2
  clear hk
  have hsa' : (⟨a.block, a.off + 16, none⟩ : Addr) = sa := by rw [hsa]; rfl
  clear hsa
  go_enter Tryz.func31, Tryz.ntmps31
  go_upto_region 3 with (go_at_call 58; refine hn1.out.mono ?_; rintro e w1 ⟨rfl, h1, h2⟩; have HC1 := hideit h1; have HX1 : Hid (Ext w w1) := hideit h2; clear h1 h2)
  have hn2' := hideit (hn2.out w1 HX1.out)
  go_upto_region 6 with (go_at_call 58; refine hn2'.out.mono ?_; rintro e w2 ⟨rfl, h1, h2⟩; have HC2 := hideit h1; have HX2 : Hid (Ext w1 w2) := hideit h2; clear h1 h2)
  have hsw := Below.size HX1.out
  have hsw2 := Below.size HX2.out
  clear hn1 hn2 hn2'
  obtain ⟨W, hW⟩ : ∃ W, W = w2.alloc (.cells #[.pointer (some ⟨w.heap.size, 0, none⟩), .pointer (some ⟨w1.heap.size, 0, none⟩)] 75) := ⟨_, rfl⟩
  have HEx : Ext w2 W := by rw [hW]; exact (Below.refl _ _).alloc (Nat.le_refl _) _
  have HP : PairAt w2.heap.size w.heap.size w1.heap.size 10 S1 S2 W := ⟨by rw [hW]; simp [go_sem], by rw [hW]; simp [go_sem], CipherAt.carry (CipherAt.carry HC1.out HX2.out) HEx, CipherAt.carry HC2.out HEx, by rw [hW]; simp⟩
  have HB : Ext w W := Ext.trans (Ext.trans HX1.out HX2.out) HEx
  replace HP := hideit HP
  replace HB := hideit HB
  replace hW := hideit hW
  clear HEx HC1 HC2 HX1 HX2
  go_wp2
  refine bodyPost_ret (results_tmp2 Tryz.results31 _ _ _) rfl ?_
  rw [← hW.out]
  exact ⟨_, _, _, rfl, HP.out, HB.out, by omega, by omega, by omega⟩
end Go.Proofs.YtfpfgbhdehbggaaGreatDoor
namespace Go.Proofs.YtfpfgbhdehbggaaGreatDoor
set_option maxRecDepth 20000
theorem mB_two : ∀ a : BitVec 8, mB a 2#8 = dX 27#8 a := by decide +kernel
theorem tw_d (a : BitVec 8) : twT a.toNat = dX 27#8 a := by
  unfold twT
  rw [BitVec.ofNat_toNat, BitVec.setWidth_eq, mB_two]
theorem xc (a b : BitVec 8) : a ^^^ (a ^^^ b) = b := by rw [← BitVec.xor_assoc, BitVec.xor_self, BitVec.zero_xor]
theorem xl (a b c : BitVec 8) : a ^^^ (b ^^^ c) = b ^^^ (a ^^^ c) := by rw [← BitVec.xor_assoc, BitVec.xor_comm a b, BitVec.xor_assoc]
def m0 (x y z w : BitVec 8) : BitVec 8 := y ^^^ (z ^^^ (w ^^^ (dX 27#8 x ^^^ dX 27#8 y)))
def p0A (x z : BitVec 8) : BitVec 8 := x ^^^ (dX 27#8 (dX 27#8 x) ^^^ dX 27#8 (dX 27#8 z))
set_option maxHeartbeats 2000000 in
theorem col1 (x y z w : BitVec 8) : m0 (p0A (m0 x y z w) (m0 z w x y)) (p0A (m0 y z w x) (m0 w x y z)) (p0A (m0 z w x y) (m0 x y z w)) (p0A (m0 w x y z) (m0 y z w x)) = x := by
  simp only [m0, p0A, dX_add]
  generalize dX 27#8 x = x1
  generalize dX 27#8 y = y1
  generalize dX 27#8 z = z1
  generalize dX 27#8 w = w1
  generalize dX 27#8 x1 = x2
  generalize dX 27#8 y1 = y2
  generalize dX 27#8 z1 = z2
  generalize dX 27#8 w1 = w2
  generalize dX 27#8 x2 = x3
  generalize dX 27#8 y2 = y3
  generalize dX 27#8 z2 = z3
  generalize dX 27#8 w2 = w3
  generalize dX 27#8 x3 = x4
  generalize dX 27#8 y3 = y4
  generalize dX 27#8 z3 = z4
  generalize dX 27#8 w3 = w4
  simp only [BitVec.xor_assoc, BitVec.xor_comm, xl, BitVec.xor_self, xc, BitVec.xor_zero]
def Eq16 (f g : Nat → BitVec 8) : Prop := ∀ j, j < 16 → f j = g j
theorem Eq16.trans {f g h : Nat → BitVec 8} (a : Eq16 f g) (b : Eq16 g h) : Eq16 f h := fun j hj => (a j hj).trans (b j hj)
theorem Eq16.symm {f g : Nat → BitVec 8} (a : Eq16 f g) : Eq16 g f := fun j hj => (a j hj).symm
theorem Eq16.rfl' (f : Nat → BitVec 8) : Eq16 f f := fun _ _ => rfl
theorem Eq16.row {f g : Nat → BitVec 8} (h : Eq16 f g) : row 16 (yv f) = row 16 (yv g) := row_ext fun j hj => by simp only [yv, h j hj]
theorem Eq16.add {f g h : Nat → BitVec 8} (a : Eq16 f g) : Eq16 (addF f h) (addF g h) := fun j hj => by simp only [addF, a j hj]
theorem Eq16.repl {t f g : Nat → BitVec 8} (a : Eq16 f g) : Eq16 (replF t f) (replF t g) := fun j hj => by simp only [replF, a j hj]
theorem Eq16.turn {m : Nat} {f g : Nat → BitVec 8} (a : Eq16 f g) : Eq16 (turnF m f) (turnF m g) := fun j hj => by
  unfold turnF
  exact a _ (Nat.mod_lt _ (by omega))
theorem Eq16.mix {t f g : Nat → BitVec 8} (a : Eq16 f g) : Eq16 (mixF t f) (mixF t g) := fun j hj => by
  unfold mixF allFA
  rw [a j hj, a (j / 4 * 4) (by omega), a (j / 4 * 4 + 1) (by omega), a (j / 4 * 4 + 2) (by omega), a (j / 4 * 4 + 3) (by omega), a (j / 4 * 4 + (j + 1) % 4) (by omega)]
theorem Eq16.pre {t f g : Nat → BitVec 8} (a : Eq16 f g) : Eq16 (preF t f) (preF t g) := fun j hj => by
  unfold preF
  rw [a j hj, a (j / 4 * 4 + j % 2) (by omega), a (j / 4 * 4 + (j % 2 + 2)) (by omega)]
theorem Eq16.unmix {t f g : Nat → BitVec 8} (a : Eq16 f g) : Eq16 (unmixF t f) (unmixF t g) := a.pre.mix
theorem turn_at31 : ∀ j, j < 16 → ((j + 4 * (j % 4) * 3) % 16 + 4 * ((j + 4 * (j % 4) * 3) % 16 % 4) * 1) % 16 = j := by decide
theorem turn31 (f : Nat → BitVec 8) : Eq16 (turnF 3 (turnF 1 f)) f := fun j hj => by
  unfold turnF
  rw [turn_at31 j hj]
theorem sub_ub (f : Nat → BitVec 8) : Eq16 (replF ubT (replF bxT f)) f := fun j _ => by
  unfold replF ubT bxT
  rw [BitVec.ofNat_toNat, BitVec.setWidth_eq, BitVec.ofNat_toNat, BitVec.setWidth_eq, unbox_box]
theorem add_addA (f k : Nat → BitVec 8) : Eq16 (addF (addF f k) k) f := fun j _ => by
  unfold addF xB
  exact xx _ _
def nx (k j : Nat) : Nat := j / 4 * 4 + (j + k) % 4
theorem mix_at (f : Nat → BitVec 8) (j : Nat) (hj : j < 16) : mixF twT f j = m0 (f j) (f (nx 1 j)) (f (nx 2 j)) (f (nx 3 j)) := by
  rcases (by omega : j = 0 ∨ j = 1 ∨ j = 2 ∨ j = 3 ∨ j = 4 ∨ j = 5 ∨ j = 6 ∨ j = 7 ∨ j = 8 ∨ j = 9 ∨ j = 10 ∨ j = 11 ∨ j = 12 ∨ j = 13 ∨ j = 14 ∨ j = 15) with rfl | rfl | rfl | rfl | rfl | rfl | rfl | rfl | rfl | rfl | rfl | rfl | rfl | rfl | rfl | rfl
  all_goals
    simp only [mixF, allFA, xB, tw_d, dX_add, m0, nx, Nat.reduceDiv, Nat.reduceMul, Nat.reduceMod, Nat.reduceAdd]
    simp only [BitVec.xor_assoc, BitVec.xor_comm, xl, xc]
theorem pre_at (f : Nat → BitVec 8) (j : Nat) (hj : j < 16) : preF twT f j = p0A (f j) (f (nx 2 j)) := by
  rcases (by omega : j = 0 ∨ j = 1 ∨ j = 2 ∨ j = 3 ∨ j = 4 ∨ j = 5 ∨ j = 6 ∨ j = 7 ∨ j = 8 ∨ j = 9 ∨ j = 10 ∨ j = 11 ∨ j = 12 ∨ j = 13 ∨ j = 14 ∨ j = 15) with rfl | rfl | rfl | rfl | rfl | rfl | rfl | rfl | rfl | rfl | rfl | rfl | rfl | rfl | rfl | rfl
  all_goals
    simp only [preF, xB, tw_d, dX_add, p0A, nx, Nat.reduceDiv, Nat.reduceMul, Nat.reduceMod, Nat.reduceAdd]
    try simp only [BitVec.xor_comm]
theorem nx_lt (k j : Nat) (hj : j < 16) : nx k j < 16 := by unfold nx; omega
theorem nx_nx : ∀ j, j < 16 → nx 1 (nx 1 j) = nx 2 j ∧ nx 1 (nx 2 j) = nx 3 j ∧ nx 1 (nx 3 j) = j ∧ nx 2 (nx 1 j) = nx 3 j ∧ nx 2 (nx 2 j) = j ∧ nx 2 (nx 3 j) = nx 1 j ∧ nx 3 (nx 1 j) = j ∧ nx 3 (nx 2 j) = nx 1 j ∧ nx 3 (nx 3 j) = nx 2 j := by decide
theorem unmix_mix (f : Nat → BitVec 8) : Eq16 (unmixF twT (mixF twT f)) f := fun j hj => by
  obtain ⟨a11, a12, a13, a21, a22, a23, a31, a32, a33⟩ := nx_nx j hj
  have l1 := nx_lt 1 j hj
  have l2 := nx_lt 2 j hj
  have l3 := nx_lt 3 j hj
  unfold unmixF
  rw [mix_at _ j hj, pre_at _ j hj, pre_at _ _ l1, pre_at _ _ l2, pre_at _ _ l3, a21, a22, a23, mix_at f j hj, mix_at f _ l1, mix_at f _ l2, mix_at f _ l3, a11, a12, a13, a21, a22, a23, a31, a32, a33]
  exact col1 _ _ _ _
theorem encK_s (K bx tw f : Nat → BitVec 8) (n : Nat) : encK K bx tw f (n + 1) = addF (mixF tw (turnF 1 (replF bx (encK K bx tw f n)))) (kF K (n + 1)) := rfl
theorem decK_s (K ub tw f : Nat → BitVec 8) (r m : Nat) : decK K ub tw r f (m + 1) = unmixF tw (addF (replF ub (turnF 3 (decK K ub tw r f m))) (kF K (r - 1 - m))) := rfl
theorem decK_z (K ub tw f : Nat → BitVec 8) (r : Nat) : decK K ub tw r f 0 = addF f (kF K r) := rfl
theorem dec_enc_state (K f : Nat → BitVec 8) (r : Nat) (hr : 1 ≤ r) : ∀ m, m ≤ r - 1 → Eq16 (decK K ubT twT r (encF K bxT twT r f) m) (turnF 1 (replF bxT (encK K bxT twT f (r - 1 - m))))
  | 0, _ => by
    rw [decK_z]
    unfold encF
    exact add_addA _ _
  | m + 1, hm => by
    have ih := dec_enc_state K f r hr m (by omega)
    obtain ⟨n, hn⟩ : ∃ n, r - 1 - m = n + 1 := ⟨r - 2 - m, by omega⟩
    have hn' : r - 1 - (m + 1) = n := by omega
    rw [hn] at ih
    rw [hn', decK_s, hn]
    have h1 : Eq16 (replF ubT (turnF 3 (decK K ubT twT r (encF K bxT twT r f) m))) (encK K bxT twT f (n + 1)) := (ih.turn.repl).trans (((turn31 _).repl).trans (sub_ub _))
    refine (h1.add.unmix).trans ?_
    have h2 : Eq16 (addF (encK K bxT twT f (n + 1)) (kF K (n + 1))) (mixF twT (turnF 1 (replF bxT (encK K bxT twT f n)))) := by
      rw [encK_s]
      exact add_addA _ _
    exact (h2.unmix).trans (unmix_mix _)
theorem dec_enc (K f : Nat → BitVec 8) (r : Nat) (hr : 1 ≤ r) : Eq16 (decF K ubT twT r (encF K bxT twT r f)) f := by
  have h := dec_enc_state K f r hr (r - 1) (Nat.le_refl _)
  rw [Nat.sub_self] at h
  unfold decF
  have h1 := (h.turn (m := 3)).repl (t := ubT)
  refine (h1.add).trans ?_
  have h2 : Eq16 (replF ubT (turnF 3 (turnF 1 (replF bxT (encK K bxT twT f 0))))) (addF f (kF K 0)) := ((turn31 _).repl).trans (sub_ub _)
  exact (h2.add).trans (add_addA _ _)
theorem encK_congr (K : Nat → BitVec 8) {f g : Nat → BitVec 8} (h : Eq16 f g) : ∀ n, Eq16 (encK K bxT twT f n) (encK K bxT twT g n)
  | 0 => h.add
  | n + 1 => by
    rw [encK_s, encK_s]
    exact (encK_congr K h n).repl.turn.mix.add
theorem encF_congr (K : Nat → BitVec 8) (r : Nat) {f g : Nat → BitVec 8} (h : Eq16 f g) : Eq16 (encF K bxT twT r f) (encF K bxT twT r g) := (encK_congr K h _).repl.turn.add
theorem decK_congr (K : Nat → BitVec 8) (r : Nat) {f g : Nat → BitVec 8} (h : Eq16 f g) : ∀ n, Eq16 (decK K ubT twT r f n) (decK K ubT twT r g n)
  | 0 => h.add
  | n + 1 => by
    rw [decK_s, decK_s]
    exact (decK_congr K r h n).turn.repl.add.unmix
theorem decF_congr (K : Nat → BitVec 8) (r : Nat) {f g : Nat → BitVec 8} (h : Eq16 f g) : Eq16 (decF K ubT twT r f) (decF K ubT twT r g) := (decK_congr K r h _).turn.repl.add
end Go.Proofs.YtfpfgbhdehbggaaGreatDoor
namespace Go.Proofs.YtfpfgbhdehbggaaGreatDoor
set_option maxRecDepth 20000
open Go.RowKit Go.BigFrame
def unitF (ch : BitVec 128 → (Nat → BitVec 8) → Nat → BitVec 8) (t t1 t2 : BitVec 128) (D : Nat → BitVec 8) (nb l : Nat) : Nat → BitVec 8 :=
  if l % 16 = 0 then fronts ch t D else stealF ch t1 t2 (fronts ch t D) D (16 * nb) (l % 16)
structure Undoes (chA chB : BitVec 128 → (Nat → BitVec 8) → Nat → BitVec 8) : Prop where
  back : ∀ t f, Eq16 (chB t (chA t f)) f
  congr : ∀ t f g, Eq16 f g → Eq16 (chB t f) (chB t g)
theorem unit_back {chA chB : BitVec 128 → (Nat → BitVec 8) → Nat → BitVec 8} (h : Undoes chA chB) (t t1 t2 : BitVec 128) (D : Nat → BitVec 8) (nb l : Nat) (hnb : (l % 16 = 0 ∧ l = 16 * nb) ∨ (l % 16 ≠ 0 ∧ l = 16 * nb + 16 + l % 16)) (j : Nat) (hj : j < l) :
    unitF chB t t2 t1 (unitF chA t t1 t2 D nb l) nb l j = D j := by
  have hfr : ∀ C : Nat → BitVec 8, (∀ i, i < 16 * nb → C i = fronts chA t D i) → ∀ j, j < 16 * nb → fronts chB t C j = D j := by
    intro C hC j hj
    unfold fronts
    have e : Eq16 (fun i => C (16 * (j / 16) + i)) (chA (dK 135#128 (j / 16) t) (fun i => D (16 * (j / 16) + i))) := fun i hi => by
      show C (16 * (j / 16) + i) = _
      rw [hC _ (by omega)]
      unfold fronts
      rw [show (16 * (j / 16) + i) / 16 = j / 16 by omega, show (16 * (j / 16) + i) % 16 = i by omega]
    have h2 := (h.congr (dK 135#128 (j / 16) t) _ _ e).trans (h.back _ _)
    rw [h2 (j % 16) (by omega)]
    show D (16 * (j / 16) + j % 16) = D j
    rw [show 16 * (j / 16) + j % 16 = j by omega]
  rcases hnb with ⟨hm, hl⟩ | ⟨hm, hl⟩
  · unfold unitF
    rw [if_pos hm, if_pos hm]
    exact hfr _ (fun _ _ => rfl) j (by omega)
  · obtain ⟨s, hs⟩ : ∃ s, s = l % 16 := ⟨_, rfl⟩
    have hs1 : s < 16 := by omega
    unfold unitF
    rw [if_neg hm, if_neg hm, ← hs]
    rw [← hs] at hl
    obtain ⟨m, hmm⟩ : ∃ m, m = 16 * nb := ⟨_, rfl⟩
    rw [← hmm] at hl hfr ⊢
    obtain ⟨L, hL⟩ : ∃ L, L = lendF chA t1 D m := ⟨_, rfl⟩
    obtain ⟨C, hC⟩ : ∃ C, C = stealF chA t1 t2 (fronts chA t D) D m s := ⟨_, rfl⟩
    rw [← hC]
    have c1 : ∀ i, i < m → C i = fronts chA t D i := fun i hi => by rw [hC]; unfold stealF; rw [if_pos hi]
    have c2 : ∀ i, i < 16 → C (m + i) = chA t2 (fillFA L D m s) i := fun i hi => by rw [hC, hL]; unfold stealF; rw [if_neg (by omega), if_pos (by omega), Nat.add_sub_cancel_left]
    have c3 : ∀ i, C (m + 16 + i) = L i := fun i => by rw [hC, hL]; unfold stealF; rw [if_neg (by omega), if_neg (by omega), Nat.add_sub_cancel_left]
    have d1 : Eq16 (lendF chB t2 C m) (fillFA L D m s) := by
      unfold lendF
      exact (h.congr t2 _ _ (fun i hi => c2 i hi)).trans (h.back _ _)
    have d2 : Eq16 (fillFA (lendF chB t2 C m) C m s) L := fun i hi => by
      show (if i < s then C (m + 16 + i) else lendF chB t2 C m i) = L i
      by_cases h1 : i < s
      · rw [if_pos h1, c3]
      · rw [if_neg h1, d1 i hi]
        unfold fillFA
        rw [if_neg h1]
    have d3 : Eq16 (chB t1 (fillFA (lendF chB t2 C m) C m s)) (fun i => D (m + i)) := by
      refine (h.congr t1 _ _ d2).trans ?_
      rw [hL]
      exact h.back _ _
    show (if j < m then fronts chB t C j else if j < m + 16 then chB t1 (fillFA (lendF chB t2 C m) C m s) (j - m) else lendF chB t2 C m (j - (m + 16))) = D j
    by_cases h1 : j < m
    · rw [if_pos h1]
      exact hfr C c1 j h1
    · rw [if_neg h1]
      by_cases h2 : j < m + 16
      · rw [if_pos h2, d3 (j - m) (by omega)]
        show D (m + (j - m)) = D j
        rw [show m + (j - m) = j by omega]
      · rw [if_neg h2, d1 _ (by omega)]
        unfold fillFA
        rw [if_pos (by omega), show m + 16 + (j - (m + 16)) = j by omega]
theorem unitF_congr (ch : BitVec 128 → (Nat → BitVec 8) → Nat → BitVec 8) (hc : ∀ t f g, Eq16 f g → Eq16 (ch t f) (ch t g)) (t t1 t2 : BitVec 128) (D D' : Nat → BitVec 8) (nb l : Nat) (hnb : (l % 16 = 0 ∧ l = 16 * nb) ∨ (l % 16 ≠ 0 ∧ l = 16 * nb + 16 + l % 16)) (hD : ∀ j, j < l → D j = D' j) (j : Nat) (hj : j < l) :
    unitF ch t t1 t2 D nb l j = unitF ch t t1 t2 D' nb l j := by
  have hfr : ∀ j, j < 16 * nb → fronts ch t D j = fronts ch t D' j := fun j hj => by
    unfold fronts
    exact hc _ _ _ (fun i hi => hD _ (by omega)) (j % 16) (by omega)
  unfold unitF
  rcases hnb with ⟨hm, hl⟩ | ⟨hm, hl⟩
  · rw [if_pos hm, if_pos hm]
    exact hfr j (by omega)
  · rw [if_neg hm, if_neg hm]
    obtain ⟨s, hs⟩ : ∃ s, s = l % 16 := ⟨_, rfl⟩
    rw [← hs] at hl ⊢
    have hs1 : s < 16 := by omega
    have l1 : Eq16 (lendF ch t1 D (16 * nb)) (lendF ch t1 D' (16 * nb)) := hc _ _ _ (fun i hi => hD _ (by omega))
    unfold stealF
    by_cases h1 : j < 16 * nb
    · rw [if_pos h1, if_pos h1]; exact hfr j h1
    · rw [if_neg h1, if_neg h1]
      by_cases h2 : j < 16 * nb + 16
      · rw [if_pos h2, if_pos h2]
        refine hc _ _ _ (fun i hi => ?_) _ (by omega)
        unfold fillFA
        by_cases h3 : i < s
        · rw [if_pos h3, if_pos h3]; exact hD _ (by omega)
        · rw [if_neg h3, if_neg h3]; exact l1 i hi
      · rw [if_neg h2, if_neg h2]
        exact l1 _ (by omega)
theorem addF_twice (f m : Nat → BitVec 8) : addF (addF f m) m = f := by
  funext j
  show xB (xB (f j) (m j)) (m j) = f j
  show (f j ^^^ m j) ^^^ m j = f j
  rw [BitVec.xor_assoc, BitVec.xor_self, BitVec.xor_zero]
theorem addF_congr {f g : Nat → BitVec 8} (m : Nat → BitVec 8) (h : Eq16 f g) : Eq16 (addF f m) (addF g m) := fun j hj => by
  show xB (f j) (m j) = xB (g j) (m j)
  rw [h j hj]
theorem undoes_enc (S : Nat → BitVec 8) (r : Nat) (hr : 1 ≤ r) : Undoes (chF (encF S bxT twT r)) (chF (decF S ubT twT r)) :=
  ⟨fun t f => by
    unfold chF
    rw [addF_twice]
    have h1 := addF_congr (byBA t) (dec_enc S (addF f (byBA t)) r hr)
    rwa [addF_twice] at h1, fun t f g h => by
    unfold chF
    exact addF_congr _ (decF_congr S r (addF_congr _ h))⟩
def nbOf (l : Nat) : Nat := if l % 16 = 0 then l / 16 else l / 16 - 1
theorem nbOf_spec (l : Nat) (hl : 16 ≤ l) : (l % 16 = 0 ∧ l = 16 * nbOf l) ∨ (l % 16 ≠ 0 ∧ l = 16 * nbOf l + 16 + l % 16) := by
  unfold nbOf
  by_cases h : l % 16 = 0
  · rw [if_pos h]; exact .inl ⟨h, by omega⟩
  · rw [if_neg h]; exact .inr ⟨h, by omega⟩
def xE (S1 S2 : Nat → BitVec 8) (r : Nat) (u : BitVec 64) (D : Nat → BitVec 8) (l : Nat) : Nat → BitVec 8 := xencF (chF (encF S1 bxT twT r)) (tw0 S2 r u) D (nbOf l) l
def xD (S1 S2 : Nat → BitVec 8) (r : Nat) (u : BitVec 64) (D : Nat → BitVec 8) (l : Nat) : Nat → BitVec 8 := xdecF (chF (decF S1 ubT twT r)) (tw0 S2 r u) D (nbOf l) l
theorem xE_unit (S1 S2 : Nat → BitVec 8) (r : Nat) (u : BitVec 64) (D : Nat → BitVec 8) (l : Nat) : xE S1 S2 r u D l = unitF (chF (encF S1 bxT twT r)) (tw0 S2 r u) (dK 135#128 (nbOf l) (tw0 S2 r u)) (dX 135#128 (dK 135#128 (nbOf l) (tw0 S2 r u))) D (nbOf l) l := rfl
theorem xD_unit (S1 S2 : Nat → BitVec 8) (r : Nat) (u : BitVec 64) (D : Nat → BitVec 8) (l : Nat) : xD S1 S2 r u D l = unitF (chF (decF S1 ubT twT r)) (tw0 S2 r u) (dX 135#128 (dK 135#128 (nbOf l) (tw0 S2 r u))) (dK 135#128 (nbOf l) (tw0 S2 r u)) D (nbOf l) l := rfl
theorem xD_xE (S1 S2 : Nat → BitVec 8) (r : Nat) (hr : 1 ≤ r) (u : BitVec 64) (D : Nat → BitVec 8) (l : Nat) (hl : 16 ≤ l) (j : Nat) (hj : j < l) : xD S1 S2 r u (xE S1 S2 r u D l) l j = D j := by
  rw [xD_unit, xE_unit]
  exact unit_back (undoes_enc S1 r hr) _ _ _ D _ l (nbOf_spec l hl) j hj
theorem xencV (q c1 c2 r l : Nat) (S1 S2 : Nat → BitVec 8) (hr : 1 ≤ r) (hr2 : r ≤ 14) (u : BitVec 64) (v : Value) (D : Nat → BitVec 8) (w : World) (hP : PairAt q c1 c2 r S1 S2 w) (hl1 : 16 ≤ l) (hl2 : l ≤ 65536) (hD : BV v l D w) :
    Calls Tryz.prog 15 #[.pointer (some ⟨q, 0, none⟩), .int .u64 (u.toNat : Int), v] w fun e w' => ∃ v', e = .returned (.tuple #[v', .int .i64 0]) ∧ OwnB w.heap.size 5 v' l (yv (xE S1 S2 r u D l)) w' ∧ Ext w w' := by
  rcases hD with ⟨_, h⟩ | ⟨a, cap, rfl, h2, h3⟩
  · omega
  · exact xenc_any q c1 c2 r l cap (nbOf l) S1 S2 hr hr2 u a D w hP hl1 hl2 h2 h3 (nbOf_spec l hl1)
theorem xdecV (q c1 c2 r l : Nat) (S1 S2 : Nat → BitVec 8) (hr : 1 ≤ r) (hr2 : r ≤ 14) (u : BitVec 64) (v : Value) (D : Nat → BitVec 8) (w : World) (hP : PairAt q c1 c2 r S1 S2 w) (hl1 : 16 ≤ l) (hl2 : l ≤ 65536) (hD : BV v l D w) :
    Calls Tryz.prog 25 #[.pointer (some ⟨q, 0, none⟩), .int .u64 (u.toNat : Int), v] w fun e w' => ∃ v', e = .returned (.tuple #[v', .int .i64 0]) ∧ OwnB w.heap.size 5 v' l (yv (xD S1 S2 r u D l)) w' ∧ Ext w w' := by
  rcases hD with ⟨_, h⟩ | ⟨a, cap, rfl, h2, h3⟩
  · omega
  · exact xdec_any q c1 c2 r l cap (nbOf l) S1 S2 hr hr2 u a D w hP hl1 hl2 h2 h3 (nbOf_spec l hl1)
end Go.Proofs.YtfpfgbhdehbggaaGreatDoor
