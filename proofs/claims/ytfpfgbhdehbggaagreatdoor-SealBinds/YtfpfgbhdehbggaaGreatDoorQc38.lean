/-
  The document's own Decrypt. The program's enciphering and the document's are the same, block by block. What the document's Of and Bytes answer: for every sixteen bytes, for every tweak, in every world, of which nothing that was there turns.
-/
import Derived.Test.YtfpfgbhdehbggaaGreatDoorQc36
import Derived.Test.YtfpfgbhdehbggaaGreatDoorQc26
import Derived.Test.YtfpfgbhdehbggaaGreatDoorQc34
import Derived.Test.YtfpfgbhdehbggaaGreatDoorQc19
namespace Go.Proofs.YtfpfgbhdehbggaaGreatDoor
set_option maxRecDepth 20000
open Go.RowKit Go.BigFrame
end Go.Proofs.YtfpfgbhdehbggaaGreatDoor
namespace Go.Proofs.YtfpfgbhdehbggaaGreatDoor
set_option maxRecDepth 20000
theorem mB1 : ∀ x : BitVec 8, mB 1#8 x = x := by decide +kernel
theorem mB2 : ∀ x : BitVec 8, mB 2#8 x = dX 27#8 x := by decide +kernel
theorem mB3 : ∀ x : BitVec 8, mB 3#8 x = dX 27#8 x ^^^ x := by decide +kernel
theorem rmix_at (a b c d : BitVec 8) (f : Nat → BitVec 8) (j : Nat) (hj : j < 16) : rmixF (fac a b c d) f j = mB a (f j) ^^^ (mB b (f (nx 1 j)) ^^^ (mB c (f (nx 2 j)) ^^^ mB d (f (nx 3 j)))) := by
  rcases (by omega : j = 0 ∨ j = 1 ∨ j = 2 ∨ j = 3 ∨ j = 4 ∨ j = 5 ∨ j = 6 ∨ j = 7 ∨ j = 8 ∨ j = 9 ∨ j = 10 ∨ j = 11 ∨ j = 12 ∨ j = 13 ∨ j = 14 ∨ j = 15) with rfl | rfl | rfl | rfl | rfl | rfl | rfl | rfl | rfl | rfl | rfl | rfl | rfl | rfl | rfl | rfl
  all_goals
    simp only [rmixF, rmixP, xB, fac, nx, Nat.reduceDiv, Nat.reduceMul, Nat.reduceMod, Nat.reduceAdd, Nat.reduceSub, Nat.reduceEqDiff, if_true, if_false, BitVec.zero_xor, Nat.add_zero, Nat.zero_add]
    try simp only [BitVec.xor_assoc, BitVec.xor_comm, xl]
theorem rmix_mix (f : Nat → BitVec 8) : Eq16 (rmixF (fac 2#8 3#8 1#8 1#8) f) (mixF twT f) := fun j hj => by
  rw [rmix_at _ _ _ _ f j hj, mix_at f j hj, mB2, mB3, mB1, mB1]
  unfold m0
  simp only [BitVec.xor_assoc, BitVec.xor_comm, xl]
theorem rencK_s (N : Nat) (K bx f : Nat → BitVec 8) (n : Nat) : rencK N K bx f (n + 1) = addF (rencM N (n + 1) (turnF 1 (replF bx (rencK N K bx f n)))) (kF K (n + 1)) := rfl
theorem renc_state (K f : Nat → BitVec 8) (r : Nat) : ∀ n, n ≤ r - 1 → Eq16 (rencK (r + 1) K bxT f n) (encK K bxT twT f n)
  | 0, _ => Eq16.rfl' _
  | n + 1, hn => by
    rw [rencK_s, encK_s]
    have hm : rencM (r + 1) (n + 1) (turnF 1 (replF bxT (rencK (r + 1) K bxT f n))) = rmixF (fac 2#8 3#8 1#8 1#8) (turnF 1 (replF bxT (rencK (r + 1) K bxT f n))) := by unfold rencM; rw [if_pos (by omega)]
    rw [hm]
    exact ((rmix_mix _).trans (renc_state K f r n (by omega)).repl.turn.mix).add
theorem renc_enc (K f : Nat → BitVec 8) (r : Nat) (hr : 1 ≤ r) : Eq16 (rencK (r + 1) K bxT f (r + 1 - 1)) (encF K bxT twT r f) := by
  obtain ⟨n, rfl⟩ : ∃ n, r = n + 1 := ⟨r - 1, by omega⟩
  rw [Nat.add_sub_cancel, rencK_s]
  have hm : rencM (n + 1 + 1) (n + 1) (turnF 1 (replF bxT (rencK (n + 1 + 1) K bxT f n))) = turnF 1 (replF bxT (rencK (n + 1 + 1) K bxT f n)) := by unfold rencM; rw [if_neg (by omega)]
  rw [hm]
  unfold encF
  rw [Nat.add_sub_cancel]
  exact (renc_state K f (n + 1) n (by omega)).repl.turn.add
end Go.Proofs.YtfpfgbhdehbggaaGreatDoor
namespace Go.Proofs.YtfpfgbhdehbggaaGreatDoor
set_option maxRecDepth 20000
open Go.RowKit
def yb (f : Nat → BitVec 8) (j : Nat) : Bool := (f (j / 8)).getLsbD (j % 8)
theorem yb_fact (f : Nat → BitVec 8) (k : Nat) : ((((f (k / 8)).toNat : Int) / 2 ^ (k % 8)).tmod 2 == 1) = yb f k := tmod_bit _ _
theorem fb_yb (f : Nat → BitVec 8) : fb (yb f) = ofB f := fb_eq fun j hj => by
  unfold tb; rw [ofB_bit f j hj]; rfl
def ROfAt (B : Nat) (w : World) (f : Nat → BitVec 8) (k : Nat) (wr : World) : Prop :=
  RowAt B 16 (yv f) wr ∧ HalfAt (B + 1) 0#128 wr ∧ RowAt (B + 1 + 1) 128 (bv fun j => decide (j < k) && yb f j) wr ∧ Below B w wr
theorem ROfAt.step {B : Nat} {w wr : World} {f : Nat → BitVec 8} {k : Nat} (h : ROfAt B w f k wr) : ROfAt B w f (k + 1) (wr.setCell ⟨B + 1 + 1, k, none⟩ (.bool (yb f k))) := by
  obtain ⟨h1, h2, h3, h4⟩ := h
  refine ⟨h1.other _ _ (by simp; omega), h2.other _ _ (by omega), (h3.set k _).congr ?_, h4.setCell (by simp; omega) _⟩
  intro j hj
  by_cases e : j = k
  · subst e; simp [bv]
  · have : decide (j < k + 1) = decide (j < k) := by rw [decide_eq_decide]; omega
    simp [bv, e, this]
set_option maxRecDepth 100000 in
theorem rOfB_any (f : Nat → BitVec 8) (w : World) :
    Calls Tryz.prog 92 #[.agg (row 16 (yv f)).toArray] w fun e w' => e = .returned (.agg #[.int .u64 ((lo (ofB f)).toNat : Int), .int .u64 ((hi (ofB f)).toNat : Int)]) ∧ Below w.heap.size w w' := by
  have hz := zero42A
  go_enter Tryz.func92, Tryz.ntmps92
  go_wp2
  go_loopw [4] (fun i wr => ∃ k : Nat, k ≤ 128 ∧ i = .int .i64 k ∧ ROfAt w.heap.size w f k wr) (fun i _ => 128 - (intOf i).toNat)
  case atStart =>
    refine ⟨0, by omega, rfl, ?_, ⟨?_, ?_, ?_, ?_⟩, ?_, ?_⟩
    case refine_1 => exact ((RowAt.new w 16 (yv f) 52).alloc _).alloc _
    case refine_6 =>
      have := RowAt.newOf ((w.alloc (Obj.cells (row 16 (yv f)).toArray 52)).alloc (Obj.cells #[Value.int IntKind.u64 0, Value.int IntKind.u64 0] 77)) 128 (bv fun j => decide (j < 0) && yb f j) 158 Z128 (fun j hj => Z128_get j hj _ (by simp))
      simpa using this
    case refine_7 => exact (((Below.refl _ _).alloc (Nat.le_refl _) _).alloc (by simp) _).alloc (by simp; omega) _
    all_goals simp [go_sem, lo, hi]
  case round =>
    obtain ⟨k, hk, rfl, hT⟩ := hrel
    by_cases hlt : k < 128
    · have HT := hideit hT
      obtain ⟨hR, _, hX, _⟩ := hT
      have e1 := hR.1 (k / 8) (by omega)
      have e2 := hX.1 k (by omega)
      have g2 := hX.2.1 k (by omega)
      simp only [yv] at e1
      clear hR hX
      have b1 := (f (k / 8)).isLt
      have t1 := yb_fact f k
      go_wp2
      go_roundw
      case rel =>
        first | exact ⟨(k + 1 : Nat), by omega, by go_num, HT.out.step⟩ | ((repeat apply Exists.intro); exact ⟨⟨k + 1, by omega, by go_num, HT.out.step⟩, rfl⟩)
      case measure => simp [intOf]; omega
    · obtain rfl : k = 128 := by omega
      obtain ⟨_, hH, hX, hB⟩ := hT
      have HX := hideit (hX.congr (g' := bv (yb f)) (fun j hj => by simp [bv, hj]))
      have hBs : w.heap.size + 1 < wr.heap.size := by have := hX.2.2; omega
      have HH := hideit hH
      have HB := hideit hB
      clear hX hH hB
      go_wp2_with (first | (refine wpList_load_mid rfl 158 (.tmp 3) rfl _ 0 rfl (row 128 (bv (yb f))) _ HX.out.range Tryz.underlying158 rfl (by rw [row_length]; exact info42A) ?_))
      go_wp2_with fail
      refine (frombits_any (yb f) _).mono ?_
      rintro e w2 ⟨rfl, hb2⟩
      rw [fb_yb]
      have hH2 := HH.out.carry hb2 hBs
      have HBB := hideit (HB.out.trans (hb2.mono (by omega)))
      clear hb2
      obtain ⟨c5, c6, f5, f6⟩ := hH2
      go_wp2
      refine bodyPost_ret (v := .agg #[.int .u64 ((lo (ofB f)).toNat : Int), .int .u64 ((hi (ofB f)).toNat : Int)]) (by simp [results, Tryz.results92, go_sem, c5, c6]) rfl ⟨rfl, ?_⟩
      exact (HBB.out.setCell (by simp) _).setCell (by simp) _
def acB (x : BitVec 128) : Nat → Nat → BitVec 8
  | 0, _ => 0#8
  | k + 1, j => if tb x k = true ∧ j = k / 8 then acB x k j ||| BitVec.twoPow 8 (k % 8) else acB x k j
theorem acB_bit (x : BitVec 128) (k : Nat) (j i : Nat) (hi : i < 8) : (acB x k j).getLsbD i = (decide (8 * j + i < k) && tb x (8 * j + i)) := by
  induction k with
  | zero => simp [acB]
  | succ k ih =>
    simp only [acB]
    split
    · rename_i h
      obtain ⟨h1, h2⟩ := h
      rw [BitVec.getLsbD_or, ih, BitVec.getLsbD_twoPow]
      by_cases e : 8 * j + i = k
      · have e1 : k % 8 = i := by omega
        rw [e, h1, e1]; simp [hi]
      · have e1 : ¬ k % 8 = i := by omega
        have e2 : decide (8 * j + i < k + 1) = decide (8 * j + i < k) := by rw [decide_eq_decide]; omega
        rw [e2]; simp [e1]
    · rename_i h
      rw [ih]
      by_cases e : 8 * j + i = k
      · have h1 : tb x k = false := by
          cases hh : tb x k with
          | false => rfl
          | true => exact absurd ⟨hh, by omega⟩ h
        rw [e, h1]; simp
      · have e2 : decide (8 * j + i < k + 1) = decide (8 * j + i < k) := by rw [decide_eq_decide]; omega
        rw [e2]
theorem acB_last (x : BitVec 128) (j : Nat) (hj : j < 16) : acB x 128 j = byBA x j := by
  apply BitVec.eq_of_getLsbD_eq
  intro i hi
  rw [acB_bit x 128 j i hi, byB_bit x j i hi]
  have : 8 * j + i < 128 := by omega
  simp [this, tb]
theorem or8 (x : BitVec 8) (k : Nat) (hk : k < 8) : bits .or .u8 (x.toNat : Int) (2 ^ k % 256) = ((x ||| BitVec.twoPow 8 k).toNat : Int) := by
  have h : ∀ k < 8, ∀ x : BitVec 8, bits .or .u8 (x.toNat : Int) (2 ^ k % 256) = ((x ||| BitVec.twoPow 8 k).toNat : Int) := by decide +kernel
  exact h k hk x
def RByAt (B m : Nat) (w : World) (x : BitVec 128) (k : Nat) (wr : World) : Prop :=
  RowAt (B + 1) 16 (yv fun _ => 0#8) wr ∧ RowAt (B + 1 + 1) 16 (yv (acB x k)) wr ∧ RowAt m 128 (bv (tb x)) wr ∧ Below B w wr ∧ B + 3 ≤ m
theorem RByAt.step1 {B m : Nat} {w wr : World} {x : BitVec 128} {k : Nat} (h : RByAt B m w x k wr) :
    RByAt B m w x (k + 1) (wr.setCell ⟨B + 1 + 1, k / 8, none⟩ (.int .u8 ((acB x (k + 1) (k / 8)).toNat : Int))) := by
  obtain ⟨h1, h2, h3, h4, h5⟩ := h
  refine ⟨h1.other _ _ (by simp), (h2.set (k / 8) _).congr ?_, h3.other _ _ (by simp; omega), h4.setCell (by simp; omega) _, h5⟩
  intro j hj
  by_cases e : j = k / 8
  · subst e; simp [yv]
  · simp [yv, e, acB]
theorem RByAt.step0 {B m : Nat} {w wr : World} {x : BitVec 128} {k : Nat} (h : RByAt B m w x k wr) (hb : tb x k = false) : RByAt B m w x (k + 1) wr := by
  obtain ⟨h1, h2, h3, h4, h5⟩ := h
  exact ⟨h1, h2.congr (fun j _ => by simp [yv, acB, hb]), h3, h4, h5⟩
theorem RByAt.drew {B m : Nat} {w wr : World} {x : BitVec 128} {k : Nat} (h : RByAt B m w x k wr) : RByAt B m w x k wr.drew := ⟨h.1, h.2.1, h.2.2.1, h.2.2.2.1.drew, h.2.2.2.2⟩
set_option maxRecDepth 100000 in
set_option maxHeartbeats 1000000 in
theorem rbytes_any (x : BitVec 128) (w : World) :
    Calls Tryz.prog 94 #[.agg #[.int .u64 ((lo x).toNat : Int), .int .u64 ((hi x).toNat : Int)]] w fun e w' => e = .returned (.agg (row 16 (yv (byBA x))).toArray) ∧ Below w.heap.size w w' := by
  have hz := zero42A
  have hz2 := zero32
  go_enter Tryz.func94, Tryz.ntmps94
  go_wp2_with fail
  refine (bits_any x _).mono ?_
  rintro e w1 ⟨rfl, hb⟩
  have hR := RowAt.newOf w1 128 (bv fun _ => false) 158 Z128 (fun j hj => Z128_get j hj _ rfl)
  have hst := run_storeRow (P := Tryz.prog) hR (bv (tb x)) (fun _ _ => rfl)
  have hlen := row_length 128 (bv (tb x))
  have HR := hideit hR
  have HB := hideit hb
  clear hR hb
  go_wp2
  clear hst hlen
  go_loopw [5] (fun i wr => ∃ k : Nat, k ≤ 128 ∧ i = .int .i64 k ∧ RByAt w.heap.size w1.heap.size w x k wr) (fun i _ => 128 - (intOf i).toNat)
  case atStart =>
    have hs := HB.out.size
    simp at hs
    have hX : Below w1.heap.size w1 ((w1.alloc (Obj.cells Z128 158)).setCells w1.heap.size 0 (row 128 (bv (tb x)))) := below_setCells _ (Nat.le_refl _) _ _ _ ((Below.refl _ _).alloc (Nat.le_refl _) _)
    refine ⟨0, by omega, rfl, ?_, ?_, ?_, ?_, by omega⟩
    · refine RowAt.carry (X := w1) (RowAt.carry ?_ HB.out) hX
      have := RowAt.newOf (w.alloc (Obj.cells #[Value.int IntKind.u64 ↑(lo x).toNat, Value.int IntKind.u64 ↑(hi x).toNat] 77)) 16 (yv fun _ => 0#8) 52 Y16 (fun j hj => Y16_get j hj _ rfl)
      simpa using this.alloc (Obj.cells Y16 52)
    · refine RowAt.carry (X := w1) (RowAt.carry ?_ HB.out) hX
      have := RowAt.newOf ((w.alloc (Obj.cells #[Value.int IntKind.u64 ↑(lo x).toNat, Value.int IntKind.u64 ↑(hi x).toNat] 77)).alloc (Obj.cells Y16 52)) 16 (yv (acB x 0)) 52 Y16 (fun j hj => Y16_get j hj _ rfl)
      simpa using this
    · exact HR.out.cells (g' := bv (tb x))
    · refine below_setCells _ (by omega) _ _ _ (Below.alloc ?_ (by omega) _)
      exact ((((Below.refl _ _).alloc (Nat.le_refl _) _).alloc (by simp) _).alloc (by simp; omega) _).trans (HB.out.mono (by simp; omega))
  case round =>
    obtain ⟨k, hk, rfl, hT⟩ := hrel
    by_cases hlt : k < 128
    · have HT := hideit hT
      obtain ⟨_, hY, hX, _, _⟩ := hT
      have e1 := hX.1 k (by omega)
      have e2 := hY.1 (k / 8) (by omega)
      have g2 := hY.2.1 (k / 8) (by omega)
      simp only [yv] at e2
      simp only [bv] at e1
      clear hX hY
      have b1 := (acB x k (k / 8)).isLt
      rcases h1 : tb x k with _ | _
      · rw [h1] at e1
        have H1 := hideit h1
        clear h1
        go_wp2
        go_roundw
        case rel =>
          first | exact ⟨(k + 1 : Nat), by omega, by go_num, HT.out.step0 H1.out⟩ | ((repeat apply Exists.intro); exact ⟨⟨k + 1, by omega, by go_num, HT.out.step0 H1.out⟩, rfl⟩)
        case measure => simp [intOf]; omega
      · rw [h1] at e1
        have o1 : bits .or .u8 ((acB x k (k / 8)).toNat : Int) (2 ^ (k % 8) % 256) = ((acB x (k + 1) (k / 8)).toNat : Int) := by
          rw [or8 _ _ (by omega)]; simp [acB, h1]
        clear h1
        have i0 : (0 : Int) ≤ (k : Int) / 8 := by omega
        have i1 : (k : Int) / 8 < 16 := by omega
        have i2 : (0 : Int) ≤ (k : Int) % 8 := by omega
        go_wp2
        go_region
        all_goals (try go_wp2)
        go_roundw
        case rel =>
          first | exact ⟨(k + 1 : Nat), by omega, by go_num, HT.out.step1.drew⟩ | ((repeat apply Exists.intro); exact ⟨⟨k + 1, by omega, by go_num, HT.out.step1.drew⟩, rfl⟩)
        case measure => simp [intOf]; omega
    · obtain rfl : k = 128 := by omega
      obtain ⟨hR0, hR, _, hB, _⟩ := hT
      have HR := hideit (hR.congr (g' := yv (byBA x)) (fun j hj => by simp only [yv]; rw [acB_last x j hj]))
      have HR0 := hideit hR0
      clear hR hR0
      go_wp2_with (first | (refine wpList_load_mid rfl 52 (.tmp 3) rfl _ 0 rfl (row 16 (yv (byBA x))) _ HR.out.range Tryz.underlying52 rfl (by rw [row_length]; exact info32) ?_) | (refine wpList_store_mid rfl 52 (.tmp 2) (.tmp 26) rfl _ 0 (row 16 (yv (byBA x))).toArray rfl rfl (by rw [row_size]; exact HR0.out.there) (by rw [row_size]; exact info32) (row_one fun _ _ => rfl) ?_))
      refine bodyPost_ret (v := .agg (row 16 (yv (byBA x))).toArray) ?_ rfl ⟨rfl, below_setCells _ (by omega) _ _ _ hB⟩
      have hl := run_loadVar_mid (P := Tryz.prog) (wr.setCells (w.heap.size + 1) 0 (row 16 (yv (byBA x)))) (w.heap.size + 1) 0 52 (row 16 (yv (byBA x))) _ (HR0.out.cells (g' := yv (byBA x))).range Tryz.underlying52 rfl (by rw [row_length]; exact info32)
      simp [results, Tryz.results94, Act.put, asAddr, hl]
end Go.Proofs.YtfpfgbhdehbggaaGreatDoor
