/-
  What the document's Double answers: for every tweak, in every world, of which nothing that was there turns: what the program's Double answers.
-/
import Derived.Test.YtofecnieicnfgaaBits
import Derived.Deep.CutRange
namespace Go.Proofs.Ytofecnieicnfgaa
open Go.RowKit
/-- doubled, bit by bit, as far as place k -/
def shB (x : BitVec 128) (k j : Nat) : Bool := decide (1 ≤ j ∧ j ≤ k) && tb x (j - 1)
def flip (f : Nat → Bool) (i j : Nat) : Bool := if j = i then !f i else f j
theorem shB_step (x : BitVec 128) (k : Nat) : ∀ j, (if j = k + 1 then Value.bool (tb x k) else bv (shB x k) j) = bv (shB x (k + 1)) j := by
  intro j
  by_cases e : j = k + 1
  · subst e; simp [bv, shB]
  · have : decide (1 ≤ j ∧ j ≤ k + 1) = decide (1 ≤ j ∧ j ≤ k) := by rw [decide_eq_decide]; omega
    simp [bv, shB, e, this]
theorem flip_set (f : Nat → Bool) (i : Nat) (v : Bool) (hv : v = !f i) : ∀ j, (if j = i then Value.bool v else bv f j) = bv (flip f i) j := by
  intro j
  by_cases e : j = i
  · subst e; simp [bv, flip, hv]
  · simp [bv, flip, e]
theorem dX_tb (x : BitVec 128) (j : Nat) (hj : j < 128) : tb (dX 135#128 x) j = xor (shB x 127 j) (tb x 127 && decide (j = 0 ∨ j = 1 ∨ j = 2 ∨ j = 7)) := by
  unfold dX tb shB
  rw [BitVec.getLsbD_xor, BitVec.getLsbD_shiftLeft, BitVec.msb_eq_getLsbD_last]
  have e1 : (decide (j < 128) && !decide (j < 1) && x.getLsbD (j - 1)) = (decide (1 ≤ j ∧ j ≤ 127) && tb x (j - 1)) := by
    by_cases h : j = 0
    · subst h; simp
    · have h1 : decide (j < 128) = true := by simp; omega
      have h2 : decide (j < 1) = false := by simp; omega
      have h3 : decide (1 ≤ j ∧ j ≤ 127) = true := by simp; omega
      rw [h1, h2, h3]; rfl
  have e2 : (if x.getLsbD (128 - 1) = true then 135#128 else 0#128).getLsbD j = (tb x 127 && decide (j = 0 ∨ j = 1 ∨ j = 2 ∨ j = 7)) := by
    show (if tb x 127 = true then 135#128 else 0#128).getLsbD j = _
    cases tb x 127
    · simp
    · have : ∀ j < 128, (135#128).getLsbD j = decide (j = 0 ∨ j = 1 ∨ j = 2 ∨ j = 7) := by decide +kernel
      simp [this j hj]
  rw [e1, e2]; rfl
theorem fb_double0 (x : BitVec 128) (h : tb x 127 = false) : fb (shB x 127) = dX 135#128 x := fb_eq fun j hj => by
  rw [dX_tb x j hj, h]; simp
theorem fb_double1 (x : BitVec 128) (h : tb x 127 = true) : fb (flip (flip (flip (flip (shB x 127) 0) 1) 2) 7) = dX 135#128 x := fb_eq fun j hj => by
  rw [dX_tb x j hj, h]
  unfold flip
  by_cases e7 : j = 7
  · subst e7; simp
  · by_cases e2 : j = 2
    · subst e2; simp
    · by_cases e1 : j = 1
      · subst e1; simp
      · by_cases e0 : j = 0
        · subst e0; simp
        · simp [e7, e2, e1, e0]
def DblAt (B m : Nat) (w : World) (x : BitVec 128) (f : Nat → Bool) (wr : World) : Prop :=
  HalfAt (B + 1) 0#128 wr ∧ RowAt m 128 (bv (tb x)) wr ∧ RowAt (m + 1) 128 (bv f) wr ∧ Below B w wr ∧ B + 2 ≤ m
theorem DblAt.set {B m : Nat} {w X : World} {x : BitVec 128} {f f' : Nat → Bool} (i : Nat) (v : Bool) (h : DblAt B m w x f X) (hf : ∀ j, (if j = i then Value.bool v else bv f j) = bv f' j) : DblAt B m w x f' (X.setCell ⟨m + 1, i, none⟩ (.bool v)) := by
  obtain ⟨h1, h2, h3, h4, h5⟩ := h
  exact ⟨h1.other _ _ (by omega), h2.other _ _ (by simp), (h3.set i _).congr (fun j _ => hf j), h4.setCell (by simp; omega) _, h5⟩
set_option maxRecDepth 100000 in
theorem rdouble_any (x : BitVec 128) (w : World) :
    Calls Try.prog 18 #[.agg #[.int .u64 ((lo x).toNat : Int), .int .u64 ((hi x).toNat : Int)]] w fun e w' => e = .returned (.agg #[.int .u64 ((lo (dX 135#128 x)).toNat : Int), .int .u64 ((hi (dX 135#128 x)).toNat : Int)]) ∧ Below w.heap.size w w' := by
  have hz := zero42
  go_enter Try.func18, Try.ntmps18
  go_wp2_with fail
  refine (bits_any x _).mono ?_
  rintro e w1 ⟨rfl, hb⟩
  have hR := RowAt.newOf w1 128 (bv fun _ => false) 42 Z128 (fun j hj => Z128_get j hj _ rfl)
  have hst := run_storeRow (P := Try.prog) hR (bv (tb x)) (fun _ _ => rfl)
  have hlen := row_length 128 (bv (tb x))
  have hsz : ((w1.alloc (Obj.cells Z128 42)).setCells w1.heap.size 0 (row 128 (bv (tb x)))).heap.size = w1.heap.size + 1 := by rw [size_setCells]; simp
  have HR := hideit hR
  have HB := hideit hb
  clear hR hb
  go_wp2
  clear hst hlen hsz
  go_loopw [5] (fun i wr => ∃ k : Nat, k ≤ 127 ∧ i = .int .i64 k ∧ DblAt w.heap.size w1.heap.size w x (shB x k) wr) (fun i _ => 127 - (intOf i).toNat)
  case atStart =>
    have hs := HB.out.size
    simp at hs
    refine ⟨0, by omega, rfl, ?_, ?_, ?_, ?_, by omega⟩
    · refine HalfAt.carry (X := w1) ?_ ?_ (by omega)
      · refine HalfAt.carry ?_ HB.out (by simp)
        refine ⟨?_, ?_, ?_, ?_⟩
        all_goals simp [go_sem, lo, hi]
      · exact (below_setCells _ (Nat.le_refl _) _ _ _ ((Below.refl _ _).alloc (Nat.le_refl _) _)).alloc (by rw [size_setCells]; simp) _
    · exact (HR.out.cells (g' := bv (tb x))).alloc _
    · have := RowAt.newOf ((w1.alloc (Obj.cells Z128 42)).setCells w1.heap.size 0 (row 128 (bv (tb x)))) 128 (bv (shB x 0)) 42 Z128 (fun j hj => Z128_get j hj _ (by simp [shB]; omega))
      rw [size_setCells] at this
      simpa using this
    · refine Below.alloc (below_setCells _ (by omega) _ _ _ (Below.alloc ?_ (by omega) _)) (by rw [size_setCells]; simp; omega) _
      exact (((Below.refl _ _).alloc (Nat.le_refl _) _).alloc (by simp) _).trans (HB.out.mono (by simp; omega))
  case round =>
    obtain ⟨k, hk, rfl, hT⟩ := hrel
    by_cases hlt : k < 127
    · have HT := hideit hT
      obtain ⟨_, hX, hY, _, _⟩ := hT
      have e1 := hX.1 k (by omega)
      have e2 := hY.1 (k + 1) (by omega)
      have g2 := hY.2.1 (k + 1) (by omega)
      simp only [bv] at e1
      clear hX hY
      go_wp2
      go_roundw
      case rel =>
        first | exact ⟨(k + 1 : Nat), by omega, by go_num, HT.out.set _ _ (shB_step x k)⟩ | ((repeat apply Exists.intro); exact ⟨⟨k + 1, by omega, by go_num, HT.out.set _ _ (shB_step x k)⟩, rfl⟩)
      case measure => simp [intOf]; omega
    · obtain rfl : k = 127 := by omega
      have HT := hideit hT
      obtain ⟨_, hX, hY, _, _⟩ := hT
      have e1 := hX.1 127 (by omega)
      simp only [bv] at e1
      rcases h1 : tb x 127 with _ | _
      · rw [h1] at e1
        have H1 := hideit h1
        clear h1 hX hY
        go_wp2_with (first | (refine wpList_load_mid rfl 42 (.tmp 4) rfl _ 0 rfl (row 128 (bv (shB x 127))) _ HT.out.2.2.1.range Try.underlying42 rfl (by rw [row_length]; exact info42) ?_))
        go_wp2_with fail
        refine (frombits_any _ _).mono ?_
        rintro e w2 ⟨rfl, hb2⟩
        rw [fb_double0 x H1.out]
        have hH := HT.out.1.carry hb2 (Nat.lt_of_lt_of_le (show w.heap.size + 1 < w1.heap.size by omega) (Nat.le_of_lt HT.out.2.1.2.2))
        have hBB := HT.out.2.2.2.1.trans (hb2.mono (Nat.le_trans (show w.heap.size ≤ w1.heap.size by omega) (Nat.le_of_lt HT.out.2.1.2.2)))
        have HBB := hideit hBB
        clear hBB hb2
        obtain ⟨c5, c6, f5, f6⟩ := hH
        go_wp2
        refine bodyPost_ret (v := .agg #[.int .u64 ((lo (dX 135#128 x)).toNat : Int), .int .u64 ((hi (dX 135#128 x)).toNat : Int)]) (by simp [results, Try.results18, go_sem, c5, c6]) rfl ⟨rfl, ?_⟩
        exact (HBB.out.setCell (by simp) _).setCell (by simp) _
      · rw [h1] at e1
        have H1 := hideit h1
        have y0 := hY.1 0 (by omega)
        have y1 := hY.1 1 (by omega)
        have y2 := hY.1 2 (by omega)
        have y7 := hY.1 7 (by omega)
        have z0 := hY.2.1 0 (by omega)
        have z1 := hY.2.1 1 (by omega)
        have z2 := hY.2.1 2 (by omega)
        have z7 := hY.2.1 7 (by omega)
        simp only [bv] at y0 y1 y2 y7
        have HT2 := hideit ((((HT.out.set 0 (!shB x 127 0) (flip_set _ 0 _ rfl)).set 1 (!shB x 127 1) (flip_set _ 1 _ rfl)).set 2 (!shB x 127 2) (flip_set _ 2 _ rfl)).set 7 (!shB x 127 7) (flip_set _ 7 _ rfl))
        clear h1 hX hY
        go_upto_region 12 with fail
        go_wp2_with (first | (refine wpList_load_mid rfl 42 (.tmp 4) rfl _ 0 rfl (row 128 (bv (flip (flip (flip (flip (shB x 127) 0) 1) 2) 7))) _ HT2.out.2.2.1.range Try.underlying42 rfl (by rw [row_length]; exact info42) ?_))
        go_wp2_with fail
        refine (frombits_any _ _).mono ?_
        rintro e w2 ⟨rfl, hb2⟩
        rw [fb_double1 x H1.out]
        have hH := HT2.out.1.carry hb2 (Nat.lt_of_lt_of_le (show w.heap.size + 1 < w1.heap.size by omega) (Nat.le_of_lt HT2.out.2.1.2.2))
        have hBB := HT2.out.2.2.2.1.trans (hb2.mono (Nat.le_trans (show w.heap.size ≤ w1.heap.size by omega) (Nat.le_of_lt HT2.out.2.1.2.2)))
        have HBB := hideit hBB
        clear hBB hb2
        obtain ⟨c5, c6, f5, f6⟩ := hH
        go_wp2
        refine bodyPost_ret (v := .agg #[.int .u64 ((lo (dX 135#128 x)).toNat : Int), .int .u64 ((hi (dX 135#128 x)).toNat : Int)]) (by simp [results, Try.results18, go_sem, c5, c6]) rfl ⟨rfl, ?_⟩
        exact (HBB.out.setCell (by simp) _).setCell (by simp) _
end Go.Proofs.Ytofecnieicnfgaa
