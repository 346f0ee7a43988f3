/-
  What the document's Of and Bytes answer: for every sixteen bytes, for every tweak, in every world, of which nothing that was there turns. What the document's Double answers: for every tweak, in every world, of which nothing that was there turns: what the program's Double answers.
-/
import Derived.Test.YtkoodgfadedeoaaQ6
import Derived.Test.YtkoodgfadedeoaaQ5
import Derived.Deep.CutRange
namespace Go.Proofs.Ytkoodgfadedeoaa
open Go.RowKit
/-- a bit of sixteen bytes -/
def yb (f : Nat → BitVec 8) (j : Nat) : Bool := (f (j / 8)).getLsbD (j % 8)
theorem yb_fact (f : Nat → BitVec 8) (k : Nat) : ((((f (k / 8)).toNat : Int) / 2 ^ (k % 8)).tmod 2 == 1) = yb f k := tmod_bit _ _
theorem fb_yb (f : Nat → BitVec 8) : fb (yb f) = ofB f := fb_eq fun j hj => by
  unfold tb; rw [ofB_bit f j hj]; rfl
def ROfAt (B : Nat) (w : World) (f : Nat → BitVec 8) (k : Nat) (wr : World) : Prop :=
  RowAt B 16 (yv f) wr ∧ HalfAt (B + 1) 0#128 wr ∧ RowAt (B + 1 + 1) 128 (bv fun j => decide (j < k) && yb f j) wr ∧ Below B w wr
theorem ROfAt.step {B : Nat} {w wr : World} {f : Nat → BitVec 8} {k : Nat} (h : ROfAt B w f k wr) : ROfAt B w f (k + 1) (wr.setCell ⟨B + 1 + 1, k, none⟩ (.bool (yb f k))) := by
  obtain ⟨h1, h2, h3, h4⟩ := h
  refine ⟨h1.other _ _ (by simp; omega), h2.other _ _ (by omega), (h3.set k _).congr ?_, h4.setCell (by simp; omega) _⟩
  intro j hj
  by_cases e : j = k
  · subst e; simp [bv]
  · have : decide (j < k + 1) = decide (j < k) := by rw [decide_eq_decide]; omega
    simp [bv, e, this]
set_option maxRecDepth 100000 in
theorem rof_any (f : Nat → BitVec 8) (w : World) :
    Calls Try.prog 49 #[.agg (row 16 (yv f)).toArray] w fun e w' => e = .returned (.agg #[.int .u64 ((lo (ofB f)).toNat : Int), .int .u64 ((hi (ofB f)).toNat : Int)]) ∧ Below w.heap.size w w' := by
  have hz := zero42
  go_enter Try.func49, Try.ntmps49
  go_wp2
  go_loopw [4] (fun i wr => ∃ k : Nat, k ≤ 128 ∧ i = .int .i64 k ∧ ROfAt w.heap.size w f k wr) (fun i _ => 128 - (intOf i).toNat)
  case atStart =>
    refine ⟨0, by omega, rfl, ?_, ⟨?_, ?_, ?_, ?_⟩, ?_, ?_⟩
    case refine_1 => exact ((RowAt.new w 16 (yv f) 23).alloc _).alloc _
    case refine_6 =>
      have := RowAt.newOf ((w.alloc (Obj.cells (row 16 (yv f)).toArray 23)).alloc (Obj.cells #[Value.int IntKind.u64 0, Value.int IntKind.u64 0] 80)) 128 (bv fun j => decide (j < 0) && yb f j) 99 Z128 (fun j hj => Z128_get j hj _ (by simp))
      simpa using this
    case refine_7 => exact (((Below.refl _ _).alloc (Nat.le_refl _) _).alloc (by simp) _).alloc (by simp; omega) _
    all_goals simp [go_sem, lo, hi]
  case round =>
    obtain ⟨k, hk, rfl, hT⟩ := hrel
    by_cases hlt : k < 128
    · have HT := hideit hT
      obtain ⟨hR, _, hX, _⟩ := hT
      have e1 := hR.1 (k / 8) (by omega)
      have e2 := hX.1 k (by omega)
      have g2 := hX.2.1 k (by omega)
      simp only [yv] at e1
      clear hR hX
      have b1 := (f (k / 8)).isLt
      have t1 := yb_fact f k
      go_wp2
      go_roundw
      case rel =>
        first | exact ⟨(k + 1 : Nat), by omega, by go_num, HT.out.step⟩ | ((repeat apply Exists.intro); exact ⟨⟨k + 1, by omega, by go_num, HT.out.step⟩, rfl⟩)
      case measure => simp [intOf]; omega
    · obtain rfl : k = 128 := by omega
      obtain ⟨_, hH, hX, hB⟩ := hT
      have HX := hideit (hX.congr (g' := bv (yb f)) (fun j hj => by simp [bv, hj]))
      have hBs : w.heap.size + 1 < wr.heap.size := by have := hX.2.2; omega
      have HH := hideit hH
      have HB := hideit hB
      clear hX hH hB
      go_wp2_with (first | (refine wpList_load_mid rfl 99 (.tmp 3) rfl _ 0 rfl (row 128 (bv (yb f))) _ HX.out.range Try.underlying99 rfl (by rw [row_length]; exact info42) ?_))
      go_wp2_with fail
      refine (frombits_any (yb f) _).mono ?_
      rintro e w2 ⟨rfl, hb2⟩
      rw [fb_yb]
      have hH2 := HH.out.carry hb2 hBs
      have HBB := hideit (HB.out.trans (hb2.mono (by omega)))
      clear hb2
      obtain ⟨c5, c6, f5, f6⟩ := hH2
      go_wp2
      refine bodyPost_ret (v := .agg #[.int .u64 ((lo (ofB f)).toNat : Int), .int .u64 ((hi (ofB f)).toNat : Int)]) (by simp [results, Try.results49, go_sem, c5, c6]) rfl ⟨rfl, ?_⟩
      exact (HBB.out.setCell (by simp) _).setCell (by simp) _
/-- the bytes of an element, of its first k bits -/
def acB (x : BitVec 128) : Nat → Nat → BitVec 8
  | 0, _ => 0#8
  | k + 1, j => if tb x k = true ∧ j = k / 8 then acB x k j ||| BitVec.twoPow 8 (k % 8) else acB x k j
theorem acB_bit (x : BitVec 128) (k : Nat) (j i : Nat) (hi : i < 8) : (acB x k j).getLsbD i = (decide (8 * j + i < k) && tb x (8 * j + i)) := by
  induction k with
  | zero => simp [acB]
  | succ k ih =>
    simp only [acB]
    split
    · rename_i h
      obtain ⟨h1, h2⟩ := h
      rw [BitVec.getLsbD_or, ih, BitVec.getLsbD_twoPow]
      by_cases e : 8 * j + i = k
      · have e1 : k % 8 = i := by omega
        rw [e, h1, e1]; simp [hi]
      · have e1 : ¬ k % 8 = i := by omega
        have e2 : decide (8 * j + i < k + 1) = decide (8 * j + i < k) := by rw [decide_eq_decide]; omega
        rw [e2]; simp [e1]
    · rename_i h
      rw [ih]
      by_cases e : 8 * j + i = k
      · have h1 : tb x k = false := by
          cases hh : tb x k with
          | false => rfl
          | true => exact absurd ⟨hh, by omega⟩ h
        rw [e, h1]; simp
      · have e2 : decide (8 * j + i < k + 1) = decide (8 * j + i < k) := by rw [decide_eq_decide]; omega
        rw [e2]
theorem acB_last (x : BitVec 128) (j : Nat) (hj : j < 16) : acB x 128 j = byB x j := by
  apply BitVec.eq_of_getLsbD_eq
  intro i hi
  rw [acB_bit x 128 j i hi, byB_bit x j i hi]
  have : 8 * j + i < 128 := by omega
  simp [this, tb]
theorem or8 (x : BitVec 8) (k : Nat) (hk : k < 8) : bits .or .u8 (x.toNat : Int) (2 ^ k % 256) = ((x ||| BitVec.twoPow 8 k).toNat : Int) := by
  have h : ∀ k < 8, ∀ x : BitVec 8, bits .or .u8 (x.toNat : Int) (2 ^ k % 256) = ((x ||| BitVec.twoPow 8 k).toNat : Int) := by decide +kernel
  exact h k hk x
def RByAt (B m : Nat) (w : World) (x : BitVec 128) (k : Nat) (wr : World) : Prop :=
  RowAt (B + 1) 16 (yv fun _ => 0#8) wr ∧ RowAt (B + 1 + 1) 16 (yv (acB x k)) wr ∧ RowAt m 128 (bv (tb x)) wr ∧ Below B w wr ∧ B + 3 ≤ m
theorem RByAt.step1 {B m : Nat} {w wr : World} {x : BitVec 128} {k : Nat} (h : RByAt B m w x k wr) :
    RByAt B m w x (k + 1) (wr.setCell ⟨B + 1 + 1, k / 8, none⟩ (.int .u8 ((acB x (k + 1) (k / 8)).toNat : Int))) := by
  obtain ⟨h1, h2, h3, h4, h5⟩ := h
  refine ⟨h1.other _ _ (by simp), (h2.set (k / 8) _).congr ?_, h3.other _ _ (by simp; omega), h4.setCell (by simp; omega) _, h5⟩
  intro j hj
  by_cases e : j = k / 8
  · subst e; simp [yv]
  · simp [yv, e, acB]
theorem RByAt.step0 {B m : Nat} {w wr : World} {x : BitVec 128} {k : Nat} (h : RByAt B m w x k wr) (hb : tb x k = false) : RByAt B m w x (k + 1) wr := by
  obtain ⟨h1, h2, h3, h4, h5⟩ := h
  exact ⟨h1, h2.congr (fun j _ => by simp [yv, acB, hb]), h3, h4, h5⟩
theorem RByAt.drew {B m : Nat} {w wr : World} {x : BitVec 128} {k : Nat} (h : RByAt B m w x k wr) : RByAt B m w x k wr.drew := ⟨h.1, h.2.1, h.2.2.1, h.2.2.2.1.drew, h.2.2.2.2⟩
set_option maxRecDepth 100000 in
set_option maxHeartbeats 1000000 in
theorem rbytes_any (x : BitVec 128) (w : World) :
    Calls Try.prog 50 #[.agg #[.int .u64 ((lo x).toNat : Int), .int .u64 ((hi x).toNat : Int)]] w fun e w' => e = .returned (.agg (row 16 (yv (byB x))).toArray) ∧ Below w.heap.size w w' := by
  have hz := zero42
  have hz2 := zero32
  go_enter Try.func50, Try.ntmps50
  go_wp2_with fail
  refine (bits_any x _).mono ?_
  rintro e w1 ⟨rfl, hb⟩
  have hR := RowAt.newOf w1 128 (bv fun _ => false) 99 Z128 (fun j hj => Z128_get j hj _ rfl)
  have hst := run_storeRow (P := Try.prog) hR (bv (tb x)) (fun _ _ => rfl)
  have hlen := row_length 128 (bv (tb x))
  have HR := hideit hR
  have HB := hideit hb
  clear hR hb
  go_wp2
  clear hst hlen
  go_loopw [5] (fun i wr => ∃ k : Nat, k ≤ 128 ∧ i = .int .i64 k ∧ RByAt w.heap.size w1.heap.size w x k wr) (fun i _ => 128 - (intOf i).toNat)
  case atStart =>
    have hs := HB.out.size
    simp at hs
    have hX : Below w1.heap.size w1 ((w1.alloc (Obj.cells Z128 99)).setCells w1.heap.size 0 (row 128 (bv (tb x)))) := below_setCells _ (Nat.le_refl _) _ _ _ ((Below.refl _ _).alloc (Nat.le_refl _) _)
    refine ⟨0, by omega, rfl, ?_, ?_, ?_, ?_, by omega⟩
    · refine RowAt.carry (X := w1) (RowAt.carry ?_ HB.out) hX
      have := RowAt.newOf (w.alloc (Obj.cells #[Value.int IntKind.u64 ↑(lo x).toNat, Value.int IntKind.u64 ↑(hi x).toNat] 80)) 16 (yv fun _ => 0#8) 23 Y16 (fun j hj => Y16_get j hj _ rfl)
      simpa using this.alloc (Obj.cells Y16 23)
    · refine RowAt.carry (X := w1) (RowAt.carry ?_ HB.out) hX
      have := RowAt.newOf ((w.alloc (Obj.cells #[Value.int IntKind.u64 ↑(lo x).toNat, Value.int IntKind.u64 ↑(hi x).toNat] 80)).alloc (Obj.cells Y16 23)) 16 (yv (acB x 0)) 23 Y16 (fun j hj => Y16_get j hj _ rfl)
      simpa using this
    · exact HR.out.cells (g' := bv (tb x))
    · refine below_setCells _ (by omega) _ _ _ (Below.alloc ?_ (by omega) _)
      exact ((((Below.refl _ _).alloc (Nat.le_refl _) _).alloc (by simp) _).alloc (by simp; omega) _).trans (HB.out.mono (by simp; omega))
  case round =>
    obtain ⟨k, hk, rfl, hT⟩ := hrel
    by_cases hlt : k < 128
    · have HT := hideit hT
      obtain ⟨_, hY, hX, _, _⟩ := hT
      have e1 := hX.1 k (by omega)
      have e2 := hY.1 (k / 8) (by omega)
      have g2 := hY.2.1 (k / 8) (by omega)
      simp only [yv] at e2
      simp only [bv] at e1
      clear hX hY
      have b1 := (acB x k (k / 8)).isLt
      rcases h1 : tb x k with _ | _
      · rw [h1] at e1
        have H1 := hideit h1
        clear h1
        go_wp2
        go_roundw
        case rel =>
          first | exact ⟨(k + 1 : Nat), by omega, by go_num, HT.out.step0 H1.out⟩ | ((repeat apply Exists.intro); exact ⟨⟨k + 1, by omega, by go_num, HT.out.step0 H1.out⟩, rfl⟩)
        case measure => simp [intOf]; omega
      · rw [h1] at e1
        have o1 : bits .or .u8 ((acB x k (k / 8)).toNat : Int) (2 ^ (k % 8) % 256) = ((acB x (k + 1) (k / 8)).toNat : Int) := by
          rw [or8 _ _ (by omega)]; simp [acB, h1]
        clear h1
        have i0 : (0 : Int) ≤ (k : Int) / 8 := by omega
        have i1 : (k : Int) / 8 < 16 := by omega
        have i2 : (0 : Int) ≤ (k : Int) % 8 := by omega
        go_wp2
        go_region
        all_goals (try go_wp2)
        go_roundw
        case rel =>
          first | exact ⟨(k + 1 : Nat), by omega, by go_num, HT.out.step1.drew⟩ | ((repeat apply Exists.intro); exact ⟨⟨k + 1, by omega, by go_num, HT.out.step1.drew⟩, rfl⟩)
        case measure => simp [intOf]; omega
    · obtain rfl : k = 128 := by omega
      obtain ⟨hR0, hR, _, hB, _⟩ := hT
      have HR := hideit (hR.congr (g' := yv (byB x)) (fun j hj => by simp only [yv]; rw [acB_last x j hj]))
      have HR0 := hideit hR0
      clear hR hR0
      go_wp2_with (first | (refine wpList_load_mid rfl 23 (.tmp 3) rfl _ 0 rfl (row 16 (yv (byB x))) _ HR.out.range Try.underlying23 rfl (by rw [row_length]; exact info32) ?_) | (refine wpList_store_mid rfl 23 (.tmp 2) (.tmp 26) rfl _ 0 (row 16 (yv (byB x))).toArray rfl rfl (by rw [row_size]; exact HR0.out.there) (by rw [row_size]; exact info32) (row_one fun _ _ => rfl) ?_))
      refine bodyPost_ret (v := .agg (row 16 (yv (byB x))).toArray) ?_ rfl ⟨rfl, below_setCells _ (by omega) _ _ _ hB⟩
      have hl := run_loadVar_mid (P := Try.prog) (wr.setCells (w.heap.size + 1) 0 (row 16 (yv (byB x)))) (w.heap.size + 1) 0 23 (row 16 (yv (byB x))) _ (HR0.out.cells (g' := yv (byB x))).range Try.underlying23 rfl (by rw [row_length]; exact info32)
      simp [results, Try.results50, Act.put, asAddr, hl]
end Go.Proofs.Ytkoodgfadedeoaa
namespace Go.Proofs.Ytkoodgfadedeoaa
open Go.RowKit
/-- doubled, bit by bit, as far as place k -/
def shB (x : BitVec 128) (k j : Nat) : Bool := decide (1 ≤ j ∧ j ≤ k) && tb x (j - 1)
def flip (f : Nat → Bool) (i j : Nat) : Bool := if j = i then !f i else f j
theorem shB_step (x : BitVec 128) (k : Nat) : ∀ j, (if j = k + 1 then Value.bool (tb x k) else bv (shB x k) j) = bv (shB x (k + 1)) j := by
  intro j
  by_cases e : j = k + 1
  · subst e; simp [bv, shB]
  · have : decide (1 ≤ j ∧ j ≤ k + 1) = decide (1 ≤ j ∧ j ≤ k) := by rw [decide_eq_decide]; omega
    simp [bv, shB, e, this]
theorem flip_set (f : Nat → Bool) (i : Nat) (v : Bool) (hv : v = !f i) : ∀ j, (if j = i then Value.bool v else bv f j) = bv (flip f i) j := by
  intro j
  by_cases e : j = i
  · subst e; simp [bv, flip, hv]
  · simp [bv, flip, e]
theorem dX_tb (x : BitVec 128) (j : Nat) (hj : j < 128) : tb (dX 135#128 x) j = xor (shB x 127 j) (tb x 127 && decide (j = 0 ∨ j = 1 ∨ j = 2 ∨ j = 7)) := by
  unfold dX tb shB
  rw [BitVec.getLsbD_xor, BitVec.getLsbD_shiftLeft, BitVec.msb_eq_getLsbD_last]
  have e1 : (decide (j < 128) && !decide (j < 1) && x.getLsbD (j - 1)) = (decide (1 ≤ j ∧ j ≤ 127) && tb x (j - 1)) := by
    by_cases h : j = 0
    · subst h; simp
    · have h1 : decide (j < 128) = true := by simp; omega
      have h2 : decide (j < 1) = false := by simp; omega
      have h3 : decide (1 ≤ j ∧ j ≤ 127) = true := by simp; omega
      rw [h1, h2, h3]; rfl
  have e2 : (if x.getLsbD (128 - 1) = true then 135#128 else 0#128).getLsbD j = (tb x 127 && decide (j = 0 ∨ j = 1 ∨ j = 2 ∨ j = 7)) := by
    show (if tb x 127 = true then 135#128 else 0#128).getLsbD j = _
    cases tb x 127
    · simp
    · have : ∀ j < 128, (135#128).getLsbD j = decide (j = 0 ∨ j = 1 ∨ j = 2 ∨ j = 7) := by decide +kernel
      simp [this j hj]
  rw [e1, e2]; rfl
theorem fb_double0 (x : BitVec 128) (h : tb x 127 = false) : fb (shB x 127) = dX 135#128 x := fb_eq fun j hj => by
  rw [dX_tb x j hj, h]; simp
theorem fb_double1 (x : BitVec 128) (h : tb x 127 = true) : fb (flip (flip (flip (flip (shB x 127) 0) 1) 2) 7) = dX 135#128 x := fb_eq fun j hj => by
  rw [dX_tb x j hj, h]
  unfold flip
  by_cases e7 : j = 7
  · subst e7; simp
  · by_cases e2 : j = 2
    · subst e2; simp
    · by_cases e1 : j = 1
      · subst e1; simp
      · by_cases e0 : j = 0
        · subst e0; simp
        · simp [e7, e2, e1, e0]
def DblAt (B m : Nat) (w : World) (x : BitVec 128) (f : Nat → Bool) (wr : World) : Prop :=
  HalfAt (B + 1) 0#128 wr ∧ RowAt m 128 (bv (tb x)) wr ∧ RowAt (m + 1) 128 (bv f) wr ∧ Below B w wr ∧ B + 2 ≤ m
theorem DblAt.set {B m : Nat} {w X : World} {x : BitVec 128} {f f' : Nat → Bool} (i : Nat) (v : Bool) (h : DblAt B m w x f X) (hf : ∀ j, (if j = i then Value.bool v else bv f j) = bv f' j) : DblAt B m w x f' (X.setCell ⟨m + 1, i, none⟩ (.bool v)) := by
  obtain ⟨h1, h2, h3, h4, h5⟩ := h
  exact ⟨h1.other _ _ (by omega), h2.other _ _ (by simp), (h3.set i _).congr (fun j _ => hf j), h4.setCell (by simp; omega) _, h5⟩
set_option maxRecDepth 100000 in
theorem rdouble_any (x : BitVec 128) (w : World) :
    Calls Try.prog 51 #[.agg #[.int .u64 ((lo x).toNat : Int), .int .u64 ((hi x).toNat : Int)]] w fun e w' => e = .returned (.agg #[.int .u64 ((lo (dX 135#128 x)).toNat : Int), .int .u64 ((hi (dX 135#128 x)).toNat : Int)]) ∧ Below w.heap.size w w' := by
  have hz := zero42
  go_enter Try.func51, Try.ntmps51
  go_wp2_with fail
  refine (bits_any x _).mono ?_
  rintro e w1 ⟨rfl, hb⟩
  have hR := RowAt.newOf w1 128 (bv fun _ => false) 99 Z128 (fun j hj => Z128_get j hj _ rfl)
  have hst := run_storeRow (P := Try.prog) hR (bv (tb x)) (fun _ _ => rfl)
  have hlen := row_length 128 (bv (tb x))
  have hsz : ((w1.alloc (Obj.cells Z128 99)).setCells w1.heap.size 0 (row 128 (bv (tb x)))).heap.size = w1.heap.size + 1 := by rw [size_setCells]; simp
  have HR := hideit hR
  have HB := hideit hb
  clear hR hb
  go_wp2
  clear hst hlen hsz
  go_loopw [5] (fun i wr => ∃ k : Nat, k ≤ 127 ∧ i = .int .i64 k ∧ DblAt w.heap.size w1.heap.size w x (shB x k) wr) (fun i _ => 127 - (intOf i).toNat)
  case atStart =>
    have hs := HB.out.size
    simp at hs
    refine ⟨0, by omega, rfl, ?_, ?_, ?_, ?_, by omega⟩
    · refine HalfAt.carry (X := w1) ?_ ?_ (by omega)
      · refine HalfAt.carry ?_ HB.out (by simp)
        refine ⟨?_, ?_, ?_, ?_⟩
        all_goals simp [go_sem, lo, hi]
      · exact (below_setCells _ (Nat.le_refl _) _ _ _ ((Below.refl _ _).alloc (Nat.le_refl _) _)).alloc (by rw [size_setCells]; simp) _
    · exact (HR.out.cells (g' := bv (tb x))).alloc _
    · have := RowAt.newOf ((w1.alloc (Obj.cells Z128 99)).setCells w1.heap.size 0 (row 128 (bv (tb x)))) 128 (bv (shB x 0)) 99 Z128 (fun j hj => Z128_get j hj _ (by simp [shB]; omega))
      rw [size_setCells] at this
      simpa using this
    · refine Below.alloc (below_setCells _ (by omega) _ _ _ (Below.alloc ?_ (by omega) _)) (by rw [size_setCells]; simp; omega) _
      exact (((Below.refl _ _).alloc (Nat.le_refl _) _).alloc (by simp) _).trans (HB.out.mono (by simp; omega))
  case round =>
    obtain ⟨k, hk, rfl, hT⟩ := hrel
    by_cases hlt : k < 127
    · have HT := hideit hT
      obtain ⟨_, hX, hY, _, _⟩ := hT
      have e1 := hX.1 k (by omega)
      have e2 := hY.1 (k + 1) (by omega)
      have g2 := hY.2.1 (k + 1) (by omega)
      simp only [bv] at e1
      clear hX hY
      go_wp2
      go_roundw
      case rel =>
        first | exact ⟨(k + 1 : Nat), by omega, by go_num, HT.out.set _ _ (shB_step x k)⟩ | ((repeat apply Exists.intro); exact ⟨⟨k + 1, by omega, by go_num, HT.out.set _ _ (shB_step x k)⟩, rfl⟩)
      case measure => simp [intOf]; omega
    · obtain rfl : k = 127 := by omega
      have HT := hideit hT
      obtain ⟨_, hX, hY, _, _⟩ := hT
      have e1 := hX.1 127 (by omega)
      simp only [bv] at e1
      rcases h1 : tb x 127 with _ | _
      · rw [h1] at e1
        have H1 := hideit h1
        clear h1 hX hY
        go_wp2_with (first | (refine wpList_load_mid rfl 99 (.tmp 4) rfl _ 0 rfl (row 128 (bv (shB x 127))) _ HT.out.2.2.1.range Try.underlying99 rfl (by rw [row_length]; exact info42) ?_))
        go_wp2_with fail
        refine (frombits_any _ _).mono ?_
        rintro e w2 ⟨rfl, hb2⟩
        rw [fb_double0 x H1.out]
        have hH := HT.out.1.carry hb2 (Nat.lt_of_lt_of_le (show w.heap.size + 1 < w1.heap.size by omega) (Nat.le_of_lt HT.out.2.1.2.2))
        have hBB := HT.out.2.2.2.1.trans (hb2.mono (Nat.le_trans (show w.heap.size ≤ w1.heap.size by omega) (Nat.le_of_lt HT.out.2.1.2.2)))
        have HBB := hideit hBB
        clear hBB hb2
        obtain ⟨c5, c6, f5, f6⟩ := hH
        go_wp2
        refine bodyPost_ret (v := .agg #[.int .u64 ((lo (dX 135#128 x)).toNat : Int), .int .u64 ((hi (dX 135#128 x)).toNat : Int)]) (by simp [results, Try.results51, go_sem, c5, c6]) rfl ⟨rfl, ?_⟩
        exact (HBB.out.setCell (by simp) _).setCell (by simp) _
      · rw [h1] at e1
        have H1 := hideit h1
        have y0 := hY.1 0 (by omega)
        have y1 := hY.1 1 (by omega)
        have y2 := hY.1 2 (by omega)
        have y7 := hY.1 7 (by omega)
        have z0 := hY.2.1 0 (by omega)
        have z1 := hY.2.1 1 (by omega)
        have z2 := hY.2.1 2 (by omega)
        have z7 := hY.2.1 7 (by omega)
        simp only [bv] at y0 y1 y2 y7
        have HT2 := hideit ((((HT.out.set 0 (!shB x 127 0) (flip_set _ 0 _ rfl)).set 1 (!shB x 127 1) (flip_set _ 1 _ rfl)).set 2 (!shB x 127 2) (flip_set _ 2 _ rfl)).set 7 (!shB x 127 7) (flip_set _ 7 _ rfl))
        clear h1 hX hY
        go_upto_region 12 with fail
        go_wp2_with (first | (refine wpList_load_mid rfl 99 (.tmp 4) rfl _ 0 rfl (row 128 (bv (flip (flip (flip (flip (shB x 127) 0) 1) 2) 7))) _ HT2.out.2.2.1.range Try.underlying99 rfl (by rw [row_length]; exact info42) ?_))
        go_wp2_with fail
        refine (frombits_any _ _).mono ?_
        rintro e w2 ⟨rfl, hb2⟩
        rw [fb_double1 x H1.out]
        have hH := HT2.out.1.carry hb2 (Nat.lt_of_lt_of_le (show w.heap.size + 1 < w1.heap.size by omega) (Nat.le_of_lt HT2.out.2.1.2.2))
        have hBB := HT2.out.2.2.2.1.trans (hb2.mono (Nat.le_trans (show w.heap.size ≤ w1.heap.size by omega) (Nat.le_of_lt HT2.out.2.1.2.2)))
        have HBB := hideit hBB
        clear hBB hb2
        obtain ⟨c5, c6, f5, f6⟩ := hH
        go_wp2
        refine bodyPost_ret (v := .agg #[.int .u64 ((lo (dX 135#128 x)).toNat : Int), .int .u64 ((hi (dX 135#128 x)).toNat : Int)]) (by simp [results, Try.results51, go_sem, c5, c6]) rfl ⟨rfl, ?_⟩
        exact (HBB.out.setCell (by simp) _).setCell (by simp) _
end Go.Proofs.Ytkoodgfadedeoaa
