/-
  What Double answers, and that what must come of every program does: in every world, of which nothing that was there turns. What Times answers: for every two tweaks, in every world, of which nothing that was there turns. What the document's Bits and FromBits answer: for every tweak, for every row of 128 bits, in every world, of which nothing that was there turns.
-/
import Derived.Test.YtfpfgbhdehbggaaGreatDoorQb17
import Derived.Test.YtfpfgbhdehbggaaGreatDoorQb1
namespace Go.Proofs.YtfpfgbhdehbggaaGreatDoor
set_option maxRecDepth 20000
open Go.RowKit
def lo (x : BitVec 128) : BitVec 64 := x.setWidth 64
def hi (x : BitVec 128) : BitVec 64 := x.extractLsb' 64 64
def jn (l h : BitVec 64) : BitVec 128 := h ++ l
theorem lo_bit (x : BitVec 128) (i : Nat) (h : i < 64) : (lo x).getLsbD i = x.getLsbD i := by
  simp [lo, h]
theorem hi_bit (x : BitVec 128) (i : Nat) (h : i < 64) : (hi x).getLsbD i = x.getLsbD (64 + i) := by
  simp [hi, h]
theorem lo_jn (l h : BitVec 64) : lo (jn l h) = l := by
  apply BitVec.eq_of_getLsbD_eq; intro i hi; rw [lo_bit _ _ hi]; have e := BitVec.getLsbD_append (x := h) (y := l) (i := i); rw [if_pos hi] at e; exact e
theorem hi_jn (l h : BitVec 64) : hi (jn l h) = h := by
  apply BitVec.eq_of_getLsbD_eq; intro i hi; rw [hi_bit _ _ hi]; have e := BitVec.getLsbD_append (x := h) (y := l) (i := 64 + i); rw [if_neg (by omega), Nat.add_sub_cancel_left] at e; exact e
theorem half_ext {x y : BitVec 128} (h1 : lo x = lo y) (h2 : hi x = hi y) : x = y := by
  apply BitVec.eq_of_getLsbD_eq
  intro i hi
  by_cases h : i < 64
  · rw [← lo_bit x i h, ← lo_bit y i h, h1]
  · have e : i = 64 + (i - 64) := by omega
    rw [e, ← hi_bit x (i - 64) (by omega), ← hi_bit y (i - 64) (by omega), h2]
theorem lo_xor (x y : BitVec 128) : lo (x ^^^ y) = lo x ^^^ lo y := by
  apply BitVec.eq_of_getLsbD_eq; intro i hi; simp [lo_bit _ _ hi]
theorem hi_xor (x y : BitVec 128) : hi (x ^^^ y) = hi x ^^^ hi y := by
  apply BitVec.eq_of_getLsbD_eq; intro i hi; simp [hi_bit _ _ hi]
theorem shl64 (a : BitVec 64) : IntKind.u64.wrap ((a.toNat : Int) * 2) = ((a <<< 1).toNat : Int) := by
  rw [IntKind.wrap_u64, BitVec.toNat_shiftLeft, Nat.shiftLeft_eq]; omega
theorem shr64 (a : BitVec 64) : ((a.toNat : Int) / (9223372036854775808 : Int)) = ((a >>> 63).toNat : Int) := by
  rw [BitVec.toNat_ushiftRight, Nat.shiftRight_eq_div_pow]; omega
theorem top64 (a : BitVec 64) : a >>> 63 = if a.getLsbD 63 then 1#64 else 0#64 := by
  apply BitVec.eq_of_getLsbD_eq
  intro i hi
  rw [BitVec.getLsbD_ushiftRight]
  by_cases h : i = 0
  · subst h; cases a.getLsbD 63 <;> simp
  · rw [BitVec.getLsbD_of_ge a _ (by omega)]
    split <;> simp [h]
theorem rest64 (a : BitVec 64) : ((a.toNat : Int) / (9223372036854775808 : Int) * (135 : Int)) = (((a >>> 63) * 135#64).toNat : Int) := by
  rw [shr64, top64]
  split <;> rfl
theorem lo_dX (x : BitVec 128) : lo (dX 135#128 x) = (lo x <<< 1) ^^^ ((hi x >>> 63) * 135#64) := by
  unfold dX
  rw [lo_xor, top64, hi_bit x 63 (by omega), BitVec.msb_eq_getLsbD_last]
  congr 1
  · apply BitVec.eq_of_getLsbD_eq; intro i hi
    rw [lo_bit _ _ hi, BitVec.getLsbD_shiftLeft, BitVec.getLsbD_shiftLeft]
    by_cases h : i < 1
    · simp [h]
    · have h3 : i < 128 := by omega
      rw [lo_bit x (i - 1) (by omega)]; simp [hi, h, h3]
  · show lo (if x.getLsbD 127 = true then 135#128 else 0#128) = _
    cases x.getLsbD 127 <;> rfl
theorem hi_dX (x : BitVec 128) : hi (dX 135#128 x) = (hi x <<< 1) ^^^ (lo x >>> 63) := by
  unfold dX
  rw [hi_xor]
  have h0 : hi (if x.msb = true then 135#128 else 0#128) = 0#64 := by cases x.msb <;> rfl
  rw [h0, BitVec.xor_zero, top64, lo_bit x 63 (by omega)]
  apply BitVec.eq_of_getLsbD_eq; intro i hi
  rw [hi_bit _ _ hi, BitVec.getLsbD_shiftLeft, BitVec.getLsbD_xor, BitVec.getLsbD_shiftLeft]
  by_cases h : i = 0
  · subst h; cases x.getLsbD 63 <;> simp
  · rw [hi_bit x (i - 1) (by omega), show 64 + i - 1 = 64 + (i - 1) from by omega]
    have e : (if x.getLsbD 63 = true then 1#64 else 0#64).getLsbD i = false := by cases x.getLsbD 63 <;> simp [h]
    have h3 : ¬ i < 1 := by omega
    have h4 : 64 + i < 128 := by omega
    have h5 : ¬ 64 + i < 1 := by omega
    rw [e]; simp [hi, h3, h4, h5]
theorem double_any (x : BitVec 128) (w : World) :
    Calls Tryz.prog 38 #[.agg #[.int .u64 ((lo x).toNat : Int), .int .u64 ((hi x).toNat : Int)]] w fun e w' => e = .returned (.agg #[.int .u64 ((lo (dX 135#128 x)).toNat : Int), .int .u64 ((hi (dX 135#128 x)).toNat : Int)]) ∧ Below w.heap.size w w' := by
  have h1 := (lo x).isLt
  have h2 := (hi x).isLt
  go_enter Tryz.func38, Tryz.ntmps38
  go_wp2
  rw [shl64 (lo x), shl64 (hi x), rest64 (hi x), shr64 (lo x), xor64, xor64, ← lo_dX, ← hi_dX]
  refine bodyPost_ret (v := .agg #[.int .u64 ((lo (dX 135#128 x)).toNat : Int), .int .u64 ((hi (dX 135#128 x)).toNat : Int)]) (by simp [results, Tryz.results38, go_sem]) rfl ⟨rfl, ?_⟩
  exact ((Below.refl _ _).alloc (Nat.le_refl _) _).alloc (by simp) _
end Go.Proofs.YtfpfgbhdehbggaaGreatDoor
namespace Go.Proofs.YtfpfgbhdehbggaaGreatDoor
set_option maxRecDepth 20000
open Go.RowKit
def HalfAt (b : Nat) (x : BitVec 128) (wr : World) : Prop :=
  wr.cell? ⟨b, 0, none⟩ = some (.int .u64 ((lo x).toNat : Int)) ∧ wr.cell? ⟨b, 1, none⟩ = some (.int .u64 ((hi x).toNat : Int)) ∧ wr.frozen? ⟨b, 0, none⟩ = false ∧ wr.frozen? ⟨b, 1, none⟩ = false
theorem HalfAt.carry {b : Nat} {x : BitVec 128} {X w' : World} (h : HalfAt b x X) (hB : Below X.heap.size X w') (hb : b < X.heap.size) : HalfAt b x w' :=
  ⟨(hB.cell (p := ⟨b, 0, none⟩) hb).trans h.1, (hB.cell (p := ⟨b, 1, none⟩) hb).trans h.2.1, (hB.frozen (p := ⟨b, 0, none⟩) hb).trans h.2.2.1, (hB.frozen (p := ⟨b, 1, none⟩) hb).trans h.2.2.2⟩
theorem HalfAt.other {b c : Nat} {x : BitVec 128} {X : World} (h : HalfAt b x X) (o : Nat) (v : Value) (hb : b ≠ c) : HalfAt b x (X.setCell ⟨c, o, none⟩ v) := by
  obtain ⟨h1, h2, h3, h4⟩ := h
  refine ⟨?_, ?_, ?_, ?_⟩
  all_goals simp [go_sem, h1, h2, h3, h4]
theorem HalfAt.set {b : Nat} {x : BitVec 128} (y : BitVec 128) {X : World} (h : HalfAt b x X) : HalfAt b y ((X.setCell ⟨b, 0, none⟩ (.int .u64 ((lo y).toNat : Int))).setCell ⟨b, 1, none⟩ (.int .u64 ((hi y).toNat : Int))) := by
  obtain ⟨h1, h2, h3, h4⟩ := h
  refine ⟨?_, ?_, ?_, ?_⟩
  all_goals simp [go_sem, h1, h2, h3, h4]
def TimesAt (B : Nat) (w : World) (x s : BitVec 128) (wr : World) : Prop :=
  HalfAt B x wr ∧ HalfAt (B + 1 + 1 + 1) s wr ∧ HalfAt (B + 1 + 1) 0#128 wr ∧ Below B w wr ∧ B + 4 ≤ wr.heap.size
theorem TimesAt.carry {B : Nat} {w X w' : World} {x s : BitVec 128} (h : TimesAt B w x s X) (hB : Below X.heap.size X w') : TimesAt B w x s w' := by
  obtain ⟨h1, h2, h3, h4, h5⟩ := h
  exact ⟨h1.carry hB (by omega), h2.carry hB (by omega), h3.carry hB (by omega), h4.trans (hB.mono (by omega)), Nat.le_trans h5 hB.size⟩
theorem TimesAt.setS {B : Nat} {w X : World} {x s : BitVec 128} (y : BitVec 128) (h : TimesAt B w x s X) : TimesAt B w x y ((X.setCell ⟨B + 1 + 1 + 1, 0, none⟩ (.int .u64 ((lo y).toNat : Int))).setCell ⟨B + 1 + 1 + 1, 1, none⟩ (.int .u64 ((hi y).toNat : Int))) := by
  obtain ⟨h1, h2, h3, h4, h5⟩ := h
  exact ⟨(h1.other _ _ (by omega)).other _ _ (by omega), h2.set y, (h3.other _ _ (by omega)).other _ _ (by omega), (h4.setCell (by simp; omega) _).setCell (by simp; omega) _, by simpa using h5⟩
end Go.Proofs.YtfpfgbhdehbggaaGreatDoor
namespace Go.Proofs.YtfpfgbhdehbggaaGreatDoor
set_option maxRecDepth 20000
open Go.RowKit
def bv (f : Nat → Bool) : Nat → Value := fun j => .bool (f j)
def Z128 : Array Value := (row 128 (bv fun _ => false)).toArray
def tb (x : BitVec 128) (j : Nat) : Bool := x.getLsbD j
theorem tb_lo (x : BitVec 128) (k : Nat) (hk : k < 64) : ((((lo x).toNat : Int) / 2 ^ k).tmod 2 == 1) = tb x k := by
  rw [tmod_bit]; exact lo_bit x k hk
theorem tb_hi (x : BitVec 128) (k : Nat) (hk : k < 64) : ((((hi x).toNat : Int) / 2 ^ k).tmod 2 == 1) = tb x (64 + k) := by
  rw [tmod_bit]; exact hi_bit x k hk
def BitsAt (B : Nat) (w : World) (x : BitVec 128) (k : Nat) (wr : World) : Prop :=
  HalfAt B x wr ∧ RowAt (B + 1) 128 (bv fun _ => false) wr ∧ RowAt (B + 1 + 1) 128 (bv fun j => decide (j < k ∨ (64 ≤ j ∧ j < 64 + k)) && tb x j) wr ∧ Below B w wr
theorem BitsAt.step {B : Nat} {w wr : World} {x : BitVec 128} {k : Nat} (hk : k < 64) (h : BitsAt B w x k wr) :
    BitsAt B w x (k + 1) ((wr.setCell ⟨B + 1 + 1, k, none⟩ (.bool (tb x k))).setCell ⟨B + 1 + 1, 64 + k, none⟩ (.bool (tb x (64 + k)))) := by
  obtain ⟨h1, h2, h3, h4⟩ := h
  refine ⟨(h1.other _ _ (by omega)).other _ _ (by omega), (h2.other _ _ (by simp)).other _ _ (by simp), ((h3.set k _).set (64 + k) _).congr ?_, (h4.setCell (by simp; omega) _).setCell (by simp; omega) _⟩
  intro j hj
  by_cases e1 : j = 64 + k
  · subst e1
    have : decide (64 + k < k + 1 ∨ 64 ≤ 64 + k ∧ 64 + k < 64 + (k + 1)) = true := by simp
    simp only [bv, this]; simp
  · by_cases e2 : j = k
    · subst e2
      have : decide (j < j + 1 ∨ 64 ≤ j ∧ j < 64 + (j + 1)) = true := by simp
      simp only [bv, this]; simp
    · have : decide (j < k + 1 ∨ 64 ≤ j ∧ j < 64 + (k + 1)) = decide (j < k ∨ 64 ≤ j ∧ j < 64 + k) := by
        rw [decide_eq_decide]; omega
      simp only [bv, this]; simp [e1, e2]
theorem Z128_get (j : Nat) (hj : j < 128) (f : Nat → Bool) (hf : f j = false) : Z128[j]? = some (bv f j) := by
  unfold Z128
  rw [List.getElem?_toArray, row_get 128 _ j hj]
  simp [bv, hf]
def bwK (f : Nat → Bool) : Nat → BitVec 64
  | 0 => 0#64
  | k + 1 => if f k then bwK f k ||| BitVec.twoPow 64 k else bwK f k
theorem bwK_bit (f : Nat → Bool) (k : Nat) (hk : k ≤ 64) (j : Nat) : (bwK f k).getLsbD j = (decide (j < k) && f j) := by
  induction k with
  | zero => simp [bwK]
  | succ k ih =>
    simp only [bwK]
    split
    · rename_i h
      rw [BitVec.getLsbD_or, ih (by omega), BitVec.getLsbD_twoPow]
      by_cases e : j = k
      · subst e; simp [h]; omega
      · have e2 : ¬ k = j := fun h => e h.symm
        have e3 : decide (j < k + 1) = decide (j < k) := by rw [decide_eq_decide]; omega
        simp [e2, e3]
    · rename_i h
      rw [ih (by omega)]
      by_cases e : j = k
      · subst e; simp [h]
      · have e3 : decide (j < k + 1) = decide (j < k) := by rw [decide_eq_decide]; omega
        simp [e3]
def fbK (f : Nat → Bool) (k : Nat) : BitVec 128 := jn (bwK f k) (bwK (fun j => f (64 + j)) k)
def fb (f : Nat → Bool) : BitVec 128 := fbK f 64
theorem fb_tb (f : Nat → Bool) (j : Nat) (hj : j < 128) : tb (fb f) j = f j := by
  unfold tb fb fbK
  by_cases h : j < 64
  · rw [← lo_bit _ j h, lo_jn, bwK_bit _ _ (Nat.le_refl _)]; simp [h]
  · rw [show j = 64 + (j - 64) from by omega, ← hi_bit _ (j - 64) (by omega), hi_jn, bwK_bit _ _ (Nat.le_refl _)]
    have : j - 64 < 64 := by omega
    simp [this]
theorem fb_eq {f : Nat → Bool} {x : BitVec 128} (h : ∀ j, j < 128 → f j = tb x j) : fb f = x := by
  apply BitVec.eq_of_getLsbD_eq
  intro i hi
  rw [show (fb f).getLsbD i = tb (fb f) i from rfl, fb_tb f i hi, h i hi]; rfl
def FromAt (B : Nat) (w : World) (f : Nat → Bool) (k : Nat) (wr : World) : Prop :=
  RowAt B 128 (bv f) wr ∧ HalfAt (B + 1) 0#128 wr ∧ HalfAt (B + 1 + 1) (fbK f k) wr ∧ Below B w wr
theorem or64 (x : BitVec 64) (k : Nat) (hk : k < 64) : bits .or .u64 (x.toNat : Int) (IntKind.u64.wrap (2 ^ k)) = ((x ||| BitVec.twoPow 64 k).toNat : Int) := by
  have hp : 2 ^ k < 18446744073709551616 := Nat.pow_lt_pow_right (by decide) (show k < 64 from hk)
  have e : IntKind.u64.wrap (2 ^ k) = ((2 ^ k : Nat) : Int) := by
    rw [IntKind.wrap_u64, show ((2 : Int) ^ k) = ((2 ^ k : Nat) : Int) from by simp]
    exact Int.emod_eq_of_lt (Int.natCast_nonneg _) (Int.ofNat_lt.2 hp)
  rw [e, bits_or_u64_nat _ _ x.isLt hp, BitVec.toNat_or, BitVec.toNat_twoPow, Nat.mod_eq_of_lt (by omega)]
theorem fbK_lo (f : Nat → Bool) (k : Nat) : lo (fbK f k) = bwK f k := lo_jn _ _
theorem fbK_hi (f : Nat → Bool) (k : Nat) : hi (fbK f k) = bwK (fun j => f (64 + j)) k := hi_jn _ _
theorem or_lo (f : Nat → Bool) (k : Nat) (hk : k < 64) (h : f k = true) : bits .or .u64 ((lo (fbK f k)).toNat : Int) (IntKind.u64.wrap (2 ^ k)) = ((lo (fbK f (k + 1))).toNat : Int) := by
  rw [fbK_lo, fbK_lo, or64 _ k hk]; simp only [bwK, h, if_true]
theorem or_hi (f : Nat → Bool) (k : Nat) (hk : k < 64) (h : f (64 + k) = true) : bits .or .u64 ((hi (fbK f k)).toNat : Int) (IntKind.u64.wrap (2 ^ k)) = ((hi (fbK f (k + 1))).toNat : Int) := by
  rw [fbK_hi, fbK_hi, or64 _ k hk]; simp only [bwK, h, if_true]
theorem no_lo (f : Nat → Bool) (k : Nat) (h : f k = false) : lo (fbK f k) = lo (fbK f (k + 1)) := by
  rw [fbK_lo, fbK_lo]; simp [bwK, h]
theorem no_hi (f : Nat → Bool) (k : Nat) (h : f (64 + k) = false) : hi (fbK f k) = hi (fbK f (k + 1)) := by
  rw [fbK_hi, fbK_hi]; simp [bwK, h]
theorem HalfAt.setLo {b : Nat} {x y : BitVec 128} {X : World} (h : HalfAt b x X) (e : hi x = hi y) : HalfAt b y (X.setCell ⟨b, 0, none⟩ (.int .u64 ((lo y).toNat : Int))) := by
  obtain ⟨h1, h2, h3, h4⟩ := h
  refine ⟨?_, ?_, ?_, ?_⟩
  all_goals simp [go_sem, h1, h2, h3, h4, e]
theorem HalfAt.setHi {b : Nat} {x y : BitVec 128} {X : World} (h : HalfAt b x X) (e : lo x = lo y) : HalfAt b y (X.setCell ⟨b, 1, none⟩ (.int .u64 ((hi y).toNat : Int))) := by
  obtain ⟨h1, h2, h3, h4⟩ := h
  refine ⟨?_, ?_, ?_, ?_⟩
  all_goals simp [go_sem, h1, h2, h3, h4, e]
theorem HalfAt.same {b : Nat} {x y : BitVec 128} {X : World} (h : HalfAt b x X) (e1 : lo x = lo y) (e2 : hi x = hi y) : HalfAt b y X := by
  rw [half_ext e1 e2] at h; exact h
end Go.Proofs.YtfpfgbhdehbggaaGreatDoor
