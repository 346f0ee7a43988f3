/-
  What Double answers, and that what must come of every program does: in every world, of which nothing that was there turns.
-/
import Derived.Test.YtkoodgfadedeoabBoxes
namespace Go.Proofs.Ytkoodgfadedeoab
open Go.RowKit
/-- an element's two words -/
def lo (x : BitVec 128) : BitVec 64 := x.setWidth 64
def hi (x : BitVec 128) : BitVec 64 := x.extractLsb' 64 64
def jn (l h : BitVec 64) : BitVec 128 := h ++ l
theorem lo_bit (x : BitVec 128) (i : Nat) (h : i < 64) : (lo x).getLsbD i = x.getLsbD i := by
  simp [lo, h]
theorem hi_bit (x : BitVec 128) (i : Nat) (h : i < 64) : (hi x).getLsbD i = x.getLsbD (64 + i) := by
  simp [hi, h]
theorem lo_jn (l h : BitVec 64) : lo (jn l h) = l := by
  apply BitVec.eq_of_getLsbD_eq; intro i hi; rw [lo_bit _ _ hi]; have e := BitVec.getLsbD_append (x := h) (y := l) (i := i); rw [if_pos hi] at e; exact e
theorem hi_jn (l h : BitVec 64) : hi (jn l h) = h := by
  apply BitVec.eq_of_getLsbD_eq; intro i hi; rw [hi_bit _ _ hi]; have e := BitVec.getLsbD_append (x := h) (y := l) (i := 64 + i); rw [if_neg (by omega), Nat.add_sub_cancel_left] at e; exact e
theorem half_ext {x y : BitVec 128} (h1 : lo x = lo y) (h2 : hi x = hi y) : x = y := by
  apply BitVec.eq_of_getLsbD_eq
  intro i hi
  by_cases h : i < 64
  · rw [← lo_bit x i h, ← lo_bit y i h, h1]
  · have e : i = 64 + (i - 64) := by omega
    rw [e, ← hi_bit x (i - 64) (by omega), ← hi_bit y (i - 64) (by omega), h2]
theorem lo_xor (x y : BitVec 128) : lo (x ^^^ y) = lo x ^^^ lo y := by
  apply BitVec.eq_of_getLsbD_eq; intro i hi; simp [lo_bit _ _ hi]
theorem hi_xor (x y : BitVec 128) : hi (x ^^^ y) = hi x ^^^ hi y := by
  apply BitVec.eq_of_getLsbD_eq; intro i hi; simp [hi_bit _ _ hi]
theorem shl64 (a : BitVec 64) : IntKind.u64.wrap ((a.toNat : Int) * 2) = ((a <<< 1).toNat : Int) := by
  rw [IntKind.wrap_u64, BitVec.toNat_shiftLeft, Nat.shiftLeft_eq]; omega
theorem shr64 (a : BitVec 64) : ((a.toNat : Int) / (9223372036854775808 : Int)) = ((a >>> 63).toNat : Int) := by
  rw [BitVec.toNat_ushiftRight, Nat.shiftRight_eq_div_pow]; omega
theorem top64 (a : BitVec 64) : a >>> 63 = if a.getLsbD 63 then 1#64 else 0#64 := by
  apply BitVec.eq_of_getLsbD_eq
  intro i hi
  rw [BitVec.getLsbD_ushiftRight]
  by_cases h : i = 0
  · subst h; cases a.getLsbD 63 <;> simp
  · rw [BitVec.getLsbD_of_ge a _ (by omega)]
    split <;> simp [h]
theorem rest64 (a : BitVec 64) : ((a.toNat : Int) / (9223372036854775808 : Int) * (135 : Int)) = (((a >>> 63) * 135#64).toNat : Int) := by
  rw [shr64, top64]
  split <;> rfl
theorem lo_dX (x : BitVec 128) : lo (dX 135#128 x) = (lo x <<< 1) ^^^ ((hi x >>> 63) * 135#64) := by
  unfold dX
  rw [lo_xor, top64, hi_bit x 63 (by omega), BitVec.msb_eq_getLsbD_last]
  congr 1
  · apply BitVec.eq_of_getLsbD_eq; intro i hi
    rw [lo_bit _ _ hi, BitVec.getLsbD_shiftLeft, BitVec.getLsbD_shiftLeft]
    by_cases h : i < 1
    · simp [h]
    · have h3 : i < 128 := by omega
      rw [lo_bit x (i - 1) (by omega)]; simp [hi, h, h3]
  · show lo (if x.getLsbD 127 = true then 135#128 else 0#128) = _
    cases x.getLsbD 127 <;> rfl
theorem hi_dX (x : BitVec 128) : hi (dX 135#128 x) = (hi x <<< 1) ^^^ (lo x >>> 63) := by
  unfold dX
  rw [hi_xor]
  have h0 : hi (if x.msb = true then 135#128 else 0#128) = 0#64 := by cases x.msb <;> rfl
  rw [h0, BitVec.xor_zero, top64, lo_bit x 63 (by omega)]
  apply BitVec.eq_of_getLsbD_eq; intro i hi
  rw [hi_bit _ _ hi, BitVec.getLsbD_shiftLeft, BitVec.getLsbD_xor, BitVec.getLsbD_shiftLeft]
  by_cases h : i = 0
  · subst h; cases x.getLsbD 63 <;> simp
  · rw [hi_bit x (i - 1) (by omega), show 64 + i - 1 = 64 + (i - 1) from by omega]
    have e : (if x.getLsbD 63 = true then 1#64 else 0#64).getLsbD i = false := by cases x.getLsbD 63 <;> simp [h]
    have h3 : ¬ i < 1 := by omega
    have h4 : 64 + i < 128 := by omega
    have h5 : ¬ 64 + i < 1 := by omega
    rw [e]; simp [hi, h3, h4, h5]
theorem double_any (x : BitVec 128) (w : World) :
    Calls Try.prog 15 #[.agg #[.int .u64 ((lo x).toNat : Int), .int .u64 ((hi x).toNat : Int)]] w fun e w' => e = .returned (.agg #[.int .u64 ((lo (dX 135#128 x)).toNat : Int), .int .u64 ((hi (dX 135#128 x)).toNat : Int)]) ∧ Below w.heap.size w w' := by
  have h1 := (lo x).isLt
  have h2 := (hi x).isLt
  go_enter Try.func15, Try.ntmps15
  go_wp2
  rw [shl64 (lo x), shl64 (hi x), rest64 (hi x), shr64 (lo x), xor64, xor64, ← lo_dX, ← hi_dX]
  refine bodyPost_ret (v := .agg #[.int .u64 ((lo (dX 135#128 x)).toNat : Int), .int .u64 ((hi (dX 135#128 x)).toNat : Int)]) (by simp [results, Try.results15, go_sem]) rfl ⟨rfl, ?_⟩
  exact ((Below.refl _ _).alloc (Nat.le_refl _) _).alloc (by simp) _
theorem mul_lives (w : World) : Calls Try.prog 30 #[.int .u8 87, .int .u8 131] w fun e w' => e = .returned (.int .u8 193) ∧ w' = w := by
  have h := mul_any 87#8 131#8 w
  rw [show ((mB 87#8 131#8).toNat : Int) = 193 from by decide +kernel] at h
  exact h
theorem box_lives (w : World) : Calls Try.prog 29 #[.int .u8 83] w fun e w' => e = .returned (.int .u8 237) ∧ w' = w := by
  have h := box_any 83#8 w
  rw [show ((boxB 83#8).toNat : Int) = 237 from by decide +kernel] at h
  exact h
theorem double_lives (w : World) : Calls Try.prog 15 #[.agg #[.int .u64 0, .int .u64 9223372036854775808]] w fun e w' => e = .returned (.agg #[.int .u64 135, .int .u64 0]) ∧ Below w.heap.size w w' := by
  have h := double_any (BitVec.twoPow 128 127) w
  rw [show ((lo (dX 135#128 (BitVec.twoPow 128 127))).toNat : Int) = 135 from by decide +kernel, show ((hi (dX 135#128 (BitVec.twoPow 128 127))).toNat : Int) = 0 from by decide +kernel, show ((lo (BitVec.twoPow 128 127)).toNat : Int) = 0 from by decide +kernel, show ((hi (BitVec.twoPow 128 127)).toNat : Int) = 9223372036854775808 from by decide +kernel] at h
  exact h
end Go.Proofs.Ytkoodgfadedeoab
