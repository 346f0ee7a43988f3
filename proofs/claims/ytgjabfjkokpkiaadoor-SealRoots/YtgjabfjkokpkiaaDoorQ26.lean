/-
  What each function on boxes answers, the program's and the document's: for every byte, in every world, which it leaves as it is. What Double answers, and that what must come of every program does: in every world, of which nothing that was there turns.
-/
import Derived.Test.YtgjabfjkokpkiaaDoorQ25
namespace Go.Proofs.YtgjabfjkokpkiaaDoor
set_option maxRecDepth 20000
open Go.RowKit
def rotB (a : BitVec 8) (n : Nat) : BitVec 8 := a.rotateLeft n
theorem rot1 : ∀ a : BitVec 8, bits BinOp.or IntKind.u8 (↑a.toNat * 2 % 256) (↑a.toNat / 128) = ↑(rotB a 1).toNat := by decide +kernel
theorem rot2 : ∀ a : BitVec 8, bits BinOp.or IntKind.u8 (↑a.toNat * 4 % 256) (↑a.toNat / 64) = ↑(rotB a 2).toNat := by decide +kernel
theorem rot3 : ∀ a : BitVec 8, bits BinOp.or IntKind.u8 (↑a.toNat * 8 % 256) (↑a.toNat / 32) = ↑(rotB a 3).toNat := by decide +kernel
theorem rot4 : ∀ a : BitVec 8, bits BinOp.or IntKind.u8 (↑a.toNat * 16 % 256) (↑a.toNat / 16) = ↑(rotB a 4).toNat := by decide +kernel
theorem rot6 : ∀ a : BitVec 8, bits BinOp.or IntKind.u8 (↑a.toNat * 64 % 256) (↑a.toNat / 4) = ↑(rotB a 6).toNat := by decide +kernel
theorem rot_anyA (a : BitVec 8) (n : Int) (hn : n = 1 ∨ n = 2 ∨ n = 3 ∨ n = 4 ∨ n = 6) (w : World) :
    Calls Tryd.prog 107 #[.int .u8 (a.toNat : Int), .int .i64 n] w fun e w' => e = .returned (.int .u8 ((rotB a n.toNat).toNat:Int)) ∧ w' = w := by
  have ha := a.isLt
  have e1 : bits BinOp.and IntKind.u64 1 7 = 1 := by decide +kernel
  have e2 : bits BinOp.and IntKind.u64 2 7 = 2 := by decide +kernel
  have e3 : bits BinOp.and IntKind.u64 3 7 = 3 := by decide +kernel
  have e4 : bits BinOp.and IntKind.u64 4 7 = 4 := by decide +kernel
  have e6 : bits BinOp.and IntKind.u64 6 7 = 6 := by decide +kernel
  rcases hn with rfl | rfl | rfl | rfl | rfl
  all_goals
    go_enter Tryd.func107, Tryd.ntmps107
    go_wp2
    go_ret
    exact ⟨ret_int (by first | exact rot1 a | exact rot2 a | exact rot3 a | exact rot4 a | exact rot6 a), rfl⟩
theorem turn_anyA (a : BitVec 8) (n : Int) (hn : n = 1 ∨ n = 2 ∨ n = 3 ∨ n = 4 ∨ n = 6) (w : World) :
    Calls Tryd.prog 104 #[.int .u8 (a.toNat : Int), .int .i64 n] w fun e w' => e = .returned (.int .u8 ((rotB a n.toNat).toNat:Int)) ∧ w' = w := by
  go_enter Tryd.func104, Tryd.ntmps104
  go_wp2_with (go_at_call 107; refine (rot_anyA _ _ hn _).mono ?_; rintro e w' ⟨rfl, rfl⟩)
  go_ret
  exact ⟨rfl, rfl⟩
def turnB (b : BitVec 8) : BitVec 8 := b ^^^ rotB b 1 ^^^ rotB b 2 ^^^ rotB b 3 ^^^ rotB b 4 ^^^ 99#8
def unturnB (b : BitVec 8) : BitVec 8 := rotB b 1 ^^^ rotB b 3 ^^^ rotB b 6 ^^^ 5#8
def boxB (a : BitVec 8) : BitVec 8 := turnB (iB a)
def unboxB (a : BitVec 8) : BitVec 8 := iB (unturnB a)
theorem xor8_lit (x : BitVec 8) (n : Nat) (hn : n < 256) : bits .xor .u8 (x.toNat : Int) (n : Int) = ((x ^^^ BitVec.ofNat 8 n).toNat : Int) := by
  rw [u8_xor_nat _ _ x.isLt hn, BitVec.toNat_xor, BitVec.toNat_ofNat, Nat.mod_eq_of_lt hn]
theorem box_any (a : BitVec 8) (w : World) :
    Calls Tryd.prog 99 #[.int .u8 (a.toNat : Int)] w fun e w' => e = .returned (.int .u8 ((boxB a).toNat:Int)) ∧ w' = w := by
  go_enter Tryd.func99, Tryd.ntmps99
  go_wp2_with (first | (go_at_call 103; refine (inv_any _ _).mono ?_; rintro e w' ⟨rfl, rfl⟩) | (go_at_call 104; refine (turn_anyA _ _ (by omega) _).mono ?_; rintro e w' ⟨rfl, rfl⟩))
  go_ret
  refine ⟨ret_int ?_, rfl⟩
  rw [xor8, xor8, xor8, xor8]
  exact xor8_lit _ 99 (by decide)
end Go.Proofs.YtgjabfjkokpkiaaDoor
namespace Go.Proofs.YtgjabfjkokpkiaaDoor
set_option maxRecDepth 20000
open Go.RowKit
def lo (x : BitVec 128) : BitVec 64 := x.setWidth 64
def hi (x : BitVec 128) : BitVec 64 := x.extractLsb' 64 64
def jn (l h : BitVec 64) : BitVec 128 := h ++ l
theorem lo_bit (x : BitVec 128) (i : Nat) (h : i < 64) : (lo x).getLsbD i = x.getLsbD i := by
  simp [lo, h]
theorem hi_bit (x : BitVec 128) (i : Nat) (h : i < 64) : (hi x).getLsbD i = x.getLsbD (64 + i) := by
  simp [hi, h]
theorem lo_jn (l h : BitVec 64) : lo (jn l h) = l := by
  apply BitVec.eq_of_getLsbD_eq; intro i hi; rw [lo_bit _ _ hi]; have e := BitVec.getLsbD_append (x := h) (y := l) (i := i); rw [if_pos hi] at e; exact e
theorem hi_jn (l h : BitVec 64) : hi (jn l h) = h := by
  apply BitVec.eq_of_getLsbD_eq; intro i hi; rw [hi_bit _ _ hi]; have e := BitVec.getLsbD_append (x := h) (y := l) (i := 64 + i); rw [if_neg (by omega), Nat.add_sub_cancel_left] at e; exact e
theorem lo_xor (x y : BitVec 128) : lo (x ^^^ y) = lo x ^^^ lo y := by
  apply BitVec.eq_of_getLsbD_eq; intro i hi; simp [lo_bit _ _ hi]
theorem hi_xor (x y : BitVec 128) : hi (x ^^^ y) = hi x ^^^ hi y := by
  apply BitVec.eq_of_getLsbD_eq; intro i hi; simp [hi_bit _ _ hi]
theorem shl64 (a : BitVec 64) : IntKind.u64.wrap ((a.toNat : Int) * 2) = ((a <<< 1).toNat : Int) := by
  rw [IntKind.wrap_u64, BitVec.toNat_shiftLeft, Nat.shiftLeft_eq]; omega
theorem shr64 (a : BitVec 64) : ((a.toNat : Int) / (9223372036854775808 : Int)) = ((a >>> 63).toNat : Int) := by
  rw [BitVec.toNat_ushiftRight, Nat.shiftRight_eq_div_pow]; omega
theorem top64 (a : BitVec 64) : a >>> 63 = if a.getLsbD 63 then 1#64 else 0#64 := by
  apply BitVec.eq_of_getLsbD_eq
  intro i hi
  rw [BitVec.getLsbD_ushiftRight]
  by_cases h : i = 0
  · subst h; cases a.getLsbD 63 <;> simp
  · rw [BitVec.getLsbD_of_ge a _ (by omega)]
    split <;> simp [h]
theorem rest64 (a : BitVec 64) : ((a.toNat : Int) / (9223372036854775808 : Int) * (135 : Int)) = (((a >>> 63) * 135#64).toNat : Int) := by
  rw [shr64, top64]
  split <;> rfl
theorem lo_dX (x : BitVec 128) : lo (dX 135#128 x) = (lo x <<< 1) ^^^ ((hi x >>> 63) * 135#64) := by
  unfold dX
  rw [lo_xor, top64, hi_bit x 63 (by omega), BitVec.msb_eq_getLsbD_last]
  congr 1
  · apply BitVec.eq_of_getLsbD_eq; intro i hi
    rw [lo_bit _ _ hi, BitVec.getLsbD_shiftLeft, BitVec.getLsbD_shiftLeft]
    by_cases h : i < 1
    · simp [h]
    · have h3 : i < 128 := by omega
      rw [lo_bit x (i - 1) (by omega)]; simp [hi, h, h3]
  · show lo (if x.getLsbD 127 = true then 135#128 else 0#128) = _
    cases x.getLsbD 127 <;> rfl
theorem hi_dX (x : BitVec 128) : hi (dX 135#128 x) = (hi x <<< 1) ^^^ (lo x >>> 63) := by
  unfold dX
  rw [hi_xor]
  have h0 : hi (if x.msb = true then 135#128 else 0#128) = 0#64 := by cases x.msb <;> rfl
  rw [h0, BitVec.xor_zero, top64, lo_bit x 63 (by omega)]
  apply BitVec.eq_of_getLsbD_eq; intro i hi
  rw [hi_bit _ _ hi, BitVec.getLsbD_shiftLeft, BitVec.getLsbD_xor, BitVec.getLsbD_shiftLeft]
  by_cases h : i = 0
  · subst h; cases x.getLsbD 63 <;> simp
  · rw [hi_bit x (i - 1) (by omega), show 64 + i - 1 = 64 + (i - 1) from by omega]
    have e : (if x.getLsbD 63 = true then 1#64 else 0#64).getLsbD i = false := by cases x.getLsbD 63 <;> simp [h]
    have h3 : ¬ i < 1 := by omega
    have h4 : 64 + i < 128 := by omega
    have h5 : ¬ 64 + i < 1 := by omega
    rw [e]; simp [hi, h3, h4, h5]
theorem double_any (x : BitVec 128) (w : World) :
    Calls Tryd.prog 63 #[.agg #[.int .u64 ((lo x).toNat : Int), .int .u64 ((hi x).toNat : Int)]] w fun e w' => e = .returned (.agg #[.int .u64 ((lo (dX 135#128 x)).toNat : Int), .int .u64 ((hi (dX 135#128 x)).toNat : Int)]) ∧ Below w.heap.size w w' := by
  have h1 := (lo x).isLt
  have h2 := (hi x).isLt
  go_enter Tryd.func63, Tryd.ntmps63
  go_wp2
  rw [shl64 (lo x), shl64 (hi x), rest64 (hi x), shr64 (lo x), xor64, xor64, ← lo_dX, ← hi_dX]
  refine bodyPost_ret (v := .agg #[.int .u64 ((lo (dX 135#128 x)).toNat : Int), .int .u64 ((hi (dX 135#128 x)).toNat : Int)]) (by simp [results, Tryd.results63, go_sem]) rfl ⟨rfl, ?_⟩
  exact ((Below.refl _ _).alloc (Nat.le_refl _) _).alloc (by simp) _
end Go.Proofs.YtgjabfjkokpkiaaDoor
