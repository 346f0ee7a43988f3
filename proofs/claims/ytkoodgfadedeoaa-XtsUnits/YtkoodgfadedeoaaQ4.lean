/-
  What Double answers, and that what must come of every program does: in every world, of which nothing that was there turns. What Times answers: for every two tweaks, in every world, of which nothing that was there turns.
-/
import Derived.Test.YtkoodgfadedeoaaQ3
namespace Go.Proofs.Ytkoodgfadedeoaa
open Go.RowKit
/-- an element's two words -/
def lo (x : BitVec 128) : BitVec 64 := x.setWidth 64
def hi (x : BitVec 128) : BitVec 64 := x.extractLsb' 64 64
def jn (l h : BitVec 64) : BitVec 128 := h ++ l
theorem lo_bit (x : BitVec 128) (i : Nat) (h : i < 64) : (lo x).getLsbD i = x.getLsbD i := by
  simp [lo, h]
theorem hi_bit (x : BitVec 128) (i : Nat) (h : i < 64) : (hi x).getLsbD i = x.getLsbD (64 + i) := by
  simp [hi, h]
theorem lo_jn (l h : BitVec 64) : lo (jn l h) = l := by
  apply BitVec.eq_of_getLsbD_eq; intro i hi; rw [lo_bit _ _ hi]; have e := BitVec.getLsbD_append (x := h) (y := l) (i := i); rw [if_pos hi] at e; exact e
theorem hi_jn (l h : BitVec 64) : hi (jn l h) = h := by
  apply BitVec.eq_of_getLsbD_eq; intro i hi; rw [hi_bit _ _ hi]; have e := BitVec.getLsbD_append (x := h) (y := l) (i := 64 + i); rw [if_neg (by omega), Nat.add_sub_cancel_left] at e; exact e
theorem half_ext {x y : BitVec 128} (h1 : lo x = lo y) (h2 : hi x = hi y) : x = y := by
  apply BitVec.eq_of_getLsbD_eq
  intro i hi
  by_cases h : i < 64
  · rw [← lo_bit x i h, ← lo_bit y i h, h1]
  · have e : i = 64 + (i - 64) := by omega
    rw [e, ← hi_bit x (i - 64) (by omega), ← hi_bit y (i - 64) (by omega), h2]
theorem lo_xor (x y : BitVec 128) : lo (x ^^^ y) = lo x ^^^ lo y := by
  apply BitVec.eq_of_getLsbD_eq; intro i hi; simp [lo_bit _ _ hi]
theorem hi_xor (x y : BitVec 128) : hi (x ^^^ y) = hi x ^^^ hi y := by
  apply BitVec.eq_of_getLsbD_eq; intro i hi; simp [hi_bit _ _ hi]
theorem shl64 (a : BitVec 64) : IntKind.u64.wrap ((a.toNat : Int) * 2) = ((a <<< 1).toNat : Int) := by
  rw [IntKind.wrap_u64, BitVec.toNat_shiftLeft, Nat.shiftLeft_eq]; omega
theorem shr64 (a : BitVec 64) : ((a.toNat : Int) / (9223372036854775808 : Int)) = ((a >>> 63).toNat : Int) := by
  rw [BitVec.toNat_ushiftRight, Nat.shiftRight_eq_div_pow]; omega
theorem top64 (a : BitVec 64) : a >>> 63 = if a.getLsbD 63 then 1#64 else 0#64 := by
  apply BitVec.eq_of_getLsbD_eq
  intro i hi
  rw [BitVec.getLsbD_ushiftRight]
  by_cases h : i = 0
  · subst h; cases a.getLsbD 63 <;> simp
  · rw [BitVec.getLsbD_of_ge a _ (by omega)]
    split <;> simp [h]
theorem rest64 (a : BitVec 64) : ((a.toNat : Int) / (9223372036854775808 : Int) * (135 : Int)) = (((a >>> 63) * 135#64).toNat : Int) := by
  rw [shr64, top64]
  split <;> rfl
theorem lo_dX (x : BitVec 128) : lo (dX 135#128 x) = (lo x <<< 1) ^^^ ((hi x >>> 63) * 135#64) := by
  unfold dX
  rw [lo_xor, top64, hi_bit x 63 (by omega), BitVec.msb_eq_getLsbD_last]
  congr 1
  · apply BitVec.eq_of_getLsbD_eq; intro i hi
    rw [lo_bit _ _ hi, BitVec.getLsbD_shiftLeft, BitVec.getLsbD_shiftLeft]
    by_cases h : i < 1
    · simp [h]
    · have h3 : i < 128 := by omega
      rw [lo_bit x (i - 1) (by omega)]; simp [hi, h, h3]
  · show lo (if x.getLsbD 127 = true then 135#128 else 0#128) = _
    cases x.getLsbD 127 <;> rfl
theorem hi_dX (x : BitVec 128) : hi (dX 135#128 x) = (hi x <<< 1) ^^^ (lo x >>> 63) := by
  unfold dX
  rw [hi_xor]
  have h0 : hi (if x.msb = true then 135#128 else 0#128) = 0#64 := by cases x.msb <;> rfl
  rw [h0, BitVec.xor_zero, top64, lo_bit x 63 (by omega)]
  apply BitVec.eq_of_getLsbD_eq; intro i hi
  rw [hi_bit _ _ hi, BitVec.getLsbD_shiftLeft, BitVec.getLsbD_xor, BitVec.getLsbD_shiftLeft]
  by_cases h : i = 0
  · subst h; cases x.getLsbD 63 <;> simp
  · rw [hi_bit x (i - 1) (by omega), show 64 + i - 1 = 64 + (i - 1) from by omega]
    have e : (if x.getLsbD 63 = true then 1#64 else 0#64).getLsbD i = false := by cases x.getLsbD 63 <;> simp [h]
    have h3 : ¬ i < 1 := by omega
    have h4 : 64 + i < 128 := by omega
    have h5 : ¬ 64 + i < 1 := by omega
    rw [e]; simp [hi, h3, h4, h5]
theorem double_any (x : BitVec 128) (w : World) :
    Calls Try.prog 44 #[.agg #[.int .u64 ((lo x).toNat : Int), .int .u64 ((hi x).toNat : Int)]] w fun e w' => e = .returned (.agg #[.int .u64 ((lo (dX 135#128 x)).toNat : Int), .int .u64 ((hi (dX 135#128 x)).toNat : Int)]) ∧ Below w.heap.size w w' := by
  have h1 := (lo x).isLt
  have h2 := (hi x).isLt
  go_enter Try.func44, Try.ntmps44
  go_wp2
  rw [shl64 (lo x), shl64 (hi x), rest64 (hi x), shr64 (lo x), xor64, xor64, ← lo_dX, ← hi_dX]
  refine bodyPost_ret (v := .agg #[.int .u64 ((lo (dX 135#128 x)).toNat : Int), .int .u64 ((hi (dX 135#128 x)).toNat : Int)]) (by simp [results, Try.results44, go_sem]) rfl ⟨rfl, ?_⟩
  exact ((Below.refl _ _).alloc (Nat.le_refl _) _).alloc (by simp) _
theorem mul_lives (w : World) : Calls Try.prog 53 #[.int .u8 87, .int .u8 131] w fun e w' => e = .returned (.int .u8 193) ∧ w' = w := by
  have h := mul_any 87#8 131#8 w
  rw [show ((mB 87#8 131#8).toNat : Int) = 193 from by decide +kernel] at h
  exact h
theorem box_lives (w : World) : Calls Try.prog 52 #[.int .u8 83] w fun e w' => e = .returned (.int .u8 237) ∧ w' = w := by
  have h := box_any 83#8 w
  rw [show ((boxB 83#8).toNat : Int) = 237 from by decide +kernel] at h
  exact h
theorem double_lives (w : World) : Calls Try.prog 44 #[.agg #[.int .u64 0, .int .u64 9223372036854775808]] w fun e w' => e = .returned (.agg #[.int .u64 135, .int .u64 0]) ∧ Below w.heap.size w w' := by
  have h := double_any (BitVec.twoPow 128 127) w
  rw [show ((lo (dX 135#128 (BitVec.twoPow 128 127))).toNat : Int) = 135 from by decide +kernel, show ((hi (dX 135#128 (BitVec.twoPow 128 127))).toNat : Int) = 0 from by decide +kernel, show ((lo (BitVec.twoPow 128 127)).toNat : Int) = 0 from by decide +kernel, show ((hi (BitVec.twoPow 128 127)).toNat : Int) = 9223372036854775808 from by decide +kernel] at h
  exact h
end Go.Proofs.Ytkoodgfadedeoaa
namespace Go.Proofs.Ytkoodgfadedeoaa
open Go.RowKit
def tT (a b : BitVec 128) : BitVec 128 := tK 135#128 a b 128
/-- a block that holds a tweak and may be written -/
def HalfAt (b : Nat) (x : BitVec 128) (wr : World) : Prop :=
  wr.cell? ⟨b, 0, none⟩ = some (.int .u64 ((lo x).toNat : Int)) ∧ wr.cell? ⟨b, 1, none⟩ = some (.int .u64 ((hi x).toNat : Int)) ∧ wr.frozen? ⟨b, 0, none⟩ = false ∧ wr.frozen? ⟨b, 1, none⟩ = false
theorem HalfAt.carry {b : Nat} {x : BitVec 128} {X w' : World} (h : HalfAt b x X) (hB : Below X.heap.size X w') (hb : b < X.heap.size) : HalfAt b x w' :=
  ⟨(hB.cell (p := ⟨b, 0, none⟩) hb).trans h.1, (hB.cell (p := ⟨b, 1, none⟩) hb).trans h.2.1, (hB.frozen (p := ⟨b, 0, none⟩) hb).trans h.2.2.1, (hB.frozen (p := ⟨b, 1, none⟩) hb).trans h.2.2.2⟩
theorem HalfAt.other {b c : Nat} {x : BitVec 128} {X : World} (h : HalfAt b x X) (o : Nat) (v : Value) (hb : b ≠ c) : HalfAt b x (X.setCell ⟨c, o, none⟩ v) := by
  obtain ⟨h1, h2, h3, h4⟩ := h
  refine ⟨?_, ?_, ?_, ?_⟩
  all_goals simp [go_sem, h1, h2, h3, h4]
theorem HalfAt.set {b : Nat} {x : BitVec 128} (y : BitVec 128) {X : World} (h : HalfAt b x X) : HalfAt b y ((X.setCell ⟨b, 0, none⟩ (.int .u64 ((lo y).toNat : Int))).setCell ⟨b, 1, none⟩ (.int .u64 ((hi y).toNat : Int))) := by
  obtain ⟨h1, h2, h3, h4⟩ := h
  refine ⟨?_, ?_, ?_, ?_⟩
  all_goals simp [go_sem, h1, h2, h3, h4]
/-- where Times stands: a doubled so often, the sum so far -/
def TimesAt (B : Nat) (w : World) (x s : BitVec 128) (wr : World) : Prop :=
  HalfAt B x wr ∧ HalfAt (B + 1 + 1 + 1) s wr ∧ HalfAt (B + 1 + 1) 0#128 wr ∧ Below B w wr ∧ B + 4 ≤ wr.heap.size
theorem TimesAt.carry {B : Nat} {w X w' : World} {x s : BitVec 128} (h : TimesAt B w x s X) (hB : Below X.heap.size X w') : TimesAt B w x s w' := by
  obtain ⟨h1, h2, h3, h4, h5⟩ := h
  exact ⟨h1.carry hB (by omega), h2.carry hB (by omega), h3.carry hB (by omega), h4.trans (hB.mono (by omega)), Nat.le_trans h5 hB.size⟩
theorem TimesAt.setX {B : Nat} {w X : World} {x s : BitVec 128} (y : BitVec 128) (h : TimesAt B w x s X) : TimesAt B w y s ((X.setCell ⟨B, 0, none⟩ (.int .u64 ((lo y).toNat : Int))).setCell ⟨B, 1, none⟩ (.int .u64 ((hi y).toNat : Int))) := by
  obtain ⟨h1, h2, h3, h4, h5⟩ := h
  exact ⟨h1.set y, (h2.other _ _ (by omega)).other _ _ (by omega), (h3.other _ _ (by omega)).other _ _ (by omega), (h4.setCell (by simp) _).setCell (by simp) _, by simpa using h5⟩
theorem TimesAt.setS {B : Nat} {w X : World} {x s : BitVec 128} (y : BitVec 128) (h : TimesAt B w x s X) : TimesAt B w x y ((X.setCell ⟨B + 1 + 1 + 1, 0, none⟩ (.int .u64 ((lo y).toNat : Int))).setCell ⟨B + 1 + 1 + 1, 1, none⟩ (.int .u64 ((hi y).toNat : Int))) := by
  obtain ⟨h1, h2, h3, h4, h5⟩ := h
  exact ⟨(h1.other _ _ (by omega)).other _ _ (by omega), h2.set y, (h3.other _ _ (by omega)).other _ _ (by omega), (h4.setCell (by simp; omega) _).setCell (by simp; omega) _, by simpa using h5⟩
def xT (a b : BitVec 128) : BitVec 128 := a ^^^ b
theorem lo_xT (a b : BitVec 128) : bits .xor .u64 ((lo a).toNat : Int) ((lo b).toNat : Int) = ((lo (xT a b)).toNat : Int) := by
  rw [xor64, ← lo_xor]; rfl
theorem hi_xT (a b : BitVec 128) : bits .xor .u64 ((hi a).toNat : Int) ((hi b).toNat : Int) = ((hi (xT a b)).toNat : Int) := by
  rw [xor64, ← hi_xor]; rfl
theorem times_any (a b : BitVec 128) (w : World) :
    Calls Try.prog 47 #[.agg #[.int .u64 ((lo a).toNat : Int), .int .u64 ((hi a).toNat : Int)], .agg #[.int .u64 ((lo b).toNat : Int), .int .u64 ((hi b).toNat : Int)]] w fun e w' => e = .returned (.agg #[.int .u64 ((lo (tT a b)).toNat : Int), .int .u64 ((hi (tT a b)).toNat : Int)]) ∧ Below w.heap.size w w' := by
  have i0 : ∀ w, (Instr.index 97 (.agg #[.int .u64 ((lo b).toNat : Int), .int .u64 ((hi b).toNat : Int)]) (.int .i64 0)).run Try.prog w = .ok (.int .u64 ((lo b).toNat : Int)) w := fun _ => by kernel_rfl
  have i1 : ∀ w, (Instr.index 97 (.agg #[.int .u64 ((lo b).toNat : Int), .int .u64 ((hi b).toNat : Int)]) (.int .i64 1)).run Try.prog w = .ok (.int .u64 ((hi b).toNat : Int)) w := fun _ => by kernel_rfl
  go_enter Try.func47, Try.ntmps47
  go_wp2
  go_loopw [14] (fun i wr => ∃ j : Nat, j ≤ 2 ∧ i = .int .i64 j ∧ TimesAt w.heap.size w (dK 135#128 (64 * j) a) (tK 135#128 a b (64 * j)) wr) (fun i _ => 2 - (intOf i).toNat)
  case atStart =>
    refine ⟨0, by omega, rfl, ⟨?_, ?_, ?_, ?_⟩, ⟨?_, ?_, ?_, ?_⟩, ⟨?_, ?_, ?_, ?_⟩, ?_, ?_⟩
    case refine_13 => exact (((((Below.refl _ _).alloc (Nat.le_refl _) _).alloc (by simp) _).alloc (by simp; omega) _).alloc (by simp; omega) _)
    all_goals first | (simp [dK, tK, lo, hi, go_sem]; done) | (simp; omega)
  case round =>
    obtain ⟨j, hj, rfl, hT⟩ := hrel
    by_cases hlt : j < 2
    · have hj2 : (j = 0 ∧ ∀ i < 64, (lo b).getLsbD i = b.getLsbD (64 * j + i)) ∨ (j = 1 ∧ ∀ i < 64, (hi b).getLsbD i = b.getLsbD (64 * j + i)) := by
        by_cases h0 : j = 0
        · exact .inl ⟨h0, fun i hi => by rw [lo_bit b i hi, h0]; simp⟩
        · obtain rfl : j = 1 := by omega
          exact .inr ⟨rfl, fun i hi => by rw [hi_bit b i hi]⟩
      rcases hj2 with ⟨hj0, hbit⟩ | ⟨hj0, hbit⟩
      · have HB := hideit hbit
        clear hbit
        subst hj0
        go_wp2
        go_loopw [17] (fun i wr => ∃ k : Nat, k ≤ 64 ∧ i = .int .i64 k ∧ TimesAt w.heap.size w (dK 135#128 (64 * 0 + k) a) (tK 135#128 a b (64 * 0 + k)) wr) (fun i _ => 64 - (intOf i).toNat)
        case atStart => exact ⟨0, by omega, rfl, hT⟩
        case round =>
          clear hT
          obtain ⟨k, hk, rfl, hT⟩ := hrel
          by_cases hlt : k < 64
          · have hbt := and_bit64 (lo b) k
            rw [HB.out k hlt] at hbt
            have HT := hideit hT
            rcases hb : b.getLsbD (64 * 0 + k) with _ | _
            · rw [hb] at hbt
              have Hbit := hideit hb
              clear hb
              have HK := (show Hid (dK 135#128 (64 * 0 + (k + 1)) a = dX 135#128 (dK 135#128 (64 * 0 + k) a)) from rfl)
              have HS := (show Hid (tK 135#128 a b (64 * 0 + (k + 1)) = tK 135#128 a b (64 * 0 + k)) from by show (if b.getLsbD (64 * 0 + k) then _ else _) = _; rw [Hbit.out]; rfl)
              generalize dK 135#128 (64 * 0 + k) a = x at *
              generalize tK 135#128 a b (64 * 0 + k) = s at *
              obtain ⟨⟨c1, c2, f1, f2⟩, ⟨c3, c4, f3, f4⟩, _, _, _⟩ := hT
              go_wp2_with fail
              refine (double_any _ _).mono ?_
              rintro e w' ⟨rfl, hb⟩
              have HT' := hideit (HT.out.carry hb)
              clear hb
              obtain ⟨⟨d1, d2, g1, g2⟩, _, _, _, _⟩ := HT'.out
              go_wp2
              go_roundw
              case rel =>
                first | refine ⟨(k + 1 : Nat), by omega, by go_num, ?_⟩ | ((repeat apply Exists.intro); refine ⟨⟨k + 1, by omega, by go_num, ?_⟩, rfl⟩)
                rw [HK.out, HS.out]
                exact HT'.out.setX _
              case measure => simp [intOf]; omega
            · rw [hb] at hbt
              have Hbit := hideit hb
              clear hb
              have HK := (show Hid (dK 135#128 (64 * 0 + (k + 1)) a = dX 135#128 (dK 135#128 (64 * 0 + k) a)) from rfl)
              have HS := (show Hid (tK 135#128 a b (64 * 0 + (k + 1)) = xT (tK 135#128 a b (64 * 0 + k)) (dK 135#128 (64 * 0 + k) a)) from by show (if b.getLsbD (64 * 0 + k) then _ else _) = _; rw [Hbit.out]; rfl)
              generalize dK 135#128 (64 * 0 + k) a = x at *
              generalize tK 135#128 a b (64 * 0 + k) = s at *
              obtain ⟨⟨c1, c2, f1, f2⟩, ⟨c3, c4, f3, f4⟩, _, _, _⟩ := hT
              have hx1 := lo_xT s x
              have hx2 := hi_xT s x
              go_wp2_with fail
              refine (double_any _ _).mono ?_
              rintro e w' ⟨rfl, hb⟩
              have HT' := hideit ((HT.out.setS (xT s x)).carry hb)
              clear hb
              obtain ⟨⟨d1, d2, g1, g2⟩, _, _, _, _⟩ := HT'.out
              go_wp2
              go_roundw
              case rel =>
                first | refine ⟨(k + 1 : Nat), by omega, by go_num, ?_⟩ | ((repeat apply Exists.intro); refine ⟨⟨k + 1, by omega, by go_num, ?_⟩, rfl⟩)
                rw [HK.out, HS.out]
                exact HT'.out.setX _
              case measure => simp [intOf]; omega
          · obtain rfl : k = 64 := by omega
            go_wp2
            go_roundw
            case rel => exact ⟨1, by omega, by go_num, hT⟩
            case measure => simp [intOf]
      · have HB := hideit hbit
        clear hbit
        subst hj0
        go_wp2
        go_loopw [17] (fun i wr => ∃ k : Nat, k ≤ 64 ∧ i = .int .i64 k ∧ TimesAt w.heap.size w (dK 135#128 (64 * 1 + k) a) (tK 135#128 a b (64 * 1 + k)) wr) (fun i _ => 64 - (intOf i).toNat)
        case atStart => exact ⟨0, by omega, rfl, hT⟩
        case round =>
          clear hT
          obtain ⟨k, hk, rfl, hT⟩ := hrel
          by_cases hlt : k < 64
          · have hbt := and_bit64 (hi b) k
            rw [HB.out k hlt] at hbt
            have HT := hideit hT
            rcases hb : b.getLsbD (64 * 1 + k) with _ | _
            · rw [hb] at hbt
              have Hbit := hideit hb
              clear hb
              have HK := (show Hid (dK 135#128 (64 * 1 + (k + 1)) a = dX 135#128 (dK 135#128 (64 * 1 + k) a)) from rfl)
              have HS := (show Hid (tK 135#128 a b (64 * 1 + (k + 1)) = tK 135#128 a b (64 * 1 + k)) from by show (if b.getLsbD (64 * 1 + k) then _ else _) = _; rw [Hbit.out]; rfl)
              generalize dK 135#128 (64 * 1 + k) a = x at *
              generalize tK 135#128 a b (64 * 1 + k) = s at *
              obtain ⟨⟨c1, c2, f1, f2⟩, ⟨c3, c4, f3, f4⟩, _, _, _⟩ := hT
              go_wp2_with fail
              refine (double_any _ _).mono ?_
              rintro e w' ⟨rfl, hb⟩
              have HT' := hideit (HT.out.carry hb)
              clear hb
              obtain ⟨⟨d1, d2, g1, g2⟩, _, _, _, _⟩ := HT'.out
              go_wp2
              go_roundw
              case rel =>
                first | refine ⟨(k + 1 : Nat), by omega, by go_num, ?_⟩ | ((repeat apply Exists.intro); refine ⟨⟨k + 1, by omega, by go_num, ?_⟩, rfl⟩)
                rw [HK.out, HS.out]
                exact HT'.out.setX _
              case measure => simp [intOf]; omega
            · rw [hb] at hbt
              have Hbit := hideit hb
              clear hb
              have HK := (show Hid (dK 135#128 (64 * 1 + (k + 1)) a = dX 135#128 (dK 135#128 (64 * 1 + k) a)) from rfl)
              have HS := (show Hid (tK 135#128 a b (64 * 1 + (k + 1)) = xT (tK 135#128 a b (64 * 1 + k)) (dK 135#128 (64 * 1 + k) a)) from by show (if b.getLsbD (64 * 1 + k) then _ else _) = _; rw [Hbit.out]; rfl)
              generalize dK 135#128 (64 * 1 + k) a = x at *
              generalize tK 135#128 a b (64 * 1 + k) = s at *
              obtain ⟨⟨c1, c2, f1, f2⟩, ⟨c3, c4, f3, f4⟩, _, _, _⟩ := hT
              have hx1 := lo_xT s x
              have hx2 := hi_xT s x
              go_wp2_with fail
              refine (double_any _ _).mono ?_
              rintro e w' ⟨rfl, hb⟩
              have HT' := hideit ((HT.out.setS (xT s x)).carry hb)
              clear hb
              obtain ⟨⟨d1, d2, g1, g2⟩, _, _, _, _⟩ := HT'.out
              go_wp2
              go_roundw
              case rel =>
                first | refine ⟨(k + 1 : Nat), by omega, by go_num, ?_⟩ | ((repeat apply Exists.intro); refine ⟨⟨k + 1, by omega, by go_num, ?_⟩, rfl⟩)
                rw [HK.out, HS.out]
                exact HT'.out.setX _
              case measure => simp [intOf]; omega
          · obtain rfl : k = 64 := by omega
            go_wp2
            go_roundw
            case rel => exact ⟨2, by omega, by go_num, hT⟩
            case measure => simp [intOf]
    · obtain rfl : j = 2 := by omega
      obtain ⟨_, ⟨c3, c4, f3, f4⟩, ⟨c5, c6, f5, f6⟩, hB, hz⟩ := hT
      go_wp2
      refine bodyPost_ret (v := .agg #[.int .u64 ((lo (tT a b)).toNat : Int), .int .u64 ((hi (tT a b)).toNat : Int)]) (by simp [results, Try.results47, go_sem, c5, c6, tT]) rfl ⟨rfl, ?_⟩
      exact (hB.setCell (by simp; omega) _).setCell (by simp; omega) _
end Go.Proofs.Ytkoodgfadedeoaa
