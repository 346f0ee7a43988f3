/-
  The library's bits.Len over this program: it returns how many bits its argument takes, for every argument, and leaves the world as it was. What Power answers: for every number, in every world, of which nothing that was there turns.
-/
import Derived.Shelf.Small.Bits
import Derived.Shelf.Strconv.Itoa0
import Derived.Test.YtkoodgfadedeoaaProg
import Derived.Test.YtkoodgfadedeoaaQ4
namespace Go.Proofs
open Go.Shelf
def Try.lays125_ren : Go.Shelf.Ren := ⟨fun | 125 => 61 | 128 => 68 | 129 => 69 | n => n, fun | 46 => 95 | 3 => 3 | 51 => 105 | 53 => 41 | 4 => 4 | 5 => 5 | 9 => 9 | n => n, fun | n => n⟩
theorem Try.lays125 : Go.Proofs.Lays.n125 Try.prog Try.lays125_ren := {
  mixed := by kernel_rfl
  f125 := Try.func61.trans (congrArg some (by kernel_rfl))
  f128 := Try.func68.trans (congrArg some (by kernel_rfl))
  f129 := Try.func69.trans (congrArg some (by kernel_rfl))
  t3 := Try.underlying3
  a3 := Try.isAgg3
  z3 := Try.sizeOf3
  v3 := Try.zeroValue3
  t4 := Try.underlying4
  a4 := Try.isAgg4
  z4 := Try.sizeOf4
  v4 := Try.zeroValue4
  t5 := Try.underlying5
  a5 := Try.isAgg5
  z5 := Try.sizeOf5
  v5 := Try.zeroValue5
  t9 := Try.underlying9
  a9 := Try.isAgg9
  z9 := Try.sizeOf9
  v9 := Try.zeroValue9
  t46 := Try.underlying95
  a46 := Try.isAgg95
  z46 := Try.sizeOf95
  v46 := Try.zeroValue95
  t51 := Try.underlying105
  a51 := Try.isAgg105
  z51 := Try.sizeOf105
  v51 := Try.zeroValue105
  t53 := Try.underlying41
  a53 := Try.isAgg41
  z53 := Try.sizeOf41
  v53 := Try.zeroValue41 }
/-- bits.Len: "Len returns the minimum number of bits required to represent x; the result is 0 for x == 0.": IT RETURNS 'Lib.bitLen x'; the world is as it was. (A uint has 64 bits in the model.) ITS CALLEE bits.Len64 IS MET BY ITS OWN CONTRACT OFF THE SHELF (lay that first). (LAID: no walk: one application.) -/
theorem Try.bits_Len (x : Int) (w : World) (h0 : 0 ≤ x) (h1 : x ≤ 18446744073709551615) :
    Calls Try.prog 61 #[.int .u64 x] w fun e w' => e = .returned (.int .i64 (Lib.bitLen x.toNat)) ∧ w' = w := Any.bits_Len Try.lays125 x w h0 h1
end Go.Proofs
namespace Go.Proofs.Ytkoodgfadedeoaa
open Go.RowKit
theorem lt_bitLen (x : Nat) (hx : x < 2 ^ 64) : x < 2 ^ Lib.bitLen x := by
  induction x using Nat.strongRecOn with
  | ind x ih =>
    by_cases h0 : x = 0
    · subst h0; exact Nat.two_pow_pos _
    · have h := ih (x / 2) (by omega) (by omega)
      rw [Lib.bitLen_half x h0 hx, Nat.add_comm, Nat.pow_succ]
      omega
/-- x to a power -/
def pwr (n : Nat) : BitVec 128 := dK 135#128 n 1#128
theorem pwr_add (m n : Nat) : tT (pwr m) (pwr n) = pwr (m + n) := by
  unfold tT pwr
  rw [tK_dK, tK_one, dK_dK]
theorem pwr_succ (m : Nat) : dX 135#128 (pwr m) = pwr (m + 1) := rfl
def PowerAt (B : Nat) (w : World) (x : BitVec 128) (wr : World) : Prop :=
  HalfAt (B + 1) x wr ∧ HalfAt B 0#128 wr ∧ Below B w wr ∧ B + 2 ≤ wr.heap.size
theorem PowerAt.carry {B : Nat} {w X w' : World} {x : BitVec 128} (h : PowerAt B w x X) (hB : Below X.heap.size X w') : PowerAt B w x w' := by
  obtain ⟨h1, h3, h4, h5⟩ := h
  exact ⟨h1.carry hB (by omega), h3.carry hB (by omega), h4.trans (hB.mono (by omega)), Nat.le_trans h5 hB.size⟩
theorem PowerAt.setX {B : Nat} {w X : World} {x : BitVec 128} (y : BitVec 128) (h : PowerAt B w x X) : PowerAt B w y ((X.setCell ⟨B + 1, 0, none⟩ (.int .u64 ((lo y).toNat : Int))).setCell ⟨B + 1, 1, none⟩ (.int .u64 ((hi y).toNat : Int))) := by
  obtain ⟨h1, h3, h4, h5⟩ := h
  exact ⟨h1.set y, (h3.other _ _ (by omega)).other _ _ (by omega), (h4.setCell (by simp) _).setCell (by simp) _, by simpa using h5⟩
theorem times_as' {x y z : BitVec 128} (h : tT x y = z) (w : World) :
    Calls Try.prog 47 #[.agg #[.int .u64 ((lo x).toNat : Int), .int .u64 ((hi x).toNat : Int)], .agg #[.int .u64 ((lo y).toNat : Int), .int .u64 ((hi y).toNat : Int)]] w fun e w' => e = .returned (.agg #[.int .u64 ((lo z).toNat : Int), .int .u64 ((hi z).toNat : Int)]) ∧ Below w.heap.size w w' := by
  subst h; exact times_any x y w
theorem and_one_i64 (a : Nat) (ha : a < 2 ^ 62) (k : Nat) : (bits .and .i64 ((a : Int) / 2 ^ k) 1 == 1) = a.testBit k := by
  have hd : a / 2 ^ k < 2 ^ 62 := Nat.lt_of_le_of_lt (Nat.div_le_self _ _) ha
  have h1 : (BitVec.ofInt 64 ((a / 2 ^ k : Nat) : Int)).toNat = a / 2 ^ k := by
    rw [BitVec.ofInt_natCast, BitVec.toNat_ofNat]; exact Nat.mod_eq_of_lt (by omega)
  rw [int_div_pow, ← nat_bit]
  have e : bits .and .i64 ((a / 2 ^ k : Nat) : Int) 1 = ((a / 2 ^ k % 2 : Nat) : Int) := by
    show IntKind.i64.wrap ((BitVec.ofInt 64 ((a / 2 ^ k : Nat) : Int) &&& BitVec.ofInt 64 1).toNat : Int) = _
    rw [BitVec.toNat_and, h1, show (BitVec.ofInt 64 1).toNat = 1 from rfl, Nat.and_one_is_mod, IntKind.wrap_i64]
    omega
  rw [e, Bool.eq_iff_iff]
  simp only [beq_iff_eq]; omega
theorem power_nat (n : Nat) (hn : n < 2 ^ 62) (w : World) :
    Calls Try.prog 48 #[.int .i64 (n : Int)] w fun e w' => e = .returned (.agg #[.int .u64 ((lo (pwr n)).toNat : Int), .int .u64 ((hi (pwr n)).toNat : Int)]) ∧ Below w.heap.size w w' := by
  have hn' : (n : Int) < 4611686018427387904 := by omega
  have hl := Lib.bitLen_le n 62 (by omega) hn
  have hlt := lt_bitLen n (by omega)
  have HL := hideit hlt
  clear hlt
  go_enter Try.func48, Try.ntmps48
  go_wp2_with (go_at_call 61; refine (Try.bits_Len _ _ (by omega) (by omega)).mono ?_; rintro e w' ⟨rfl, rfl⟩)
  go_loopw [4] (fun i wr => ∃ j : Nat, j ≤ Lib.bitLen n ∧ i = .int .i64 ((j : Int) - 1) ∧ PowerAt w.heap.size w (pwr (n / 2 ^ j)) wr) (fun i _ => (intOf i + 1).toNat)
  case atStart =>
    refine ⟨Lib.bitLen n, Nat.le_refl _, rfl, ?_⟩
    rw [Nat.div_eq_of_lt HL.out]
    refine ⟨⟨?_, ?_, ?_, ?_⟩, ⟨?_, ?_, ?_, ?_⟩, ?_, ?_⟩
    case refine_9 => exact (((Below.refl _ _).alloc (Nat.le_refl _) _).alloc (by simp) _)
    all_goals first | (simp [pwr, dK, lo, hi, go_sem]; done) | simp
  case round =>
    obtain ⟨j, hj, rfl, hT⟩ := hrel
    by_cases hlt : j = 0
    · subst hlt
      obtain ⟨⟨c3, c4, f3, f4⟩, ⟨c5, c6, f5, f6⟩, hB, hz⟩ := hT
      go_wp2
      refine bodyPost_ret (v := .agg #[.int .u64 ((lo (pwr n)).toNat : Int), .int .u64 ((hi (pwr n)).toNat : Int)]) (by simp [results, Try.results48, go_sem, c5, c6]) rfl ⟨rfl, ?_⟩
      exact (hB.setCell (by simp) _).setCell (by simp) _
    · obtain ⟨i, rfl⟩ : ∃ i, j = i + 1 := ⟨j - 1, by omega⟩
      rw [show (((i + 1 : Nat) : Int) - 1) = (i : Int) from by omega]
      have hi : (i : Int) < 62 := by omega
      have hbt := and_one_i64 n hn i
      have HT := hideit hT
      have hdiv : n / 2 ^ i = 2 * (n / 2 ^ (i + 1)) + n / 2 ^ i % 2 := by
        rw [Nat.pow_succ, ← Nat.div_div_eq_div_mul]; omega
      rcases hb : n.testBit i with _ | _
      · rw [hb] at hbt
        have HS : Hid (n / 2 ^ i = n / 2 ^ (i + 1) + n / 2 ^ (i + 1)) := by
          have := nat_bit n i
          rw [hb] at this
          simp at this
          show _ = _
          omega
        clear hdiv hb
        generalize n / 2 ^ (i + 1) = m at *
        obtain ⟨⟨c1, c2, f1, f2⟩, _, _, _⟩ := hT
        go_wp2_with fail
        refine (times_as' (pwr_add m m) _).mono ?_
        rintro e w' ⟨rfl, hb⟩
        have HT' := hideit (HT.out.carry hb)
        clear hb
        obtain ⟨⟨d1, d2, g1, g2⟩, _, _, _⟩ := HT'.out
        go_wp2
        go_roundw
        case rel =>
          first | refine ⟨(i : Nat), by omega, by go_num, ?_⟩ | ((repeat apply Exists.intro); refine ⟨⟨i, by omega, by go_num, ?_⟩, rfl⟩)
          rw [HS.out]
          exact HT'.out.setX _
        case measure => simp [intOf]
      · rw [hb] at hbt
        have HS : Hid (n / 2 ^ i = n / 2 ^ (i + 1) + n / 2 ^ (i + 1) + 1) := by
          have := nat_bit n i
          rw [hb] at this
          simp at this
          show _ = _
          omega
        clear hdiv hb
        generalize n / 2 ^ (i + 1) = m at *
        obtain ⟨⟨c1, c2, f1, f2⟩, _, _, _⟩ := hT
        go_wp2_with fail
        refine (times_as' (pwr_add m m) _).mono ?_
        rintro e w' ⟨rfl, hb⟩
        have HT' := hideit ((HT.out.carry hb).setX (pwr (m + m)))
        obtain ⟨⟨d1, d2, g1, g2⟩, _, _, _⟩ := HT.out.carry hb
        clear hb
        obtain ⟨⟨d3, d4, g3, g4⟩, _, _, _⟩ := HT'.out
        go_wp2_with fail
        refine (double_any (pwr (m + m)) _).mono ?_
        rintro e w'' ⟨rfl, hb⟩
        have HT'' := hideit (HT'.out.carry hb)
        clear hb
        obtain ⟨⟨d5, d6, g5, g6⟩, _, _, _⟩ := HT''.out
        go_wp2
        go_roundw
        case rel =>
          first | refine ⟨(i : Nat), by omega, by go_num, ?_⟩ | ((repeat apply Exists.intro); refine ⟨⟨i, by omega, by go_num, ?_⟩, rfl⟩)
          rw [HS.out]
          exact HT''.out.setX _
        case measure => simp [intOf]
theorem power_neg (n : Int) (h0 : -4611686018427387904 < n) (hn : n < 0) (w : World) :
    Calls Try.prog 48 #[.int .i64 n] w fun e w' => e = .returned (.agg #[.int .u64 ((lo (pwr 0)).toNat : Int), .int .u64 ((hi (pwr 0)).toNat : Int)]) ∧ Below w.heap.size w w' := by
  have hmax : max n 0 = 0 := by omega
  have hb0 : Lib.bitLen 0 = 0 := by decide +kernel
  go_enter Try.func48, Try.ntmps48
  go_wp2_with (go_at_call 61; refine (Try.bits_Len _ _ (by omega) (by omega)).mono ?_; rintro e w' ⟨rfl, rfl⟩)
  go_loopw [4] (fun i wr => i = .int .i64 (-1) ∧ PowerAt w.heap.size w (pwr 0) wr) (fun _ _ => 0)
  case atStart =>
    refine ⟨by first | rfl | simp, ?_⟩
    refine ⟨⟨?_, ?_, ?_, ?_⟩, ⟨?_, ?_, ?_, ?_⟩, ?_, ?_⟩
    case refine_9 => exact (((Below.refl _ _).alloc (Nat.le_refl _) _).alloc (by simp) _)
    all_goals first | (simp [pwr, dK, lo, hi, go_sem]; done) | simp
  case round =>
    obtain ⟨rfl, hT⟩ := hrel
    obtain ⟨⟨c3, c4, f3, f4⟩, ⟨c5, c6, f5, f6⟩, hB, hz⟩ := hT
    go_wp2
    refine bodyPost_ret (v := .agg #[.int .u64 ((lo (pwr 0)).toNat : Int), .int .u64 ((hi (pwr 0)).toNat : Int)]) (by simp [results, Try.results48, go_sem, c5, c6]) rfl ⟨rfl, ?_⟩
    exact (hB.setCell (by simp) _).setCell (by simp) _
theorem power_any (n : Int) (h0 : -4611686018427387904 < n) (h1 : n < 4611686018427387904) (w : World) :
    Calls Try.prog 48 #[.int .i64 n] w fun e w' => e = .returned (.agg #[.int .u64 ((lo (pwr n.toNat)).toNat : Int), .int .u64 ((hi (pwr n.toNat)).toNat : Int)]) ∧ Below w.heap.size w w' := by
  by_cases h : n < 0
  · have := power_neg n h0 h w
    rwa [show (0 : Nat) = n.toNat from by omega] at this
  · obtain ⟨m, rfl⟩ := Int.eq_ofNat_of_zero_le (show 0 ≤ n by omega)
    exact power_nat m (by omega) w
end Go.Proofs.Ytkoodgfadedeoaa
