/-
  What the document's Bits and FromBits answer: for every tweak, for every row of 128 bits, in every world, of which nothing that was there turns. Plain facts on inverses and boxes of bytes.
-/
import Derived.Test.YtkoodgfadedeoaaQ4
import Derived.Test.YtkoodgfadedeoaaQ1
import Derived.Test.YtkoodgfadedeoaaQ3
import Derived.OpenShut
namespace Go.Proofs.Ytkoodgfadedeoaa
open Go.RowKit
/-- a row of bits, as values -/
def bv (f : Nat → Bool) : Nat → Value := fun j => .bool (f j)
def Z128 : Array Value := (row 128 (bv fun _ => false)).toArray
theorem zero42 (w : World) : Sem.run Try.prog (zeroValue 99) w = .ok (.agg Z128) w := by kernel_rfl
theorem info42 : (Try.prog.info? 99).map (·.size) = some 128 := by kernel_rfl
/-- a bit -/
def tb (x : BitVec 128) (j : Nat) : Bool := x.getLsbD j
theorem tb_lo (x : BitVec 128) (k : Nat) (hk : k < 64) : ((((lo x).toNat : Int) / 2 ^ k).tmod 2 == 1) = tb x k := by
  rw [tmod_bit]; exact lo_bit x k hk
theorem tb_hi (x : BitVec 128) (k : Nat) (hk : k < 64) : ((((hi x).toNat : Int) / 2 ^ k).tmod 2 == 1) = tb x (64 + k) := by
  rw [tmod_bit]; exact hi_bit x k hk
def BitsAt (B : Nat) (w : World) (x : BitVec 128) (k : Nat) (wr : World) : Prop :=
  HalfAt B x wr ∧ RowAt (B + 1) 128 (bv fun _ => false) wr ∧ RowAt (B + 1 + 1) 128 (bv fun j => decide (j < k ∨ (64 ≤ j ∧ j < 64 + k)) && tb x j) wr ∧ Below B w wr
theorem BitsAt.step {B : Nat} {w wr : World} {x : BitVec 128} {k : Nat} (hk : k < 64) (h : BitsAt B w x k wr) :
    BitsAt B w x (k + 1) ((wr.setCell ⟨B + 1 + 1, k, none⟩ (.bool (tb x k))).setCell ⟨B + 1 + 1, 64 + k, none⟩ (.bool (tb x (64 + k)))) := by
  obtain ⟨h1, h2, h3, h4⟩ := h
  refine ⟨(h1.other _ _ (by omega)).other _ _ (by omega), (h2.other _ _ (by simp)).other _ _ (by simp), ((h3.set k _).set (64 + k) _).congr ?_, (h4.setCell (by simp; omega) _).setCell (by simp; omega) _⟩
  intro j hj
  by_cases e1 : j = 64 + k
  · subst e1
    have : decide (64 + k < k + 1 ∨ 64 ≤ 64 + k ∧ 64 + k < 64 + (k + 1)) = true := by simp
    simp only [bv, this]; simp
  · by_cases e2 : j = k
    · subst e2
      have : decide (j < j + 1 ∨ 64 ≤ j ∧ j < 64 + (j + 1)) = true := by simp
      simp only [bv, this]; simp
    · have : decide (j < k + 1 ∨ 64 ≤ j ∧ j < 64 + (k + 1)) = decide (j < k ∨ 64 ≤ j ∧ j < 64 + k) := by
        rw [decide_eq_decide]; omega
      simp only [bv, this]; simp [e1, e2]
theorem Z128_get (j : Nat) (hj : j < 128) (f : Nat → Bool) (hf : f j = false) : Z128[j]? = some (bv f j) := by
  unfold Z128
  rw [List.getElem?_toArray, row_get 128 _ j hj]
  simp [bv, hf]
theorem bits_any (x : BitVec 128) (w : World) :
    Calls Try.prog 63 #[.agg #[.int .u64 ((lo x).toNat : Int), .int .u64 ((hi x).toNat : Int)]] w fun e w' => e = .returned (.agg (row 128 (bv (tb x))).toArray) ∧ Below w.heap.size w w' := by
  have hz := zero42
  go_enter Try.func63, Try.ntmps63
  go_wp2
  go_loopw [4] (fun i wr => ∃ k : Nat, k ≤ 64 ∧ i = .int .i64 k ∧ BitsAt w.heap.size w x k wr) (fun i _ => 64 - (intOf i).toNat)
  case atStart =>
    refine ⟨0, by omega, rfl, ⟨?_, ?_, ?_, ?_⟩, ?_, ?_, ?_⟩
    case refine_5 =>
      have := RowAt.newOf (w.alloc (Obj.cells #[Value.int IntKind.u64 ↑(lo x).toNat, Value.int IntKind.u64 ↑(hi x).toNat] 80)) 128 (bv fun _ => false) 99 Z128 (fun j hj => Z128_get j hj _ rfl)
      simpa using this.alloc (Obj.cells Z128 99)
    case refine_6 =>
      have := RowAt.newOf ((w.alloc (Obj.cells #[Value.int IntKind.u64 ↑(lo x).toNat, Value.int IntKind.u64 ↑(hi x).toNat] 80)).alloc (Obj.cells Z128 99)) 128 (bv fun j => decide (j < 0 ∨ (64 ≤ j ∧ j < 64 + 0)) && tb x j) 99 Z128 (fun j hj => Z128_get j hj _ (by simp; omega))
      simpa using this
    case refine_7 => exact (((Below.refl _ _).alloc (Nat.le_refl _) _).alloc (by simp) _).alloc (by simp; omega) _
    all_goals simp [go_sem]
  case round =>
    obtain ⟨k, hk, rfl, hT⟩ := hrel
    by_cases hlt : k < 64
    · have HT := hideit hT
      obtain ⟨⟨c1, c2, _, _⟩, _, hR, _⟩ := hT
      have e1 := hR.1 k (by omega)
      have e2 := hR.1 (64 + k) (by omega)
      have g1 := hR.2.1 k (by omega)
      have g2 := hR.2.1 (64 + k) (by omega)
      have t1 := tb_lo x k hlt
      have t2 := tb_hi x k hlt
      clear hR
      go_wp2
      go_roundw
      case rel =>
        first | exact ⟨(k + 1 : Nat), by omega, by go_num, HT.out.step hlt⟩ | ((repeat apply Exists.intro); exact ⟨⟨k + 1, by omega, by go_num, HT.out.step hlt⟩, rfl⟩)
      case measure => simp [intOf]; omega
    · obtain rfl : k = 64 := by omega
      obtain ⟨_, hR0, hR, hB⟩ := hT
      have HR := hideit (hR.congr (g' := bv (tb x)) (fun j hj => by
        have : decide (j < 64 ∨ 64 ≤ j ∧ j < 64 + 64) = true := by simp; omega
        simp only [bv, this]; simp))
      have HR0 := hideit hR0
      clear hR hR0
      go_wp2_with (first | (refine wpList_load_mid rfl 99 (.tmp 3) rfl _ 0 rfl (row 128 (bv (tb x))) _ HR.out.range Try.underlying99 rfl (by rw [row_length]; exact info42) ?_) | (refine wpList_store_mid rfl 99 (.tmp 2) (.tmp 26) rfl _ 0 (row 128 (bv (tb x))).toArray rfl rfl (by rw [row_size]; exact HR0.out.there) (by rw [row_size]; exact info42) (row_one fun _ _ => rfl) ?_))
      refine bodyPost_ret (v := .agg (row 128 (bv (tb x))).toArray) ?_ rfl ⟨rfl, below_setCells _ (by omega) _ _ _ hB⟩
      have hl := run_loadVar_mid (P := Try.prog) (wr.setCells (w.heap.size + 1) 0 (row 128 (bv (tb x)))) (w.heap.size + 1) 0 99 (row 128 (bv (tb x))) _ (HR0.out.cells (g' := bv (tb x))).range Try.underlying99 rfl (by rw [row_length]; exact info42)
      simp [results, Try.results63, Act.put, asAddr, hl]
/-- the word whose first k bits are f's -/
def bwK (f : Nat → Bool) : Nat → BitVec 64
  | 0 => 0#64
  | k + 1 => if f k then bwK f k ||| BitVec.twoPow 64 k else bwK f k
theorem bwK_bit (f : Nat → Bool) (k : Nat) (hk : k ≤ 64) (j : Nat) : (bwK f k).getLsbD j = (decide (j < k) && f j) := by
  induction k with
  | zero => simp [bwK]
  | succ k ih =>
    simp only [bwK]
    split
    · rename_i h
      rw [BitVec.getLsbD_or, ih (by omega), BitVec.getLsbD_twoPow]
      by_cases e : j = k
      · subst e; simp [h]; omega
      · have e2 : ¬ k = j := fun h => e h.symm
        have e3 : decide (j < k + 1) = decide (j < k) := by rw [decide_eq_decide]; omega
        simp [e2, e3]
    · rename_i h
      rw [ih (by omega)]
      by_cases e : j = k
      · subst e; simp [h]
      · have e3 : decide (j < k + 1) = decide (j < k) := by rw [decide_eq_decide]; omega
        simp [e3]
/-- the element whose bits they are -/
def fbK (f : Nat → Bool) (k : Nat) : BitVec 128 := jn (bwK f k) (bwK (fun j => f (64 + j)) k)
def fb (f : Nat → Bool) : BitVec 128 := fbK f 64
theorem fb_tb (f : Nat → Bool) (j : Nat) (hj : j < 128) : tb (fb f) j = f j := by
  unfold tb fb fbK
  by_cases h : j < 64
  · rw [← lo_bit _ j h, lo_jn, bwK_bit _ _ (Nat.le_refl _)]; simp [h]
  · rw [show j = 64 + (j - 64) from by omega, ← hi_bit _ (j - 64) (by omega), hi_jn, bwK_bit _ _ (Nat.le_refl _)]
    have : j - 64 < 64 := by omega
    simp [this]
theorem fb_eq {f : Nat → Bool} {x : BitVec 128} (h : ∀ j, j < 128 → f j = tb x j) : fb f = x := by
  apply BitVec.eq_of_getLsbD_eq
  intro i hi
  rw [show (fb f).getLsbD i = tb (fb f) i from rfl, fb_tb f i hi, h i hi]; rfl
def FromAt (B : Nat) (w : World) (f : Nat → Bool) (k : Nat) (wr : World) : Prop :=
  RowAt B 128 (bv f) wr ∧ HalfAt (B + 1) 0#128 wr ∧ HalfAt (B + 1 + 1) (fbK f k) wr ∧ Below B w wr
theorem or64 (x : BitVec 64) (k : Nat) (hk : k < 64) : bits .or .u64 (x.toNat : Int) (IntKind.u64.wrap (2 ^ k)) = ((x ||| BitVec.twoPow 64 k).toNat : Int) := by
  have hp : 2 ^ k < 18446744073709551616 := Nat.pow_lt_pow_right (by decide) (show k < 64 from hk)
  have e : IntKind.u64.wrap (2 ^ k) = ((2 ^ k : Nat) : Int) := by
    rw [IntKind.wrap_u64, show ((2 : Int) ^ k) = ((2 ^ k : Nat) : Int) from by simp]
    exact Int.emod_eq_of_lt (Int.natCast_nonneg _) (Int.ofNat_lt.2 hp)
  rw [e, bits_or_u64_nat _ _ x.isLt hp, BitVec.toNat_or, BitVec.toNat_twoPow, Nat.mod_eq_of_lt (by omega)]
theorem fbK_lo (f : Nat → Bool) (k : Nat) : lo (fbK f k) = bwK f k := lo_jn _ _
theorem fbK_hi (f : Nat → Bool) (k : Nat) : hi (fbK f k) = bwK (fun j => f (64 + j)) k := hi_jn _ _
theorem or_lo (f : Nat → Bool) (k : Nat) (hk : k < 64) (h : f k = true) : bits .or .u64 ((lo (fbK f k)).toNat : Int) (IntKind.u64.wrap (2 ^ k)) = ((lo (fbK f (k + 1))).toNat : Int) := by
  rw [fbK_lo, fbK_lo, or64 _ k hk]; simp only [bwK, h, if_true]
theorem or_hi (f : Nat → Bool) (k : Nat) (hk : k < 64) (h : f (64 + k) = true) : bits .or .u64 ((hi (fbK f k)).toNat : Int) (IntKind.u64.wrap (2 ^ k)) = ((hi (fbK f (k + 1))).toNat : Int) := by
  rw [fbK_hi, fbK_hi, or64 _ k hk]; simp only [bwK, h, if_true]
theorem no_lo (f : Nat → Bool) (k : Nat) (h : f k = false) : lo (fbK f k) = lo (fbK f (k + 1)) := by
  rw [fbK_lo, fbK_lo]; simp [bwK, h]
theorem no_hi (f : Nat → Bool) (k : Nat) (h : f (64 + k) = false) : hi (fbK f k) = hi (fbK f (k + 1)) := by
  rw [fbK_hi, fbK_hi]; simp [bwK, h]
theorem HalfAt.setLo {b : Nat} {x y : BitVec 128} {X : World} (h : HalfAt b x X) (e : hi x = hi y) : HalfAt b y (X.setCell ⟨b, 0, none⟩ (.int .u64 ((lo y).toNat : Int))) := by
  obtain ⟨h1, h2, h3, h4⟩ := h
  refine ⟨?_, ?_, ?_, ?_⟩
  all_goals simp [go_sem, h1, h2, h3, h4, e]
theorem HalfAt.setHi {b : Nat} {x y : BitVec 128} {X : World} (h : HalfAt b x X) (e : lo x = lo y) : HalfAt b y (X.setCell ⟨b, 1, none⟩ (.int .u64 ((hi y).toNat : Int))) := by
  obtain ⟨h1, h2, h3, h4⟩ := h
  refine ⟨?_, ?_, ?_, ?_⟩
  all_goals simp [go_sem, h1, h2, h3, h4, e]
theorem HalfAt.same {b : Nat} {x y : BitVec 128} {X : World} (h : HalfAt b x X) (e1 : lo x = lo y) (e2 : hi x = hi y) : HalfAt b y X := by
  rw [half_ext e1 e2] at h; exact h
theorem frombits_any (f : Nat → Bool) (w : World) :
    Calls Try.prog 62 #[.agg (row 128 (bv f)).toArray] w fun e w' => e = .returned (.agg #[.int .u64 ((lo (fb f)).toNat : Int), .int .u64 ((hi (fb f)).toNat : Int)]) ∧ Below w.heap.size w w' := by
  go_enter Try.func62, Try.ntmps62
  go_wp2
  go_loopw [4] (fun i wr => ∃ k : Nat, k ≤ 64 ∧ i = .int .i64 k ∧ FromAt w.heap.size w f k wr) (fun i _ => 64 - (intOf i).toNat)
  case atStart =>
    refine ⟨0, by omega, rfl, ?_, ⟨?_, ?_, ?_, ?_⟩, ⟨?_, ?_, ?_, ?_⟩, ?_⟩
    case refine_1 => exact ((RowAt.new w 128 (bv f) 99).alloc _).alloc _
    case refine_10 => exact (((Below.refl _ _).alloc (Nat.le_refl _) _).alloc (by simp) _).alloc (by simp; omega) _
    all_goals simp [go_sem, fbK, bwK, jn, lo, hi]
  case round =>
    obtain ⟨k, hk, rfl, hT⟩ := hrel
    by_cases hlt : k < 64
    · have HT := hideit hT
      obtain ⟨hR, _, ⟨c1, c2, f1, f2⟩, _⟩ := hT
      have e1 := hR.1 k (by omega)
      have e2 := hR.1 (64 + k) (by omega)
      clear hR
      rcases h1 : f k with _ | _
      · rcases h2 : f (64 + k) with _ | _
        · simp only [bv, h1, h2] at e1 e2
          have H1 := hideit h1
          have H2 := hideit h2
          clear h1 h2
          go_wp2
          go_roundw
          case rel =>
            obtain ⟨h1, h2, h3, h4⟩ := HT.out
            first | refine ⟨(k + 1 : Nat), by omega, by go_num, ?_⟩ | ((repeat apply Exists.intro); refine ⟨⟨k + 1, by omega, by go_num, ?_⟩, rfl⟩)
            exact ⟨h1, h2, h3.same (no_lo f k H1.out) (no_hi f k H2.out), h4⟩
          case measure => simp [intOf]; omega
        · simp only [bv, h1, h2] at e1 e2
          have o2 := or_hi f k hlt h2
          have H1 := hideit h1
          have H2 := hideit h2
          clear h1 h2
          go_wp2
          go_region
          all_goals (try go_wp2)
          go_roundw
          case rel =>
            obtain ⟨h1, h2, h3, h4⟩ := HT.out
            first | refine ⟨(k + 1 : Nat), by omega, by go_num, ?_⟩ | ((repeat apply Exists.intro); refine ⟨⟨k + 1, by omega, by go_num, ?_⟩, rfl⟩)
            exact ⟨h1.other _ _ (by simp; omega), h2.other _ _ (by omega), h3.setHi (no_lo f k H1.out), (h4.setCell (by simp; omega) _).drew⟩
          case measure => simp [intOf]; omega
      · rcases h2 : f (64 + k) with _ | _
        · simp only [bv, h1, h2] at e1 e2
          have o1 := or_lo f k hlt h1
          have H1 := hideit h1
          have H2 := hideit h2
          clear h1 h2
          go_wp2
          go_region
          all_goals (try go_wp2)
          go_roundw
          case rel =>
            obtain ⟨h1, h2, h3, h4⟩ := HT.out
            first | refine ⟨(k + 1 : Nat), by omega, by go_num, ?_⟩ | ((repeat apply Exists.intro); refine ⟨⟨k + 1, by omega, by go_num, ?_⟩, rfl⟩)
            exact ⟨h1.other _ _ (by simp; omega), h2.other _ _ (by omega), h3.setLo (no_hi f k H2.out), (h4.setCell (by simp; omega) _).drew⟩
          case measure => simp [intOf]; omega
        · simp only [bv, h1, h2] at e1 e2
          have o1 := or_lo f k hlt h1
          have o2 := or_hi f k hlt h2
          have H1 := hideit h1
          have H2 := hideit h2
          clear h1 h2
          go_wp2
          go_region
          all_goals (try go_wp2)
          go_region
          all_goals (try go_wp2)
          go_roundw
          case rel =>
            obtain ⟨h1, h2, h3, h4⟩ := HT.out
            first | refine ⟨(k + 1 : Nat), by omega, by go_num, ?_⟩ | ((repeat apply Exists.intro); refine ⟨⟨k + 1, by omega, by go_num, ?_⟩, rfl⟩)
            exact ⟨(h1.other _ _ (by simp; omega)).other _ _ (by simp; omega), (h2.other _ _ (by omega)).other _ _ (by omega), h3.set (fbK f (k + 1)), ((h4.setCell (by simp; omega) _).setCell (by simp; omega) _).drew.drew⟩
          case measure => simp [intOf]; omega
    · obtain rfl : k = 64 := by omega
      obtain ⟨_, ⟨c5, c6, f5, f6⟩, ⟨c3, c4, f3, f4⟩, hB⟩ := hT
      go_wp2
      refine bodyPost_ret (v := .agg #[.int .u64 ((lo (fb f)).toNat : Int), .int .u64 ((hi (fb f)).toNat : Int)]) (by simp [results, Try.results62, go_sem, c5, c6, fb]) rfl ⟨rfl, ?_⟩
      exact (hB.setCell (by simp) _).setCell (by simp) _
end Go.Proofs.Ytkoodgfadedeoaa
namespace Go.Proofs.Ytkoodgfadedeoaa
open Go.RowKit
theorem unturn_turn : ∀ b : BitVec 8, unturnB (turnB b) = b := by decide +kernel
theorem inv_ok : ∀ b : BitVec 8, mB b (iB b) = if b = 0#8 then 0#8 else 1#8 := by decide +kernel
theorem inv_zero : iB 0#8 = 0#8 := by decide +kernel
theorem mB_comm (a b : BitVec 8) : mB a b = mB b a := tK_comm _ _ _
theorem mB_assoc (a b c : BitVec 8) : mB (mB a b) c = mB a (mB b c) := tK_assoc _ _ _ _
theorem mB_one (a : BitVec 8) : mB a 1#8 = a := tK_unit _ _
theorem mB_zero (a : BitVec 8) : mB a 0#8 = 0#8 := tK_zero_right _ _ _
theorem mB_add (a b c : BitVec 8) : mB a (b ^^^ c) = mB a b ^^^ mB a c := tK_add_right _ _ _ _ _
theorem inv_inv (a : BitVec 8) : iB (iB a) = a := by
  by_cases h : a = 0#8
  · subst h; rw [inv_zero, inv_zero]
  · have h1 := inv_ok a
    rw [if_neg h] at h1
    have h2 : iB a ≠ 0#8 := by
      intro h0; rw [h0, mB_zero] at h1; exact absurd h1 (by decide)
    have h3 := inv_ok (iB a)
    rw [if_neg h2] at h3
    have h4 := mB_assoc a (iB a) (iB (iB a))
    rw [h1, h3, mB_one, mB_comm, mB_one] at h4
    exact h4
theorem unbox_box (a : BitVec 8) : unboxB (boxB a) = a := by
  unfold unboxB boxB
  rw [unturn_turn, inv_inv]
theorem box_inj {a b : BitVec 8} (h : boxB a = boxB b) : a = b := by
  rw [← unbox_box a, h, unbox_box]
theorem of_wf8 {n : Int} (h : (Lit.int .u8 n).wf = true) : ∃ a : BitVec 8, n = (a.toNat : Int) := by
  have hb := bounds_u8 h
  exact ⟨BitVec.ofNat 8 n.toNat, by rw [BitVec.toNat_ofNat]; omega⟩
end Go.Proofs.Ytkoodgfadedeoaa
