/-
  Readers: what Bytes, Uint, Zeros and Done answer, for every Reader in every world. Bytes that are made: zeros, in a block of the call's own.
-/
import Derived.Test.YtgjabfjkokpkiaaDoorQ19
import Derived.Test.YtgjabfjkokpkiaaDoorQ11
import Derived.Test.YtgjabfjkokpkiaaDoorQ3
import Derived.OwnWalk
namespace Go.Proofs.YtgjabfjkokpkiaaDoor
set_option maxRecDepth 20000
open Go.RowKit Go.BigFrame
theorem rhas_ok (lo c l n : Nat) (f : Nat → BitVec 8) (bad : Bool) (w : World) (h : Rd lo c l f bad w) (hn : n ≤ l) :
    Calls Tryd.prog 66 #[.pointer (some ⟨c, 0, none⟩), .int .i64 n] w fun e w' => e = .returned (.bool (!bad)) ∧ w' = w := by
  obtain ⟨v, h1, h2, h3⟩ := h
  obtain ⟨oa, cp, rfl⟩ := h2.form
  exact has_ok c oa l cp bad n w h1 hn
theorem rhas_no (lo c l : Nat) (n : Int) (f : Nat → BitVec 8) (bad : Bool) (w : World) (h : Rd lo c l f bad w) (hn : n < 0 ∨ (l : Int) < n) :
    Calls Tryd.prog 66 #[.pointer (some ⟨c, 0, none⟩), .int .i64 n] w fun e w' => e = .returned (.bool false) ∧ Rd lo c l f true w' ∧ But c w w' := by
  obtain ⟨v, h1, h2, h3⟩ := h
  obtain ⟨oa, cp, rfl⟩ := h2.form
  exact (has_no c oa l cp bad n w h1 hn).mono fun e w' hh => ⟨hh.1, ⟨_, hh.2.1, h2.but hh.2.2 h3.off, h3⟩, hh.2.2⟩
set_option maxRecDepth 20000 in
theorem rbytes_ok (lo c l n : Nat) (f : Nat → BitVec 8) (w : World) (h : Rd lo c l f false w) (hn : n ≤ l) (hl : l ≤ 140737488355328) :
    Calls Tryd.prog 54 #[.pointer (some ⟨c, 0, none⟩), .int .i64 n] w fun e w' => ∃ v, e = .returned v ∧ OwnB w.heap.size 5 v n (yv f) w' ∧ OffB v c ∧ Rd lo c (l - n) (shF f n) false w' ∧ But c w w' := by
  have hw : Hid (c < w.heap.size) := h.lt
  replace h := hideit h
  have hl2 : n ≤ 140737488355328 := by omega
  go_enter Tryd.func54, Tryd.ntmps54
  go_wp2_with (first | (go_at_call 66; refine (rhas_ok lo c l n f false _ h.out hn).mono ?_; rintro e w' ⟨rfl, rfl⟩) | (go_at_call 67; refine (pass_any lo c l n f false _ h.out hn).mono ?_; rintro e w1 ⟨v1, rfl, hv1, ho1, hr1, hb1⟩; replace hv1 := hideit hv1; replace hr1 := hideit hr1; replace hb1 := hideit hb1; clear h) | (go_at_call 17; refine (clone_any _ n f _ hv1.out hl2).mono ?_; rintro e w2 ⟨v2, rfl, hO2, hE2⟩; replace hO2 := hideit hO2; replace hE2 := hideit hE2))
  go_ret
  have hO : OwnB w'.heap.size 5 v2 n (yv f) w2 := hO2.out.weaken (hb1.out.size)
  exact ⟨v2, rfl, hO, hO.off hw.out, hr1.out.ext hE2.out, hb1.out.ext hE2.out⟩
def leN (f : Nat → BitVec 8) : Nat → BitVec 64
  | 0 => 0#64
  | n + 1 => leN f n ||| (f n).setWidth 64 <<< (8 * n)
def leS (f : Nat → BitVec 8) : Nat → Nat
  | 0 => 0
  | n + 1 => leS f n + (f n).toNat * 2 ^ (8 * n)
theorem leN_nat (f : Nat → BitVec 8) : ∀ n, n ≤ 8 → (leN f n).toNat = leS f n ∧ leS f n < 2 ^ (8 * n)
  | 0, _ => ⟨rfl, by show 0 < 1; omega⟩
  | n + 1, h => by
    obtain ⟨h1, h2⟩ := leN_nat f n (by omega)
    have hf := (f n).isLt
    have hp : 2 ^ (8 * (n + 1)) = 256 * 2 ^ (8 * n) := by rw [show 8 * (n + 1) = 8 + 8 * n by omega, Nat.pow_add]
    have hlt : leS f n + (f n).toNat * 2 ^ (8 * n) < 2 ^ (8 * (n + 1)) := by
      rw [hp]
      have := Nat.mul_le_mul_right (2 ^ (8 * n)) (show (f n).toNat + 1 ≤ 256 by omega)
      rw [Nat.add_mul, Nat.one_mul] at this
      omega
    refine ⟨?_, hlt⟩
    have h64 : 2 ^ (8 * (n + 1)) ≤ 2 ^ 64 := Nat.pow_le_pow_right (by decide) (by omega)
    simp only [leN, leS]
    have e1 : (f n).toNat % 2 ^ 64 = (f n).toNat := Nat.mod_eq_of_lt (by omega)
    rw [BitVec.toNat_or, BitVec.toNat_shiftLeft, BitVec.toNat_setWidth, e1, h1, Nat.mod_eq_of_lt (by rw [Nat.shiftLeft_eq]; omega), Nat.or_comm, ← Nat.shiftLeft_add_eq_or_of_lt h2, Nat.shiftLeft_eq, Nat.add_comm]
theorem or_shl (x : BitVec 64) (b : BitVec 8) (k : Nat) : bits .or .u64 (x.toNat : Int) (((b.toNat * 2 ^ (8 * k) % 18446744073709551616 : Nat)) : Int) = ((x ||| b.setWidth 64 <<< (8 * k)).toNat : Int) := by
  rw [u64_or_nat _ _ x.isLt (Nat.mod_lt _ (by decide)), BitVec.toNat_or, BitVec.toNat_shiftLeft, Nat.shiftLeft_eq, BitVec.toNat_setWidth]
  have : b.toNat % 2 ^ 64 = b.toNat := Nat.mod_eq_of_lt (by have := b.isLt; omega)
  rw [this]
theorem or_wrap (x : BitVec 64) (b : BitVec 8) (k : Nat) : bits .or .u64 (x.toNat : Int) (IntKind.u64.wrap ((b.toNat : Int) * 2 ^ (8 * k))) = ((x ||| b.setWidth 64 <<< (8 * k)).toNat : Int) := by
  rw [IntKind.wrap_u64, ← or_shl]
  rw [Int.natCast_emod, Int.natCast_mul, Int.natCast_pow]
  rfl
set_option maxRecDepth 20000 in
set_option maxHeartbeats 2000000 in
theorem ruint_ok (lo c l n : Nat) (f : Nat → BitVec 8) (w : World) (h : Rd lo c l f false w) (hn : n ≤ l) (hw : iswB n = true) (hn8 : n ≤ 8) :
    Calls Tryd.prog 42 #[.pointer (some ⟨c, 0, none⟩), .int .i64 n] w fun e w' => e = .returned (.int .u64 ((leN f n).toNat : Int)) ∧ Rd lo c (l - n) (shF f n) false w' ∧ But c w w' := by
  replace h := hideit h
  replace hw := hideit hw
  go_enter Tryd.func42, Tryd.ntmps42
  go_wp2_with (first | (go_at_call 65; refine (isw_any n _).mono ?_; rw [hw.out]; rintro e w' ⟨rfl, rfl⟩) | (go_at_call 66; refine (rhas_ok lo c l n f false _ h.out hn).mono ?_; rintro e w' ⟨rfl, rfl⟩) | (go_at_call 67; refine (pass_any lo c l n f false _ h.out hn).mono ?_; rintro e w1 ⟨v1, rfl, hv1, ho1, hr1, hb1⟩; obtain ⟨oa, cp, rfl⟩ := hv1.form; replace hv1 := hideit hv1; replace hr1 := hideit hr1; replace hb1 := hideit hb1; clear h))
  have hcell : Hid (∀ j, j < n → ∃ ad, oa = some ad ∧ w1.cell? (ad.add j) = some (.int .u8 ((f j).toNat : Int))) := by
    intro j hj
    rcases hv1.out with ⟨_, h0⟩ | ⟨a, cap, h1, h2, h3⟩
    · omega
    · injection h1 with h1 _ _
      exact ⟨a, h1, h3.1 j hj⟩
  clear hv1
  go_loop [5, 24] (fun x i => ∃ k : Nat, k ≤ n ∧ i = .int .i64 k ∧ x = .int .u64 ((leN f k).toNat : Int)) (fun _ i => n - (intOf i).toNat)
  case atStart => exact ⟨0, Nat.zero_le _, rfl, rfl⟩
  case round =>
    obtain ⟨k, hk, rfl, rfl⟩ := hrel
    by_cases hlt : k < n
    · obtain ⟨ad, rfl, hc⟩ := hcell.out k hlt
      have k0 : (0 : Int) ≤ (k : Int) := by omega
      have k1 : (k : Int) < (n : Int) := by omega
      have k2 : (k : Int) < 8 := by omega
      go_wp2
      go_round
      case rel =>
        refine ⟨k + 1, by omega, by go_num, ?_⟩
        rw [or_wrap]
        rfl
      case measure => simp [intOf]; omega
    · obtain rfl : k = n := by omega
      go_wp2
      go_ret
      exact ⟨rfl, hr1.out, hb1.out⟩
def okN (n : Int) (l : Nat) : Bool := decide (0 ≤ n ∧ n ≤ (l : Int))
theorem okN_true {n : Int} {l : Nat} (h : okN n l = true) : ∃ k : Nat, n = (k : Int) ∧ k ≤ l := by
  have := of_decide_eq_true h
  exact ⟨n.toNat, by omega, by omega⟩
theorem okN_false {n : Int} {l : Nat} (h : okN n l = false) : n < 0 ∨ (l : Int) < n := by
  have := of_decide_eq_false h
  omega
theorem rhas_any (lo c l : Nat) (n : Int) (f : Nat → BitVec 8) (bad : Bool) (w : World) (h : Rd lo c l f bad w) :
    Calls Tryd.prog 66 #[.pointer (some ⟨c, 0, none⟩), .int .i64 n] w fun e w' => e = .returned (.bool (!bad && okN n l)) ∧ Rd lo c l f (bad || !okN n l) w' ∧ But c w w' := by
  cases ho : okN n l with
  | true =>
    obtain ⟨k, rfl, hk⟩ := okN_true ho
    exact (rhas_ok lo c l k f bad w h hk).mono fun e w' hh => ⟨by rw [hh.1]; simp, by rw [hh.2]; simpa using h, by rw [hh.2]; exact But.refl _ _⟩
  | false => exact (rhas_no lo c l n f bad w h (okN_false ho)).mono fun e w' hh => ⟨by rw [hh.1]; simp, by simpa using hh.2.1, hh.2.2⟩
theorem rbytes_not (lo c l : Nat) (n : Int) (f : Nat → BitVec 8) (bad : Bool) (w : World) (h : Rd lo c l f bad w) (hn : (!bad && okN n l) = false) :
    Calls Tryd.prog 54 #[.pointer (some ⟨c, 0, none⟩), .int .i64 n] w fun e w' => e = .returned (.slice none 0 0) ∧ Rd lo c l f true w' ∧ But c w w' := by
  have hb : (bad || !okN n l) = true := by revert hn; cases bad <;> cases okN n l <;> simp
  replace h := hideit h
  replace hn := hideit hn
  replace hb := hideit hb
  go_enter Tryd.func54, Tryd.ntmps54
  go_wp2_with (go_at_call 66; refine (rhas_any lo c l n f bad _ h.out).mono ?_; rw [hn.out, hb.out]; rintro e w1 ⟨rfl, hr1, hb1⟩; replace hr1 := hideit hr1; replace hb1 := hideit hb1; clear h)
  go_ret
  exact ⟨rfl, hr1.out, hb1.out⟩
set_option maxRecDepth 20000 in
theorem ruint_not (lo c l : Nat) (n : Int) (f : Nat → BitVec 8) (bad : Bool) (w : World) (h : Rd lo c l f bad w) (hn : (iswB n && !bad && okN n l) = false) :
    Calls Tryd.prog 42 #[.pointer (some ⟨c, 0, none⟩), .int .i64 n] w fun e w' => e = .returned (.int .u64 0) ∧ Rd lo c l f true w' ∧ But c w w' := by
  cases hi : iswB n with
  | true =>
    have hn2 : (!bad && okN n l) = false := by simpa [hi] using hn
    have hb : (bad || !okN n l) = true := by revert hn2; cases bad <;> cases okN n l <;> simp
    clear hn
    replace h := hideit h
    replace hn2 := hideit hn2
    replace hb := hideit hb
    replace hi := hideit hi
    go_enter Tryd.func42, Tryd.ntmps42
    go_wp2_with (first | (go_at_call 65; refine (isw_any n _).mono ?_; rw [hi.out]; rintro e w' ⟨rfl, rfl⟩) | (go_at_call 66; refine (rhas_any lo c l n f bad _ h.out).mono ?_; rw [hn2.out, hb.out]; rintro e w1 ⟨rfl, hr1, hb1⟩; replace hr1 := hideit hr1; replace hb1 := hideit hb1; clear h))
    go_ret
    exact ⟨rfl, hr1.out, hb1.out⟩
  | false =>
    obtain ⟨v, h1, h2, h3⟩ := h
    have g1 := h1.2.1 1 (by decide)
    have e1 := h1.bad
    have hb0 := hideit (but_setCell w c 1 (.bool true))
    have hr0 : Hid (Rd lo c l f true (w.setCell ⟨c, 1, none⟩ (.bool true))) := ⟨v, h1.setBad true, h2.but hb0.out h3.off, h3⟩
    replace hi := hideit hi
    clear h1 h2 h3 hn
    go_enter Tryd.func42, Tryd.ntmps42
    go_wp2_with (first | (go_at_call 65; refine (isw_any n _).mono ?_; rw [hi.out]; rintro e w' ⟨rfl, rfl⟩) | (go_at_call 66; refine (rhas_any lo c l n f true _ hr0.out).mono ?_; rintro e w1 ⟨rfl, hr1, hb1⟩; simp only [Bool.not_true, Bool.false_and, Bool.true_or] at hr1 ⊢; replace hr1 := hideit hr1; replace hb1 := hideit (hb0.out.trans hb1); clear hr0 hb0))
    go_ret
    exact ⟨rfl, hr1.out, hb1.out⟩
theorem rd_new (lo : Nat) (w : World) (v : Value) (l : Nat) (f : Nat → BitVec 8) (h : BV v l f w) (hi : InB v lo w.heap.size) (t : TypeId) : Rd lo w.heap.size l f false (w.alloc (.cells #[v, .bool false] t)) := by
  have hE : Ext w (w.alloc (.cells #[v, .bool false] t)) := (Below.refl _ _).alloc (Nat.le_refl _) _
  refine ⟨v, RowAt.newOf w 2 (rdv v false) t _ (fun j hj => ?_), h.ext hE, hi⟩
  rcases (by omega : j = 0 ∨ j = 1) with rfl | rfl <;> rfl
theorem OwnB.inB {base n : Nat} {e : TypeId} {v : Value} {g : Nat → Value} {w : World} (h : OwnB base e v n g w) : InB v base w.heap.size := fun a m cp hh => h.lt a.block (by rw [hh]; rfl)
set_option maxRecDepth 20000 in
theorem newr_any (v : Value) (l : Nat) (f : Nat → BitVec 8) (w : World) (h : BV v l f w) (hl : l ≤ 140737488355328) :
    Calls Tryd.prog 41 #[v] w fun e w' => ∃ c, e = .returned (.pointer (some ⟨c, 0, none⟩)) ∧ w.heap.size ≤ c ∧ Rd w.heap.size c l f false w' ∧ Ext w w' := by
  obtain ⟨oa, cp, rfl⟩ := h.form
  replace h := hideit h
  go_enter Tryd.func41, Tryd.ntmps41
  go_wp2_with (go_at_call 17; refine (clone_any _ l f _ h.out hl).mono ?_; rintro e w1 ⟨v1, rfl, hO1, hE1⟩; replace hO1 := hideit hO1; replace hE1 := hideit hE1; obtain ⟨o1, c1, rfl⟩ := hO1.out.bv.form)
  go_ret
  exact ⟨_, rfl, Below.size hE1.out, rd_new _ w1 _ l f hO1.out.bv hO1.out.inB 112, Ext.trans hE1.out ((Below.refl _ _).alloc (Nat.le_refl _) _)⟩
end Go.Proofs.YtgjabfjkokpkiaaDoor
namespace Go.Proofs.YtgjabfjkokpkiaaDoor
open Go.RowKit Go.BigFrame
theorem made_row (k : Nat) : (madeCells (Value.int .u8 0).cells (k * 1)).toList = row k (yv fun _ => 0#8) := by
  apply List.ext_getElem?
  intro i
  by_cases h : i < k
  · rw [row_get k _ i h]
    simp [madeCells, Value.cells, h, Nat.mod_one, yv]
  · rw [List.getElem?_eq_none (by simp [madeCells]; omega), List.getElem?_eq_none (by rw [row_length]; omega)]
theorem wpList_made {P : Program} {t e : TypeId} (w : World) {ops : Array Oper} {rest : List Oper} {o : Oper} {a : Act} {Q : Exit → Act → World → Prop}
    (hu : P.underlying t = some (.slice e)) (hi : (P.info? e).map (fun i => (i.zero, i.size, i.bytes)) = some (some (.int .u8 0), 1, 1)) (hg : o.guard = none) (l c : Operand) (hop : o.op = Op.makeSlice t l c)
    (n : Nat) (hl : a.eval l = .int .i64 (n : Int)) (hc : a.eval c = .int .i64 (n : Int)) (b : n ≤ 140737488355328)
    (hK : ∀ w', OwnB w.heap.size e (.slice (some ⟨w.heap.size, 0, none⟩) n n) n (yv fun _ => 0#8) w' → Ext w w' → wpList P ops Q rest (a.put o.dst (.slice (some ⟨w.heap.size, 0, none⟩) n n)) w') :
    wpList P ops Q (o :: rest) a w := by
  obtain ⟨ti, hi1, hi2, hi3, hi4⟩ := info_parts hi
  refine wpList_make_full w hg l c t hop w.heap.size e ti (.int .u8 0) 1 hu hi1 hi2 hi3 .i64 .i64 (n : Int) (n : Int) n hl hc rfl rfl (by rw [hi4]; omega) (by unfold maxLen; omega) (Nat.le_refl _) ?_
  intro w1 hO hg1
  rw [made_row n] at hO
  exact hK w1 hO ⟨hg1.os, hg1.tape, hg1.output, hg1.size, fun k hk => hg1.block k hk (by simp)⟩
end Go.Proofs.YtgjabfjkokpkiaaDoor
