/-
  Readers: bytes that are passed over and told, for every Reader in every world. Readers: what Bytes, Uint, Zeros and Done answer, for every Reader in every world.
-/
import Derived.Test.YtiakkclabgelfaaDoorQc14
namespace Go.Proofs.YtiakkclabgelfaaDoor
set_option maxRecDepth 20000
open Go.RowKit Go.BigFrame
theorem OwnB.weaken {base base' n : Nat} {e : TypeId} {v : Value} {g : Nat → Value} {w : World} (h : OwnB base e v n g w) (hb : base' ≤ base) : OwnB base' e v n g w :=
  ⟨h.1, h.2.imp id (fun ⟨g, cap, cur, a, b, c⟩ => ⟨g, cap, cur, a, Nat.le_trans hb b, c⟩)⟩
theorem OwnB.off {base n c : Nat} {e : TypeId} {v : Value} {g : Nat → Value} {w : World} (h : OwnB base e v n g w) (hc : c < base) : ∀ a m cp, v = .slice (some a) m cp → a.block ≠ c := fun a m cp hh => by
  have := (h.lt a.block (by rw [hh]; rfl)).1
  omega
def OffB (v : Value) (c : Nat) : Prop := ∀ a n cp, v = .slice (some a) n cp → a.block ≠ c
def InB (v : Value) (lo hi : Nat) : Prop := ∀ a n cp, v = .slice (some a) n cp → lo ≤ a.block ∧ a.block < hi
theorem InB.off {v : Value} {lo hi : Nat} (h : InB v lo hi) : OffB v hi := fun a n cp hh => Nat.ne_of_lt (h a n cp hh).2
def Rd (lo c l : Nat) (f : Nat → BitVec 8) (bad : Bool) (w : World) : Prop := ∃ v, RdAt c v bad w ∧ BV v l f w ∧ InB v lo c
theorem BV.but {v : Value} {l c : Nat} {b : Nat → BitVec 8} {w X : World} (h : BV v l b w) (k : But c w X) (ho : OffB v c) : BV v l b X := by
  rcases h with h | ⟨a, cap, h1, h2, h3⟩
  · exact .inl h
  · exact .inr ⟨a, cap, h1, h2, h3.but k (ho _ _ _ h1)⟩
theorem Rd.ext {lo c l : Nat} {f : Nat → BitVec 8} {bad : Bool} {w X : World} (h : Rd lo c l f bad w) (k : Ext w X) : Rd lo c l f bad X := by
  obtain ⟨v, h1, h2, h3⟩ := h
  exact ⟨v, RowAt.carry h1 k, h2.ext k, h3⟩
theorem Rd.but {lo c d l : Nat} {f : Nat → BitVec 8} {bad : Bool} {w X : World} (h : Rd lo c l f bad w) (k : But d w X) (hd : d < lo ∨ c < d) (hlo : lo ≤ c) : Rd lo c l f bad X := by
  obtain ⟨v, h1, h2, h3⟩ := h
  exact ⟨v, RowAt.but h1 k (by omega), h2.but k (fun a n cp hh => by have := h3 a n cp hh; omega), h3⟩
theorem Rd.lt {lo c l : Nat} {f : Nat → BitVec 8} {bad : Bool} {w : World} (h : Rd lo c l f bad w) : c < w.heap.size := by
  obtain ⟨v, h1, _⟩ := h
  exact h1.2.2
theorem RowAt.belowB {b n B : Nat} {g : Nat → Value} {w X : World} (h : RowAt b n g w) (hb : b < B) (k : Below B w X) : RowAt b n g X :=
  ⟨fun j hj => (k.cell (p := ⟨b, j, none⟩) hb).trans (h.1 j hj), fun j hj => (k.frozen (p := ⟨b, j, none⟩) hb).trans (h.2.1 j hj), Nat.lt_of_lt_of_le h.2.2 k.size⟩
theorem Rd.below {lo c B l : Nat} {f : Nat → BitVec 8} {bad : Bool} {w X : World} (h : Rd lo c l f bad w) (hc : c < B) (k : Below B w X) : Rd lo c l f bad X := by
  obtain ⟨v, h1, h2, h3⟩ := h
  refine ⟨v, RowAt.belowB h1 hc k, ?_, h3⟩
  rcases h2 with h2 | ⟨a, cap, q1, q2, q3⟩
  · exact .inl h2
  · exact .inr ⟨a, cap, q1, q2, q3.below (by have := (h3 _ _ _ q1).2; omega) k⟩
def shF (f : Nat → BitVec 8) (n : Nat) (j : Nat) : BitVec 8 := f (n + j)
set_option maxRecDepth 20000 in
theorem pass_any (lo c l n : Nat) (f : Nat → BitVec 8) (bad : Bool) (w : World) (h : Rd lo c l f bad w) (hn : n ≤ l) :
    Calls Tryd.prog 80 #[.pointer (some ⟨c, 0, none⟩), .int .i64 n] w fun e w' => ∃ v, e = .returned v ∧ BV v n f w' ∧ OffB v c ∧ Rd lo c (l - n) (shF f n) bad w' ∧ But c w w' := by
  obtain ⟨v, h1, h2, h3⟩ := h
  rcases h2 with ⟨rfl, rfl⟩ | ⟨a, cap, rfl, h4, h5⟩
  · obtain rfl : n = 0 := by omega
    have e0 := h1.bytes
    have g0 := h1.2.1 0 (by decide)
    have hs := hideit (h1.setBytes (.slice none 0 0))
    clear h1 h3
    go_enter Tryd.func80, Tryd.ntmps80
    go_wp2
    go_ret
    exact ⟨_, rfl, .inl ⟨rfl, rfl⟩, (fun a n cp hh => by cases hh), ⟨_, hs.out, .inl ⟨rfl, rfl⟩, (fun a n cp hh => by cases hh)⟩, but_setCell _ _ _ _⟩
  · by_cases hct : cap = n
    · have e0 := h1.bytes
      have g0 := h1.2.1 0 (by decide)
      have n0 : (0 : Int) ≤ (n : Int) := by omega
      have n1 : (n : Int) ≤ (l : Int) := by omega
      have n2 : (n : Int) ≤ (cap : Int) := by omega
      have hs := hideit (h1.setBytes (.slice (some a) (l - n) 0))
      have hi := h3 _ _ _ rfl
      have hc : a.block ≠ c := Nat.ne_of_lt hi.2
      have hb := hideit (but_setCell w c 0 (.slice (some a) (l - n) 0))
      have h6 := hideit (h5.but hb.out hc)
      have H4 := hideit h4
      clear h1 h3 h5 h4
      go_enter Tryd.func80, Tryd.ntmps80
      go_wp2
      go_ret
      refine ⟨_, rfl, .inr ⟨a, _, rfl, by omega, ⟨fun j hj => h6.out.1 j (by omega), h6.out.2⟩⟩, (fun x y z hh => by injection hh with hh; injection hh with hh; rw [← hh]; exact hc), ⟨_, hs.out, .inr ⟨a, 0, rfl, by have := H4.out; omega, ⟨fun j hj => by have := H4.out; omega, h6.out.2⟩⟩, (fun x y z hh => by injection hh with hh; injection hh with hh; rw [← hh]; exact hi)⟩, hb.out⟩
    · have e0 := h1.bytes
      have g0 := h1.2.1 0 (by decide)
      have n0 : (0 : Int) ≤ (n : Int) := by omega
      have n1 : (n : Int) ≤ (l : Int) := by omega
      have n2 : (n : Int) ≤ (cap : Int) := by omega
      have hs := hideit (h1.setBytes (.slice (some (a.add n)) (l - n) (cap - n)))
      have hi := h3 _ _ _ rfl
      have hc : a.block ≠ c := Nat.ne_of_lt hi.2
      have hb := hideit (but_setCell w c 0 (.slice (some (a.add n)) (l - n) (cap - n)))
      have h6 := hideit (h5.but hb.out hc)
      have H4 := hideit h4
      clear h1 h3 h5 h4
      go_enter Tryd.func80, Tryd.ntmps80
      go_wp2
      go_ret
      refine ⟨_, rfl, .inr ⟨a, _, rfl, by omega, ⟨fun j hj => h6.out.1 j (by omega), h6.out.2⟩⟩, (fun x y z hh => by injection hh with hh; injection hh with hh; rw [← hh]; exact hc), ⟨_, hs.out, .inr ⟨a.add n, cap - n, rfl, by have := H4.out; omega, ⟨fun j hj => by rw [add_add]; exact h6.out.1 (n + j) (by omega), by rw [add_block]; exact h6.out.2⟩⟩, (fun x y z hh => by injection hh with hh; injection hh with hh; rw [← hh, add_block]; exact hi)⟩, hb.out⟩
def zB (f : Nat → BitVec 8) : Nat → Bool
  | 0 => true
  | n + 1 => zB f n && f n == 0#8
theorem zB_false {f : Nat → BitVec 8} {i : Nat} (h : ¬ f i = 0#8) : ∀ l, i < l → zB f l = false
  | 0, hl => by omega
  | l + 1, hl => by
    unfold zB
    by_cases e : i = l
    · subst e; simp [h]
    · rw [zB_false h l (by omega)]; rfl
theorem zB_spec {f : Nat → BitVec 8} : ∀ l, zB f l = true ↔ ∀ i, i < l → f i = 0#8
  | 0 => ⟨fun _ i hi => by omega, fun _ => rfl⟩
  | l + 1 => by
    unfold zB
    rw [Bool.and_eq_true, zB_spec l, beq_iff_eq]
    refine ⟨fun h i hi => ?_, fun h => ⟨fun i hi => h i (by omega), h l (by omega)⟩⟩
    by_cases e : i = l
    · subst e; exact h.2
    · exact h.1 i (by omega)
theorem ne0 {x : BitVec 8} : ((x.toNat : Int) = 0) ↔ x = 0#8 := by
  rw [← BitVec.toNat_inj]; simp
set_option maxRecDepth 20000 in
set_option maxHeartbeats 1000000 in
theorem zeros_any (v : Value) (l : Nat) (f : Nat → BitVec 8) (w : World) (h : BV v l f w) (hl : l ≤ 140737488355328) :
    Calls Tryd.prog 99 #[v] w fun e w' => e = .returned (.bool (zB f l)) ∧ w' = w := by
  obtain ⟨oa, cp, rfl⟩ := h.form
  have hcell : Hid (∀ j, j < l → ∃ ad, oa = some ad ∧ w.cell? (ad.add j) = some (.int .u8 ((f j).toNat : Int))) := by
    intro j hj
    rcases h with ⟨_, h0⟩ | ⟨a, cap, h1, h2, h3⟩
    · omega
    · injection h1 with h1 _ _
      exact ⟨a, h1, h3.1 j hj⟩
  clear h
  go_enter Tryd.func99, Tryd.ntmps99
  go_wp2
  go_loop [7] (fun i => ∃ k : Nat, k ≤ l ∧ i = .int .i64 k ∧ zB f k = true) (fun i => l - (intOf i).toNat)
  case atStart => exact ⟨0, Nat.zero_le _, rfl, rfl⟩
  case round =>
    obtain ⟨k, hk, rfl, hz⟩ := hrel
    replace hz := hideit hz
    by_cases hlt : k < l
    · obtain ⟨ad, rfl, hc⟩ := hcell.out k hlt
      have k0 : (0 : Int) ≤ (k : Int) := by omega
      have k1 : (k : Int) < (l : Int) := by omega
      by_cases hx : f k = 0#8
      · have hx2 : ((f k).toNat : Int) = 0 := ne0.2 hx
        have hx3 : zB f (k + 1) = true := by unfold zB; rw [hz.out, hx]; rfl
        replace hx3 := hideit hx3
        go_wp2
        go_round
        case rel => exact ⟨k + 1, by omega, by go_num, hx3.out⟩
        case measure => simp [intOf]; omega
      · have hx2 : ¬ ((f k).toNat : Int) = 0 := fun e => hx (ne0.1 e)
        have hx3 := hideit (zB_false hx l hlt)
        go_wp2
        go_ret
        exact ⟨by rw [hx3.out]; rfl, rfl⟩
    · obtain rfl : k = l := by omega
      go_wp2
      go_ret
      exact ⟨by rw [hz.out]; rfl, rfl⟩
end Go.Proofs.YtiakkclabgelfaaDoor
namespace Go.Proofs.YtiakkclabgelfaaDoor
set_option maxRecDepth 20000
open Go.RowKit Go.BigFrame
theorem rhas_ok (lo c l n : Nat) (f : Nat → BitVec 8) (bad : Bool) (w : World) (h : Rd lo c l f bad w) (hn : n ≤ l) :
    Calls Tryd.prog 79 #[.pointer (some ⟨c, 0, none⟩), .int .i64 n] w fun e w' => e = .returned (.bool (!bad)) ∧ w' = w := by
  obtain ⟨v, h1, h2, h3⟩ := h
  obtain ⟨oa, cp, rfl⟩ := h2.form
  exact has_ok c oa l cp bad n w h1 hn
theorem rhas_no (lo c l : Nat) (n : Int) (f : Nat → BitVec 8) (bad : Bool) (w : World) (h : Rd lo c l f bad w) (hn : n < 0 ∨ (l : Int) < n) :
    Calls Tryd.prog 79 #[.pointer (some ⟨c, 0, none⟩), .int .i64 n] w fun e w' => e = .returned (.bool false) ∧ Rd lo c l f true w' ∧ But c w w' := by
  obtain ⟨v, h1, h2, h3⟩ := h
  obtain ⟨oa, cp, rfl⟩ := h2.form
  exact (has_no c oa l cp bad n w h1 hn).mono fun e w' hh => ⟨hh.1, ⟨_, hh.2.1, h2.but hh.2.2 h3.off, h3⟩, hh.2.2⟩
set_option maxRecDepth 20000 in
theorem rbytes_ok (lo c l n : Nat) (f : Nat → BitVec 8) (w : World) (h : Rd lo c l f false w) (hn : n ≤ l) (hl : l ≤ 140737488355328) :
    Calls Tryd.prog 59 #[.pointer (some ⟨c, 0, none⟩), .int .i64 n] w fun e w' => ∃ v, e = .returned v ∧ OwnB w.heap.size 5 v n (yv f) w' ∧ OffB v c ∧ Rd lo c (l - n) (shF f n) false w' ∧ But c w w' := by
  have hw : Hid (c < w.heap.size) := h.lt
  replace h := hideit h
  have hl2 : n ≤ 140737488355328 := by omega
  go_enter Tryd.func59, Tryd.ntmps59
  go_wp2_with (first | (go_at_call 79; refine (rhas_ok lo c l n f false _ h.out hn).mono ?_; rintro e w' ⟨rfl, rfl⟩) | (go_at_call 80; refine (pass_any lo c l n f false _ h.out hn).mono ?_; rintro e w1 ⟨v1, rfl, hv1, ho1, hr1, hb1⟩; replace hv1 := hideit hv1; replace hr1 := hideit hr1; replace hb1 := hideit hb1; clear h) | (go_at_call 57; refine (clone_any _ n f _ hv1.out hl2).mono ?_; rintro e w2 ⟨v2, rfl, hO2, hE2⟩; replace hO2 := hideit hO2; replace hE2 := hideit hE2))
  go_ret
  have hO : OwnB w'.heap.size 5 v2 n (yv f) w2 := hO2.out.weaken (hb1.out.size)
  exact ⟨v2, rfl, hO, hO.off hw.out, hr1.out.ext hE2.out, hb1.out.ext hE2.out⟩
def leN (f : Nat → BitVec 8) : Nat → BitVec 64
  | 0 => 0#64
  | n + 1 => leN f n ||| (f n).setWidth 64 <<< (8 * n)
def leS (f : Nat → BitVec 8) : Nat → Nat
  | 0 => 0
  | n + 1 => leS f n + (f n).toNat * 2 ^ (8 * n)
theorem leN_nat (f : Nat → BitVec 8) : ∀ n, n ≤ 8 → (leN f n).toNat = leS f n ∧ leS f n < 2 ^ (8 * n)
  | 0, _ => ⟨rfl, by show 0 < 1; omega⟩
  | n + 1, h => by
    obtain ⟨h1, h2⟩ := leN_nat f n (by omega)
    have hf := (f n).isLt
    have hp : 2 ^ (8 * (n + 1)) = 256 * 2 ^ (8 * n) := by rw [show 8 * (n + 1) = 8 + 8 * n by omega, Nat.pow_add]
    have hlt : leS f n + (f n).toNat * 2 ^ (8 * n) < 2 ^ (8 * (n + 1)) := by
      rw [hp]
      have := Nat.mul_le_mul_right (2 ^ (8 * n)) (show (f n).toNat + 1 ≤ 256 by omega)
      rw [Nat.add_mul, Nat.one_mul] at this
      omega
    refine ⟨?_, hlt⟩
    have h64 : 2 ^ (8 * (n + 1)) ≤ 2 ^ 64 := Nat.pow_le_pow_right (by decide) (by omega)
    simp only [leN, leS]
    have e1 : (f n).toNat % 2 ^ 64 = (f n).toNat := Nat.mod_eq_of_lt (by omega)
    rw [BitVec.toNat_or, BitVec.toNat_shiftLeft, BitVec.toNat_setWidth, e1, h1, Nat.mod_eq_of_lt (by rw [Nat.shiftLeft_eq]; omega), Nat.or_comm, ← Nat.shiftLeft_add_eq_or_of_lt h2, Nat.shiftLeft_eq, Nat.add_comm]
theorem or_shl (x : BitVec 64) (b : BitVec 8) (k : Nat) : bits .or .u64 (x.toNat : Int) (((b.toNat * 2 ^ (8 * k) % 18446744073709551616 : Nat)) : Int) = ((x ||| b.setWidth 64 <<< (8 * k)).toNat : Int) := by
  rw [u64_or_nat _ _ x.isLt (Nat.mod_lt _ (by decide)), BitVec.toNat_or, BitVec.toNat_shiftLeft, Nat.shiftLeft_eq, BitVec.toNat_setWidth]
  have : b.toNat % 2 ^ 64 = b.toNat := Nat.mod_eq_of_lt (by have := b.isLt; omega)
  rw [this]
theorem or_wrap (x : BitVec 64) (b : BitVec 8) (k : Nat) : bits .or .u64 (x.toNat : Int) (IntKind.u64.wrap ((b.toNat : Int) * 2 ^ (8 * k))) = ((x ||| b.setWidth 64 <<< (8 * k)).toNat : Int) := by
  rw [IntKind.wrap_u64, ← or_shl]
  rw [Int.natCast_emod, Int.natCast_mul, Int.natCast_pow]
  rfl
set_option maxRecDepth 20000 in
set_option maxHeartbeats 2000000 in
theorem ruint_ok (lo c l n : Nat) (f : Nat → BitVec 8) (w : World) (h : Rd lo c l f false w) (hn : n ≤ l) (hw : iswB n = true) (hn8 : n ≤ 8) :
    Calls Tryd.prog 60 #[.pointer (some ⟨c, 0, none⟩), .int .i64 n] w fun e w' => e = .returned (.int .u64 ((leN f n).toNat : Int)) ∧ Rd lo c (l - n) (shF f n) false w' ∧ But c w w' := by
  replace h := hideit h
  replace hw := hideit hw
  go_enter Tryd.func60, Tryd.ntmps60
  go_wp2_with (first | (go_at_call 81; refine (isw_any n _).mono ?_; rw [hw.out]; rintro e w' ⟨rfl, rfl⟩) | (go_at_call 79; refine (rhas_ok lo c l n f false _ h.out hn).mono ?_; rintro e w' ⟨rfl, rfl⟩) | (go_at_call 80; refine (pass_any lo c l n f false _ h.out hn).mono ?_; rintro e w1 ⟨v1, rfl, hv1, ho1, hr1, hb1⟩; obtain ⟨oa, cp, rfl⟩ := hv1.form; replace hv1 := hideit hv1; replace hr1 := hideit hr1; replace hb1 := hideit hb1; clear h))
  have hcell : Hid (∀ j, j < n → ∃ ad, oa = some ad ∧ w1.cell? (ad.add j) = some (.int .u8 ((f j).toNat : Int))) := by
    intro j hj
    rcases hv1.out with ⟨_, h0⟩ | ⟨a, cap, h1, h2, h3⟩
    · omega
    · injection h1 with h1 _ _
      exact ⟨a, h1, h3.1 j hj⟩
  clear hv1
  go_loop [5, 24] (fun x i => ∃ k : Nat, k ≤ n ∧ i = .int .i64 k ∧ x = .int .u64 ((leN f k).toNat : Int)) (fun _ i => n - (intOf i).toNat)
  case atStart => exact ⟨0, Nat.zero_le _, rfl, rfl⟩
  case round =>
    obtain ⟨k, hk, rfl, rfl⟩ := hrel
    by_cases hlt : k < n
    · obtain ⟨ad, rfl, hc⟩ := hcell.out k hlt
      have k0 : (0 : Int) ≤ (k : Int) := by omega
      have k1 : (k : Int) < (n : Int) := by omega
      have k2 : (k : Int) < 8 := by omega
      go_wp2
      go_round
      case rel =>
        refine ⟨k + 1, by omega, by go_num, ?_⟩
        rw [or_wrap]
        rfl
      case measure => simp [intOf]; omega
    · obtain rfl : k = n := by omega
      go_wp2
      go_ret
      exact ⟨rfl, hr1.out, hb1.out⟩
def okN (n : Int) (l : Nat) : Bool := decide (0 ≤ n ∧ n ≤ (l : Int))
theorem okN_true {n : Int} {l : Nat} (h : okN n l = true) : ∃ k : Nat, n = (k : Int) ∧ k ≤ l := by
  have := of_decide_eq_true h
  exact ⟨n.toNat, by omega, by omega⟩
theorem okN_false {n : Int} {l : Nat} (h : okN n l = false) : n < 0 ∨ (l : Int) < n := by
  have := of_decide_eq_false h
  omega
theorem okN_nat {k l : Nat} (h : k ≤ l) : okN (k : Int) l = true := decide_eq_true ⟨by omega, by omega⟩
theorem rhas_any (lo c l : Nat) (n : Int) (f : Nat → BitVec 8) (bad : Bool) (w : World) (h : Rd lo c l f bad w) :
    Calls Tryd.prog 79 #[.pointer (some ⟨c, 0, none⟩), .int .i64 n] w fun e w' => e = .returned (.bool (!bad && okN n l)) ∧ Rd lo c l f (bad || !okN n l) w' ∧ But c w w' := by
  cases ho : okN n l with
  | true =>
    obtain ⟨k, rfl, hk⟩ := okN_true ho
    exact (rhas_ok lo c l k f bad w h hk).mono fun e w' hh => ⟨by rw [hh.1]; simp, by rw [hh.2]; simpa using h, by rw [hh.2]; exact But.refl _ _⟩
  | false => exact (rhas_no lo c l n f bad w h (okN_false ho)).mono fun e w' hh => ⟨by rw [hh.1]; simp, by simpa using hh.2.1, hh.2.2⟩
theorem rbytes_not (lo c l : Nat) (n : Int) (f : Nat → BitVec 8) (bad : Bool) (w : World) (h : Rd lo c l f bad w) (hn : (!bad && okN n l) = false) :
    Calls Tryd.prog 59 #[.pointer (some ⟨c, 0, none⟩), .int .i64 n] w fun e w' => e = .returned (.slice none 0 0) ∧ Rd lo c l f true w' ∧ But c w w' := by
  have hb : (bad || !okN n l) = true := by revert hn; cases bad <;> cases okN n l <;> simp
  replace h := hideit h
  replace hn := hideit hn
  replace hb := hideit hb
  go_enter Tryd.func59, Tryd.ntmps59
  go_wp2_with (go_at_call 79; refine (rhas_any lo c l n f bad _ h.out).mono ?_; rw [hn.out, hb.out]; rintro e w1 ⟨rfl, hr1, hb1⟩; replace hr1 := hideit hr1; replace hb1 := hideit hb1; clear h)
  go_ret
  exact ⟨rfl, hr1.out, hb1.out⟩
theorem RdAt.rd {lo c l : Nat} {v : Value} {f : Nat → BitVec 8} {bad : Bool} {w : World} (h : RdAt c v bad w) (h2 : BV v l f w) (h3 : InB v lo c) : Rd lo c l f bad w := ⟨v, h, h2, h3⟩
set_option maxRecDepth 20000 in
theorem ruint_not (lo c l : Nat) (n : Int) (f : Nat → BitVec 8) (bad : Bool) (w : World) (h : Rd lo c l f bad w) (hn : (iswB n && !bad && okN n l) = false) :
    Calls Tryd.prog 60 #[.pointer (some ⟨c, 0, none⟩), .int .i64 n] w fun e w' => e = .returned (.int .u64 0) ∧ Rd lo c l f true w' ∧ But c w w' := by
  cases hi : iswB n with
  | true =>
    have hn2 : (!bad && okN n l) = false := by simpa [hi] using hn
    have hb : (bad || !okN n l) = true := by revert hn2; cases bad <;> cases okN n l <;> simp
    clear hn
    replace h := hideit h
    replace hn2 := hideit hn2
    replace hb := hideit hb
    replace hi := hideit hi
    go_enter Tryd.func60, Tryd.ntmps60
    go_wp2_with (first | (go_at_call 81; refine (isw_any n _).mono ?_; rw [hi.out]; rintro e w' ⟨rfl, rfl⟩) | (go_at_call 79; refine (rhas_any lo c l n f bad _ h.out).mono ?_; rw [hn2.out, hb.out]; rintro e w1 ⟨rfl, hr1, hb1⟩; replace hr1 := hideit hr1; replace hb1 := hideit hb1; clear h))
    go_ret
    exact ⟨rfl, hr1.out, hb1.out⟩
  | false =>
    obtain ⟨v, h1, h2, h3⟩ := h
    have g1 := h1.2.1 1 (by decide)
    have e1 := h1.bad
    have hb0 := hideit (but_setCell w c 1 (.bool true))
    have hr0 : Hid (Rd lo c l f true (w.setCell ⟨c, 1, none⟩ (.bool true))) := ⟨v, h1.setBad true, h2.but hb0.out h3.off, h3⟩
    replace hi := hideit hi
    clear h1 h2 h3 hn
    go_enter Tryd.func60, Tryd.ntmps60
    go_wp2_with (first | (go_at_call 81; refine (isw_any n _).mono ?_; rw [hi.out]; rintro e w' ⟨rfl, rfl⟩) | (go_at_call 79; refine (rhas_any lo c l n f true _ hr0.out).mono ?_; rintro e w1 ⟨rfl, hr1, hb1⟩; simp only [Bool.not_true, Bool.false_and, Bool.true_or] at hr1 ⊢; replace hr1 := hideit hr1; replace hb1 := hideit (hb0.out.trans hb1); clear hr0 hb0))
    go_ret
    exact ⟨rfl, hr1.out, hb1.out⟩
def dnI (b : Bool) : Int := if b then 90 else 0
set_option maxRecDepth 20000 in
theorem rdone_any (lo c l : Nat) (f : Nat → BitVec 8) (bad : Bool) (w : World) (h : Rd lo c l f bad w) (hl : l ≤ 140737488355328) :
    Calls Tryd.prog 95 #[.pointer (some ⟨c, 0, none⟩)] w fun e w' => e = .returned (.int .i64 (dnI (bad || !zB f l))) ∧ w' = w := by
  obtain ⟨v, h1, h2, h3⟩ := h
  have e0 := h1.bytes
  have e1 := h1.bad
  replace h2 := hideit h2
  clear h1 h3
  cases bad with
  | true =>
    go_enter Tryd.func95, Tryd.ntmps95
    go_wp2
    go_ret
    exact ⟨rfl, rfl⟩
  | false =>
    cases hz : zB f l with
    | true =>
      replace hz := hideit hz
      go_enter Tryd.func95, Tryd.ntmps95
      go_wp2_with (go_at_call 99; refine (zeros_any _ l f _ h2.out hl).mono ?_; rw [hz.out]; rintro e w' ⟨rfl, rfl⟩)
      go_ret
      exact ⟨rfl, rfl⟩
    | false =>
      replace hz := hideit hz
      go_enter Tryd.func95, Tryd.ntmps95
      go_wp2_with (go_at_call 99; refine (zeros_any _ l f _ h2.out hl).mono ?_; rw [hz.out]; rintro e w' ⟨rfl, rfl⟩)
      go_ret
      exact ⟨rfl, rfl⟩
theorem rd_new (lo : Nat) (w : World) (v : Value) (l : Nat) (f : Nat → BitVec 8) (h : BV v l f w) (hi : InB v lo w.heap.size) (t : TypeId) : Rd lo w.heap.size l f false (w.alloc (.cells #[v, .bool false] t)) := by
  have hE : Ext w (w.alloc (.cells #[v, .bool false] t)) := (Below.refl _ _).alloc (Nat.le_refl _) _
  refine ⟨v, RowAt.newOf w 2 (rdv v false) t _ (fun j hj => ?_), h.ext hE, hi⟩
  rcases (by omega : j = 0 ∨ j = 1) with rfl | rfl <;> rfl
theorem OwnB.inB {base n : Nat} {e : TypeId} {v : Value} {g : Nat → Value} {w : World} (h : OwnB base e v n g w) : InB v base w.heap.size := fun a m cp hh => h.lt a.block (by rw [hh]; rfl)
set_option maxRecDepth 20000 in
theorem newr_any (v : Value) (l : Nat) (f : Nat → BitVec 8) (w : World) (h : BV v l f w) (hl : l ≤ 140737488355328) :
    Calls Tryd.prog 58 #[v] w fun e w' => ∃ c, e = .returned (.pointer (some ⟨c, 0, none⟩)) ∧ w.heap.size ≤ c ∧ Rd w.heap.size c l f false w' ∧ Ext w w' := by
  obtain ⟨oa, cp, rfl⟩ := h.form
  replace h := hideit h
  go_enter Tryd.func58, Tryd.ntmps58
  go_wp2_with (go_at_call 57; refine (clone_any _ l f _ h.out hl).mono ?_; rintro e w1 ⟨v1, rfl, hO1, hE1⟩; replace hO1 := hideit hO1; replace hE1 := hideit hE1; obtain ⟨o1, c1, rfl⟩ := hO1.out.bv.form)
  go_ret
  exact ⟨_, rfl, Below.size hE1.out, rd_new _ w1 _ l f hO1.out.bv hO1.out.inB 120, Ext.trans hE1.out ((Below.refl _ _).alloc (Nat.le_refl _) _)⟩
end Go.Proofs.YtiakkclabgelfaaDoor
