/-
  Lists of numbers: Put and Get.
-/
import Derived.Test.YtboncdlihgpepaaWr
import Derived.Test.YtboncdlihgpepaaOwnE
namespace Go.Proofs.Ytboncdlihgpepaa
open Go.RowKit Go.BigFrame
/-- numbers as values -/
def uv (xs : Nat → BitVec 64) (j : Nat) : Value := .int .u64 ((xs j).toNat : Int)
/-- the bytes of a list of numbers -/
def lsF (xs : Nat → BitVec 64) (j : Nat) : BitVec 8 := byB (xs (j / 8)) (j % 8)
theorem byB_nat (x : BitVec 64) (j : Nat) : (byB x j).toNat = x.toNat / 2 ^ (8 * j) % 256 := by
  unfold byB
  rw [BitVec.toNat_setWidth, BitVec.toNat_ushiftRight, Nat.shiftRight_eq_div_pow]
theorem le_by (g : Nat → BitVec 8) (x : BitVec 64) (h : ∀ j, j < 8 → g j = byB x j) : leN g 8 = x := by
  apply BitVec.eq_of_toNat_eq
  rw [(leN_nat g 8 (by omega)).1]
  have e0 := byB_nat x 0
  have e1 := byB_nat x 1
  have e2 := byB_nat x 2
  have e3 := byB_nat x 3
  have e4 := byB_nat x 4
  have e5 := byB_nat x 5
  have e6 := byB_nat x 6
  have e7 := byB_nat x 7
  have hx := x.isLt
  simp only [leS, h 0 (by omega), h 1 (by omega), h 2 (by omega), h 3 (by omega), h 4 (by omega), h 5 (by omega), h 6 (by omega), h 7 (by omega), e0, e1, e2, e3, e4, e5, e6, e7]
  clear e0 e1 e2 e3 e4 e5 e6 e7 h
  generalize x.toNat = q at *
  omega
theorem put_nil (w : World) : Sem.run Try.prog (binOp .eql 50 (.func (.func 26) #[] #[]) .nilFunc) w = .ok (.bool false) w := by kernel_rfl
theorem get_nil (w : World) : Sem.run Try.prog (binOp .eql 52 (.func (.func 28) #[] #[]) .nilFunc) w = .ok (.bool false) w := by kernel_rfl
set_option maxRecDepth 20000 in
theorem put1 (c size n0 : Nat) (f : Nat → BitVec 8) (bad : Bool) (x : BitVec 64) (w : World) (h : Wr c size n0 f bad w) (hn : n0 + 8 ≤ size) (hs : size ≤ 16777216) :
    Calls Try.prog 26 #[.pointer (some ⟨c, 0, none⟩), .int .u64 (x.toNat : Int)] w fun e w' => e = .returned (.tuple #[]) ∧ Wr c size (n0 + 8) (catF f n0 (byB x)) bad w' ∧ Below c w w' := by
  have k := hideit (wuint_ok c size n0 8 f bad x w h hn hs (by decide) (by decide) (Nat.div_eq_of_lt x.isLt))
  clear h
  go_enter Try.func26, Try.ntmps26
  go_wp2_with (go_at_call 22; refine k.out.mono ?_; rintro e w1 ⟨rfl, h1, h2⟩; replace h1 := hideit h1; replace h2 := hideit h2; clear k)
  exact bodyPost_end (v := .tuple #[]) (by simp [results, Try.results26]) rfl ⟨rfl, h1.out, h2.out⟩
set_option maxRecDepth 20000 in
set_option maxHeartbeats 2000000 in
theorem put_any (c size n cap : Nat) (f : Nat → BitVec 8) (xs : Nat → BitVec 64) (ol : Option Addr) (w : World) (h : Wr c size 0 f false w) (hn : 8 * n ≤ size) (hs : size ≤ 16777216) (hx : ∀ i, i < n → ∃ ad, ol = some ad ∧ ad.block < c ∧ w.cell? (ad.add i) = some (uv xs i)) :
    Calls Try.prog 25 #[.pointer (some ⟨c, 0, none⟩), .slice ol n cap, .func (.func 26) #[] #[]] w fun e w' => e = .returned (.tuple #[]) ∧ Wr c size (8 * n) (lsF xs) false w' ∧ Below c w w' := by
  replace h := hideit h
  replace hx := hideit hx
  have n0 : (0 : Int) ≤ (n : Int) := by omega
  have n1 : (n : Int) ≤ 2097152 := by omega
  have hpn := put_nil
  go_enter Try.func25, Try.ntmps25
  go_wp2
  go_loopw [16] (fun i X => ∃ k : Nat, k ≤ n ∧ i = .int .i64 k ∧ Wr c size (8 * k) (lsF xs) false X ∧ Below c w X) (fun i _ => n - (intOf i).toNat)
  case atStart => exact ⟨0, Nat.zero_le _, rfl, h.out.congr fun j hj => absurd hj (by omega), Below.refl _ _⟩
  case round =>
    obtain ⟨k, hk, rfl, hW, hB⟩ := hrel
    by_cases hlt : k < n
    · obtain ⟨ad, rfl, hb, hcell⟩ := hx.out k hlt
      have hc2 : wr.cell? (ad.add k) = some (.int .u64 ((xs k).toNat : Int)) := (hB.cell (p := ad.add k) (by unfold Addr.add; split <;> exact hb)).trans hcell
      have kk := hideit (put1 c size (8 * k) (lsF xs) false (xs k) wr hW (by omega) hs)
      have k0 : (0 : Int) ≤ (k : Int) := by omega
      have k1 : (k : Int) < (n : Int) := by omega
      replace hB := hideit hB
      clear hcell hW h
      go_wp2_with (go_at_call 26; refine kk.out.mono ?_; rintro e w1 ⟨rfl, h1, h2⟩; replace h1 := hideit h1; replace h2 := hideit h2; clear kk)
      refine ⟨⟨k + 1, by omega, by go_num, ?_, Below.trans hB.out h2.out⟩, by simp [intOf]; omega⟩
      refine h1.out.congr fun j hj => ?_
      unfold catF
      by_cases hj8 : j < 8 * k
      · rw [if_pos hj8]
      · rw [if_neg hj8]
        unfold lsF
        rw [show j / 8 = k by omega, show j % 8 = j - 8 * k by omega]
    · obtain rfl : k = n := by omega
      go_wp2
      exact bodyPost_end (v := .tuple #[]) (by simp [results, Try.results25]) rfl ⟨rfl, hW, hB⟩
end Go.Proofs.Ytboncdlihgpepaa
