/-
  Lists of numbers: Get.
-/
import Derived.Test.YtboncdlihgpepaaLst
namespace Go.Proofs.Ytboncdlihgpepaa
open Go.RowKit Go.BigFrame
set_option maxRecDepth 20000 in
theorem get1_ok (lo c l : Nat) (f : Nat → BitVec 8) (w : World) (h : Rd lo c l f false w) (hn : 8 ≤ l) :
    Calls Try.prog 28 #[.pointer (some ⟨c, 0, none⟩)] w fun e w' => e = .returned (.int .u64 ((leN f 8).toNat : Int)) ∧ Rd lo c (l - 8) (shF f 8) false w' ∧ But c w w' := by
  have k := hideit (ruint_ok lo c l 8 f w h hn (by decide) (by decide))
  clear h
  go_enter Try.func28, Try.ntmps28
  go_wp2_with (go_at_call 12; refine k.out.mono ?_; rintro e w1 ⟨rfl, h1, h2⟩; replace h1 := hideit h1; replace h2 := hideit h2; clear k)
  go_ret
  exact ⟨rfl, h1.out, h2.out⟩
set_option maxRecDepth 20000 in
theorem get1_not (lo c l : Nat) (f : Nat → BitVec 8) (w : World) (h : Rd lo c l f false w) (hn : l < 8) :
    Calls Try.prog 28 #[.pointer (some ⟨c, 0, none⟩)] w fun e w' => e = .returned (.int .u64 0) ∧ Rd lo c l f true w' ∧ But c w w' := by
  have k := hideit (ruint_not lo c l 8 f false w h (by unfold okN; rw [decide_eq_false (by omega)]; simp))
  clear h
  go_enter Try.func28, Try.ntmps28
  go_wp2_with (go_at_call 12; refine k.out.mono ?_; rintro e w1 ⟨rfl, h1, h2⟩; replace h1 := hideit h1; replace h2 := hideit h2; clear k)
  go_ret
  exact ⟨rfl, h1.out, h2.out⟩
theorem elem48 : ElemB Try.prog 48 29 8 := elem_b Try.underlying48 (by kernel_rfl) (by kernel_rfl) (by kernel_rfl)
theorem Rd.badcell {lo c l : Nat} {f : Nat → BitVec 8} {bad : Bool} {w : World} (h : Rd lo c l f bad w) : w.cell? ⟨c, 1, none⟩ = some (.bool bad) := by
  obtain ⟨v, h1, _⟩ := h
  exact h1.bad
theorem own_form {base n : Nat} {e : TypeId} {v : Value} {g : Nat → Value} {w : World} (h : OwnB base e v n g w) : ∃ o cp, v = .slice o n cp := by
  rcases h.2 with ⟨h1, h0⟩ | ⟨k, cap, cur, hv, _⟩
  · exact ⟨none, 0, by rw [h1, h0]⟩
  · exact ⟨_, _, hv⟩
theorem shF_two (f : Nat → BitVec 8) (a b : Nat) : shF (shF f a) b = shF f (a + b) := by
  funext j; unfold shF; rw [Nat.add_assoc]
set_option maxRecDepth 20000 in
set_option maxHeartbeats 4000000 in
theorem get_any (lo c N n : Nat) (f : Nat → BitVec 8) (xs : Nat → BitVec 64) (w : World) (h : Rd lo c (8 * N) f false w) (hlo : lo ≤ c) (hxs : ∀ k, k < N → leN (shF f (8 * k)) 8 = xs k) (hn : n ≤ 8 * N) (hN : N ≤ 1000) :
    Calls Try.prog 27 #[.pointer (some ⟨c, 0, none⟩), .int .i64 (n : Int), .func (.func 28) #[] #[]] w fun e w' => ∃ v, e = .returned v ∧ Below lo w w' ∧ ((n ≤ N ∧ OwnB w.heap.size 29 v n (uv xs) w' ∧ Rd lo c (8 * (N - n)) (shF f (8 * n)) false w') ∨ (N < n ∧ v = .slice none 0 0 ∧ Rd lo c 0 (shF f (8 * N)) true w')) := by
  have hcw := hideit h.lt
  have hlo9 := hideit hlo
  replace h := hideit h
  replace hxs := hideit hxs
  have n0 : (0 : Int) ≤ (n : Int) := by omega
  have n1 : (n : Int) ≤ 8000 := by omega
  have hgn := get_nil
  go_enter Try.func27, Try.ntmps27
  go_wp2_with (go_at_call 44; refine (rhas_ok lo c (8 * N) n f false _ h.out hn).mono ?_; rintro e w' ⟨rfl, hww⟩; replace hww := hww.symm; subst hww)
  go_loopw [7, 22] (fun v i X => ∃ k : Nat, k ≤ n ∧ k ≤ N ∧ i = .int .i64 k ∧ OwnB w.heap.size 29 v k (uv xs) X ∧ Rd lo c (8 * (N - k)) (shF f (8 * k)) false X ∧ Below lo w X ∧ w.heap.size ≤ X.heap.size) (fun _ i _ => n - (intOf i).toNat)
  case atStart => exact ⟨0, Nat.zero_le _, Nat.zero_le _, rfl, own_nil _ _ _ _, by
    have e1 : shF f (8 * 0) = f := by funext j; unfold shF; rw [Nat.mul_zero, Nat.zero_add]
    rw [e1, Nat.sub_zero]
    exact h.out, Below.refl _ _, Nat.le_refl _⟩
  case round =>
    clear h
    obtain ⟨k, hk, hkN, rfl, hO, hR, hB, hsz⟩ := hrel
    by_cases hlt : k < n
    · have k0 : (0 : Int) ≤ (k : Int) := by omega
      have k1 : (k : Int) < (n : Int) := by omega
      obtain ⟨ov, cv, hv⟩ := own_form hO
      subst hv
      by_cases hlN : k < N
      · have kk := get1_ok lo c (8 * (N - k)) (shF f (8 * k)) wr hR (by omega)
        rw [hxs.out k hlN, shF_two, show 8 * k + 8 = 8 * (k + 1) by omega, show 8 * (N - k) - 8 = 8 * (N - (k + 1)) by omega] at kk
        replace kk := hideit kk
        replace hO := hideit hO
        replace hB := hideit hB
        replace hsz := hideit hsz
        clear hR
        go_upto_region 9 with (go_at_call 28; refine kk.out.mono ?_; rintro e w1 ⟨rfl, hR1, hB1⟩; have e1 := hR1.badcell; have hO1 := hideit (hO.out.but hB1 (own_noblock hO.out hcw.out)); have hL1 := hideit (Below.but hB.out hB1 hlo9.out (by have := hsz.out; have := hcw.out; omega)); have hs1 : Hid (w.heap.size ≤ w1.heap.size) := Nat.le_trans hsz.out hB1.size; replace hR1 := hideit hR1; clear kk hO hB hsz hB1)
        refine wp_region_lit ?_
        refine wpList_run rfl (.slice ov k cv) (by simp [go_sem]) ?_
        simp only [Act.put, List.setIfInBounds_toArray, List.set_cons_zero, List.set_cons_succ]
        refine wpList_run rfl (.int .u64 ((xs k).toNat : Int)) (by simp [go_sem]) ?_
        simp only [Act.put, List.setIfInBounds_toArray, List.set_cons_zero, List.set_cons_succ]
        have hE2 : Ext w1 (w1.alloc (.cells #[.int .u64 ((xs k).toNat : Int)] 29)) := (Below.refl _ _).alloc (Nat.le_refl _) _
        have hN2 : LieAt ⟨w1.heap.size, 0, none⟩ 1 (fun _ => .int .u64 ((xs k).toNat : Int)) (w1.alloc (.cells #[.int .u64 ((xs k).toNat : Int)] 29)) := by
          have hr := RowAt.newOf w1 1 (fun _ => .int .u64 ((xs k).toNat : Int)) 29 #[.int .u64 ((xs k).toNat : Int)] (fun j hj => by
            obtain rfl : j = 0 := by omega
            rfl)
          refine ⟨fun j hj => ?_, hr.2.2⟩
          obtain rfl : j = 0 := by omega
          exact hr.1 0 (by omega)
        have hO2 := hideit (hO1.out.ext hE2)
        have hR2 := hideit (hR1.out.ext hE2)
        have hL2 := hideit (Ext.below hL1.out (by have := hs1.out; have := hcw.out; have := hlo9.out; omega) hE2)
        have hs2 : Hid (w.heap.size ≤ (w1.alloc (.cells #[.int .u64 ((xs k).toNat : Int)] 29)).heap.size) := Nat.le_trans hs1.out hE2.size
        replace hN2 := hideit hN2
        clear hO1 hR1 hL1 hs1 hE2 e1
        refine wpList_to rfl (.slice (some ⟨w1.heap.size, 0, none⟩) 1 1) (w1.alloc (.cells #[.int .u64 ((xs k).toNat : Int)] 29)) (by simp [go_sem]) ?_
        obtain ⟨Y, hY⟩ : ∃ Y, Y = w1.alloc (.cells #[.int .u64 ((xs k).toNat : Int)] 29) := ⟨_, rfl⟩
        rw [← hY] at hN2 hO2 hR2 hL2 hs2 ⊢
        clear hY
        have hf2 : ∀ j, j < 1 → (Value.int .u64 ((xs k).toNat : Int)) = uv xs (k + j) := fun j hj => by
          obtain rfl : j = 0 := by omega
          rfl
        simp only [Act.put, List.setIfInBounds_toArray, List.set_cons_zero, List.set_cons_succ]
        refine wpList_growE (n := k) (base := w.heap.size) elem48 rfl (.tmp 31) (.tmp 33) rfl rfl hO2.out ⟨w1.heap.size, 0, none⟩ 1 1 (fun _ => .int .u64 ((xs k).toNat : Int)) (uv xs) rfl hN2.out (fun _ _ => rfl) (fun _ _ => rfl) hf2 (by omega) (by omega) hs2.out ?_
        intro v3 w3 hO3 hg3
        have hB3 : Below w.heap.size Y w3 := below_grown hs2.out hg3 (fun q hq => (hO2.out.lt q hq).1)
        have hR3 := hideit (hR2.out.below hcw.out hB3)
        have hL3 := hideit (Below.trans hL2.out (Below.mono hB3 (by have := hcw.out; have := hlo9.out; omega)))
        have hs3 : Hid (w.heap.size ≤ w3.heap.size) := Nat.le_trans hs2.out hB3.size
        replace hO3 := hideit hO3
        clear hO2 hN2 hR2 hL2 hs2 hB3 hg3
        simp only [Act.put, List.setIfInBounds_toArray, List.set_cons_zero, List.set_cons_succ]
        go_wp2
        exact ⟨⟨k + 1, by omega, by omega, by go_num, hO3.out, hR3.out, hL3.out, hs3.out⟩, by simp [intOf]; omega⟩
      · obtain rfl : k = N := by omega
        have kk := get1_not lo c (8 * (k - k)) (shF f (8 * k)) wr hR (by omega)
        replace kk := hideit kk
        replace hB := hideit hB
        replace hsz := hideit hsz
        clear hR hO
        go_wp2_with (go_at_call 28; refine kk.out.mono ?_; rintro e w1 ⟨rfl, hR1, hB1⟩; have e1 := hR1.badcell; have hL1 := hideit (Below.but hB.out hB1 hlo9.out (by have := hsz.out; have := hcw.out; omega)); replace hR1 := hideit hR1; clear kk hB hsz hB1)
        go_ret
        refine ⟨_, rfl, hL1.out, .inr ⟨hlt, rfl, ?_⟩⟩
        have := hR1.out
        rwa [Nat.sub_self, Nat.mul_zero] at this
    · obtain rfl : k = n := by omega
      replace hO := hideit hO
      replace hR := hideit hR
      replace hB := hideit hB
      go_wp2
      go_ret
      exact ⟨_, rfl, hB.out, .inl ⟨hkN, hO.out, hR.out⟩⟩
end Go.Proofs.Ytboncdlihgpepaa
