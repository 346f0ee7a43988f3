/-
  For all bytes and any two numbers the law CodecParts returns true, and its arguments read behind the call as they read before.
-/
import Derived.Test.YtboncdlihgpepaaRows
import Derived.ProofKit
import Derived.OpenShut
import Derived.ShutString
import Derived.ChangeOld
import Derived.Below
import Derived.SizedLaws
import Derived.Test.YtboncdlihgpepaaLives
import Derived.Test.YtboncdlihgpepaaOpen
namespace Go.Proofs.Ytboncdlihgpepaa.codecParts
open Go.ChangeShapes Go.WideShapes Go.ChangeAt Go.RowKit
set_option linter.unusedVariables false

theorem own : ownKnob Try.prog.godebug = none := by kernel_rfl
theorem laidOut : laidOutB Try.prog = true := by kernel_rfl

open Go.BigFrame
theorem shF_shF (f : Nat → BitVec 8) (a b : Nat) : shF (shF f a) b = shF f (a + b) := by
  funext j; unfold shF; rw [Nat.add_assoc]
/-- two readers, one behind the other -/
structure Pair (L x M y : Nat) (la : Nat) (fa : Nat → BitVec 8) (lb : Nat) (fb : Nat → BitVec 8) (w : World) : Prop where
  x1 : Rd L x la fa false w
  y1 : Rd M y lb fb false w
  lx : L ≤ x
  xM : x < M
  My : M ≤ y
theorem Pair.ext {L x M y la lb : Nat} {fa fb : Nat → BitVec 8} {w X : World} (h : Pair L x M y la fa lb fb w) (k : Ext w X) : Pair L x M y la fa lb fb X := ⟨h.x1.ext k, h.y1.ext k, h.lx, h.xM, h.My⟩
theorem Pair.onX {L x M y la lb la' : Nat} {fa fb fa' : Nat → BitVec 8} {w X : World} (h : Pair L x M y la fa lb fb w) (k : But x w X) (r : Rd L x la' fa' false X) : Pair L x M y la' fa' lb fb X := ⟨r, h.y1.but k (.inl h.xM) h.My, h.lx, h.xM, h.My⟩
theorem Pair.onY {L x M y la lb lb' : Nat} {fa fb fb' : Nat → BitVec 8} {w X : World} (h : Pair L x M y la fa lb fb w) (k : But y w X) (r : Rd M y lb' fb' false X) : Pair L x M y la fa lb' fb' X := ⟨h.x1.but k (.inr (Nat.lt_of_lt_of_le h.xM h.My)) h.lx, r, h.lx, h.xM, h.My⟩
theorem Pair.below {L x M y la lb B : Nat} {fa fb : Nat → BitVec 8} {w X : World} (h : Pair L x M y la fa lb fb w) (hy : y < B) (k : Below B w X) : Pair L x M y la fa lb fb X := ⟨h.x1.below (by have := h.xM; have := h.My; omega) k, h.y1.below hy k, h.lx, h.xM, h.My⟩
theorem four (f : Nat → BitVec 8) : sW (sW (leN f 2) (shW (leN (shF f 2) 1) 16)) (shW (leN (shF (shF f 2) 1) 1) 24) = leN f 4 := by
  have e2 := (leN_nat f 2 (by omega)).1
  have e4 := (leN_nat f 4 (by omega)).1
  have e1 := (leN_nat (shF f 2) 1 (by omega)).1
  have e0 := (leN_nat (shF (shF f 2) 1) 1 (by omega)).1
  simp only [leS, shF, Nat.add_zero, Nat.mul_zero, Nat.pow_zero, Nat.mul_one, Nat.zero_add] at e2 e4 e1 e0
  have b0 := (f 0).isLt
  have b1 := (f 1).isLt
  have b2 := (f 2).isLt
  have b3 := (f (2 + 1)).isLt
  apply BitVec.eq_of_toNat_eq
  rw [← Int.ofNat_inj]
  show ((sW (sW (leN f 2) (shW (leN (shF f 2) 1) 16)) (shW (leN (shF (shF f 2) 1) 1) 24)).toNat : Int) = ((leN f 4).toNat : Int)
  rw [← sW_fact, ← sW_fact, ← shW_wrap, ← shW_wrap, IntKind.wrap_u64, IntKind.wrap_u64]
  have q3 : (f 3).toNat = (f (2 + 1)).toNat := rfl
  omega
set_option maxRecDepth 20000 in
set_option maxHeartbeats 4000000 in
theorem walk (v : Value) (a : Int) (_ : (Lit.int .i64 a).wf = true) (c : Int) (_ : (Lit.int .i64 c).wf = true) (w : World) (hb0 : BArg v w) : Calls Try.prog 7 #[v, .int .i64 a, .int .i64 c] w fun e w' => e = .returned (.bool true) ∧ Below w.heap.size w w' := by
  obtain ⟨l, b, hB, hl⟩ := hb0.bv
  obtain ⟨ov, cv, rfl⟩ := hB.form
  replace hB := hideit hB
  clear hb0
  have hl9 : l ≤ 140737488355328 := by omega
  have l0 : (0 : Int) ≤ (l : Int) := by omega
  have l1 : (l : Int) ≤ 140737488351232 := by omega
  go_enter Try.func7, Try.ntmps7
  go_upto_region 4 with (first
    | (go_at_call 9; refine (newr_any (.slice ov l cv) l b _ hB.out hl9).mono ?_; rintro e w1 ⟨x, rfl, hx, hR1, hE1⟩; have hB1 := hideit (hB.out.ext hE1); replace hR1 := hideit hR1; replace hE1 := hideit hE1; replace hx := hideit hx; clear hB)
    | (go_at_call 9; refine (newr_any (.slice ov l cv) l b _ hB1.out hl9).mono ?_; rintro e w2 ⟨y, rfl, hy, hR2, hE2⟩; have hP : Hid (Pair w.heap.size x w1.heap.size y l b l b w2) := ⟨hR1.out.ext hE2, hR2, hx.out, hR1.out.lt, hy⟩; replace hE2 := hideit (Ext.trans hE1.out hE2); clear hR1 hR2 hE1 hx hy hB1)
    | (go_at_call 11; refine (lives_any _).mono ?_; rintro e w3 ⟨rfl, hE3⟩; replace hP := hideit (hP.out.ext hE3); replace hE3 := hideit (Ext.trans hE2.out hE3); clear hE2))
  by_cases hok : 0 ≤ a ∧ 0 ≤ c ∧ a ≤ (l : Int) ∧ c ≤ (l : Int) - a
  · obtain ⟨A, rfl⟩ : ∃ A : Nat, a = (A : Int) := ⟨a.toNat, by omega⟩
    obtain ⟨C, rfl⟩ : ∃ C : Nat, c = (C : Int) := ⟨c.toNat, by omega⟩
    have hA : A ≤ l := by omega
    have hC : C ≤ l - A := by omega
    have a0 : (0 : Int) ≤ (A : Int) := by omega
    have c0 : (0 : Int) ≤ (C : Int) := by omega
    have a1 : (A : Int) ≤ (l : Int) := by omega
    have c1 : (C : Int) ≤ (l : Int) - (A : Int) := by omega
    clear hok
    go_upto_region 6 with (fail)
    have hE4 : Ext w3 (w3.alloc (.cells #[] 5)) := (Below.refl _ _).alloc (Nat.le_refl _) _
    have hO4 := own_empty w3 w3.heap.size 5 (yv b) (Nat.le_refl _)
    have hP4 := hideit (hP.out.ext hE4)
    have hX4 := hideit (Ext.trans hE3.out hE4)
    have hw4 : Hid (y < w3.heap.size) := hP.out.y1.lt
    replace hO4 := hideit hO4
    clear hE4 hP hE3
    refine wp_region_lit ?_
    refine wpList_to rfl (.slice (some ⟨w3.heap.size, 0, none⟩) 0 0) (w3.alloc (.cells #[] 5)) (by simp [go_sem]) ?_
    simp only [Act.put, List.setIfInBounds_toArray, List.set_cons_zero, List.set_cons_succ]
    refine wpList_run rfl (.pointer (some ⟨x, 0, none⟩)) (by simp [go_sem]) ?_
    simp only [Act.put, List.setIfInBounds_toArray, List.set_cons_zero, List.set_cons_succ]
    refine wpList_run rfl (.int .i64 (A : Int)) (by simp [go_sem]) ?_
    simp only [Act.put, List.setIfInBounds_toArray, List.set_cons_zero, List.set_cons_succ]
    refine wpList_call rfl (by simp [go_sem]) ((rbytes_ok _ x l A b _ hP4.out.x1 hA hl9).mono ?_)
    rintro e w5 ⟨v5, rfl, hO5, ho5, hR5, hB5⟩
    refine ⟨_, rfl, ?_⟩
    have hs5 : Hid (w3.heap.size ≤ w5.heap.size) := by
      have h9 : w3.heap.size + 1 ≤ w5.heap.size := by simpa using hB5.size
      show _ ≤ _
      omega
    have hxw : x < w3.heap.size := by have := hw4.out; have := hP4.out.xM; have := hP4.out.My; omega
    have hP5 := hideit (hP4.out.onX hB5 hR5)
    have hX5 := hideit (Ext.but hX4.out hB5 hP4.out.lx)
    have hOe := hideit (hO4.out.but hB5 (own_noblock hO4.out hxw))
    have hbv := hideit hO5.bv
    clear hO4 hP4 hX4 hR5
    obtain ⟨o5, c5, rfl⟩ := hO5.bv.form
    simp only [Act.put, List.setIfInBounds_toArray, List.set_cons_zero, List.set_cons_succ]
    refine wpList_growV (n := 0) (base := w3.heap.size) elem22 rfl (.tmp 46) (.tmp 49) rfl rfl hOe.out (.slice o5 A c5) A b (yv b) rfl hbv.out (fun _ _ => rfl) (fun j hj => by rw [Nat.zero_add]) (by omega) hs5.out ?_
    intro v6 w6 hO6 hg6
    rw [Nat.zero_add] at hO6
    have hB6 : Below w3.heap.size w5 w6 := below_grown hs5.out hg6 (fun k hk => (hOe.out.lt k hk).1)
    have hP6 := hideit (hP5.out.below hw4.out hB6)
    have hX6 := hideit (Below.trans hX5.out (Below.mono hB6 (by have := Below.size hX5.out; have := hw4.out; have := hP5.out.lx; have := hP5.out.xM; have := hP5.out.My; omega)))
    have hw6 : Hid (w3.heap.size ≤ w6.heap.size) := Nat.le_trans hs5.out hB6.size
    replace hO6 := hideit hO6
    clear hg6 hB6 hP5 hX5 hOe hbv hB5 hO5 ho5
    obtain ⟨o6, c6, rfl⟩ := hO6.out.bv.form
    simp only [Act.put, List.setIfInBounds_toArray, List.set_cons_zero, List.set_cons_succ]
    refine wpList_run rfl (.pointer (some ⟨x, 0, none⟩)) (by simp [go_sem]) ?_
    simp only [Act.put, List.setIfInBounds_toArray, List.set_cons_zero, List.set_cons_succ]
    refine wpList_run rfl (.int .i64 (C : Int)) (by simp [go_sem]) ?_
    simp only [Act.put, List.setIfInBounds_toArray, List.set_cons_zero, List.set_cons_succ]
    refine wpList_call rfl (by simp [go_sem]) ((rbytes_ok _ x (l - A) C (shF b A) _ hP6.out.x1 hC (by omega)).mono ?_)
    rintro e w7 ⟨v7, rfl, hO7, ho7, hR7, hB7⟩
    refine ⟨_, rfl, ?_⟩
    have hP7 := hideit (hP6.out.onX hB7 hR7)
    have hX7 := hideit (Ext.but hX6.out hB7 hP6.out.lx)
    have hO6' := hideit (hO6.out.but hB7 (own_noblock hO6.out hxw))
    have hbv := hideit hO7.bv
    have hw7 : Hid (w3.heap.size ≤ w7.heap.size) := Nat.le_trans hw6.out hB7.size
    clear hO6 hP6 hX6 hR7 hw6 hB7
    obtain ⟨o7, c7, rfl⟩ := hO7.bv.form
    clear hO7 ho7
    simp only [Act.put, List.setIfInBounds_toArray, List.set_cons_zero, List.set_cons_succ]
    refine wpList_growV (n := A) (base := w3.heap.size) elem22 rfl (.tmp 50) (.tmp 53) rfl rfl hO6'.out (.slice o7 C c7) C (shF b A) (yv b) rfl hbv.out (fun _ _ => rfl) (fun j hj => rfl) (by omega) hw7.out ?_
    intro v8 w8 hO8 hg8
    have hB8 : Below w3.heap.size w7 w8 := below_grown hw7.out hg8 (fun k hk => (hO6'.out.lt k hk).1)
    have hP8 := hP7.out.below hw4.out hB8
    rw [shF_shF, Nat.sub_sub] at hP8
    replace hP8 := hideit hP8
    have hX8 := hideit (Below.trans hX7.out (Below.mono hB8 (by have := hw4.out; have := hP7.out.lx; have := hP7.out.xM; have := hP7.out.My; omega)))
    replace hO8 := hideit hO8
    have hyw : y < w3.heap.size := hw4.out
    clear hg8 hB8 hP7 hX7 hO6' hbv hw7 hw4
    obtain ⟨o8, c8, rfl⟩ := hO8.out.bv.form
    have k9 := rbytes_ok _ y l (A + C) b w8 hP8.out.y1 (by omega) hl9
    rw [show ((A + C : Nat) : Int) = (A : Int) + (C : Int) by omega] at k9
    replace k9 := hideit k9
    simp only [Act.put, List.setIfInBounds_toArray, List.set_cons_zero, List.set_cons_succ]
    go_upto_region 8 with (go_at_call 14; refine k9.out.mono ?_; rintro e w9 ⟨v9, rfl, hO9, ho9, hR9, hB9⟩; have hP9 := hideit (hP8.out.onY hB9 hR9); have hX9 := hideit (Ext.but hX8.out hB9 (by have := hP8.out.lx; have := hP8.out.xM; have := hP8.out.My; omega)); have hc8 := convV _ _ _ _ (hO8.out.but hB9 (own_noblock hO8.out hyw)).bv; have hc9 := convV _ _ _ _ hO9.bv; obtain ⟨o9, c9, rfl⟩ := hO9.bv.form; clear hO9 ho9 hR9 hB9 hP8 hX8 hO8 k9)
    obtain ⟨F, hF⟩ : ∃ F, F = shF b (A + C) := ⟨_, rfl⟩
    obtain ⟨N, hN⟩ : ∃ N, N = l - (A + C) := ⟨_, rfl⟩
    rw [← hF, ← hN] at hP9
    have hN9 : N ≤ 140737488355328 := by omega
    clear hF hN
    obtain ⟨str, hstr⟩ : ∃ str, str = bstr (A + C) (fun j => ((b j).toNat : Int)) := ⟨_, rfl⟩
    rw [← hstr] at hc8 hc9
    obtain ⟨d, hd⟩ : ∃ d : Int, d = (if false || !zB F N then 90 else 0) := ⟨_, rfl⟩
    have kx := fun X (h : Rd w.heap.size x N F false X) => rdone_any _ x N F false X h hN9
    have ky := fun X (h : Rd w1.heap.size y N F false X) => rdone_any _ y N F false X h hN9
    rw [← hd] at kx ky
    replace kx := hideit kx
    replace ky := hideit ky
    clear hstr hd
    refine wp_region_lit ?_
    refine wpList_run rfl (.slice o8 (A + C) c8) (by simp [go_sem]) ?_
    simp only [Act.put, List.setIfInBounds_toArray, List.set_cons_zero, List.set_cons_succ]
    refine wpList_run rfl (.string str) (by simp [go_sem, hc8]) ?_
    simp only [Act.put, List.setIfInBounds_toArray, List.set_cons_zero, List.set_cons_succ]
    refine wpList_run rfl (.slice o9 (A + C) c9) (by simp [go_sem]) ?_
    simp only [Act.put, List.setIfInBounds_toArray, List.set_cons_zero, List.set_cons_succ]
    refine wpList_run rfl (.string str) (by simp [go_sem, hc9]) ?_
    simp only [Act.put, List.setIfInBounds_toArray, List.set_cons_zero, List.set_cons_succ]
    refine wpList_run rfl (.bool false) (by simp [go_sem]) ?_
    simp only [Act.put, List.setIfInBounds_toArray, List.set_cons_zero, List.set_cons_succ]
    refine wpList_run rfl (.bool false) (by simp [go_sem]) ?_
    simp only [Act.put, List.setIfInBounds_toArray, List.set_cons_zero, List.set_cons_succ]
    refine wpList_runW rfl (.pointer (some ⟨x, 0, none⟩)) (by simp [go_sem]) ?_
    simp only [Act.put, List.setIfInBounds_toArray, List.set_cons_zero, List.set_cons_succ]
    refine wpList_callW rfl (by simp [go_sem]) ((rleft_any _ x N F false _ hP9.out.x1).mono ?_)
    rintro e w' ⟨rfl, rfl⟩
    refine ⟨_, rfl, ?_⟩
    simp only [Act.put, List.setIfInBounds_toArray, List.set_cons_zero, List.set_cons_succ]
    refine wpList_runW rfl (.pointer (some ⟨y, 0, none⟩)) (by simp [go_sem]) ?_
    simp only [Act.put, List.setIfInBounds_toArray, List.set_cons_zero, List.set_cons_succ]
    refine wpList_callW rfl (by simp [go_sem]) ((rleft_any _ y N F false _ hP9.out.y1).mono ?_)
    rintro e w' ⟨rfl, rfl⟩
    refine ⟨_, rfl, ?_⟩
    simp only [Act.put, List.setIfInBounds_toArray, List.set_cons_zero, List.set_cons_succ]
    refine wpList_runW rfl (.bool false) (by simp [go_sem]) ?_
    simp only [Act.put, List.setIfInBounds_toArray, List.set_cons_zero, List.set_cons_succ]
    refine wpList_run rfl (.bool false) (by simp [go_sem]) ?_
    simp only [Act.put, List.setIfInBounds_toArray, List.set_cons_zero, List.set_cons_succ]
    refine wpList_run rfl (.bool false) (by simp [go_sem]) ?_
    simp only [Act.put, List.setIfInBounds_toArray, List.set_cons_zero, List.set_cons_succ]
    refine wpList_runW rfl (.pointer (some ⟨x, 0, none⟩)) (by simp [go_sem]) ?_
    simp only [Act.put, List.setIfInBounds_toArray, List.set_cons_zero, List.set_cons_succ]
    refine wpList_callW rfl (by simp [go_sem]) ((kx.out _ hP9.out.x1).mono ?_)
    rintro e w' ⟨rfl, rfl⟩
    refine ⟨_, rfl, ?_⟩
    simp only [Act.put, List.setIfInBounds_toArray, List.set_cons_zero, List.set_cons_succ]
    refine wpList_runW rfl (.pointer (some ⟨y, 0, none⟩)) (by simp [go_sem]) ?_
    simp only [Act.put, List.setIfInBounds_toArray, List.set_cons_zero, List.set_cons_succ]
    refine wpList_callW rfl (by simp [go_sem]) ((ky.out _ hP9.out.y1).mono ?_)
    rintro e w' ⟨rfl, rfl⟩
    refine ⟨_, rfl, ?_⟩
    simp only [Act.put, List.setIfInBounds_toArray, List.set_cons_zero, List.set_cons_succ]
    refine wpList_runW rfl (.bool false) (by simp [go_sem]) ?_
    simp only [Act.put, List.setIfInBounds_toArray, List.set_cons_zero, List.set_cons_succ]
    refine wpList_run rfl (.bool false) (by simp [go_sem]) ?_
    simp only [Act.put, List.setIfInBounds_toArray, List.set_cons_zero, List.set_cons_succ]
    clear hc8 hc9 kx ky
    by_cases h4 : N < 4
    · have n4 : (N : Int) < 4 := by omega
      go_wp2_with (go_at_call 18; refine (rleft_any _ y N F false _ hP9.out.y1).mono ?_; rintro e w' ⟨rfl, rfl⟩)
      go_ret
      exact ⟨rfl, hX9.out⟩
    · have n4 : (4 : Int) ≤ (N : Int) := by omega
      have ku4 := fun X (h : Rd w1.heap.size y N F false X) => hideit (ruint_ok _ y N 4 F X h (by omega) (by decide) (by omega))
      have ku2 := fun X (h : Rd w.heap.size x N F false X) => hideit (ruint_ok _ x N 2 F X h (by omega) (by decide) (by omega))
      have ku3 := fun X (h : Rd w.heap.size x (N - 2) (shF F 2) false X) => hideit (ruint_ok _ x (N - 2) 1 (shF F 2) X h (by omega) (by decide) (by omega))
      have ku1 := fun X (h : Rd w.heap.size x (N - 2 - 1) (shF (shF F 2) 1) false X) => hideit (ruint_ok _ x (N - 2 - 1) 1 (shF (shF F 2) 1) X h (by omega) (by decide) (by omega))
      go_upto_region 13 with (first
        | (go_at_call 18; refine (rleft_any _ y N F false _ hP9.out.y1).mono ?_; rintro e w' ⟨rfl, rfl⟩)
        | (go_at_call 12; refine (ku4 _ hP9.out.y1).out.mono ?_; rintro e w10 ⟨rfl, hR10, hB10⟩; have hP10 := hideit (hP9.out.onY hB10 hR10); have hX10 := hideit (Ext.but hX9.out hB10 (by have := hP9.out.lx; have := hP9.out.xM; have := hP9.out.My; omega)); clear hP9 hX9 hR10 hB10 ku4))
      have hxM := hP10.out.lx
      obtain ⟨A2, hA2⟩ : ∃ A2, A2 = leN F 2 := ⟨_, rfl⟩
      obtain ⟨B1, hB1⟩ : ∃ B1, B1 = leN (shF F 2) 1 := ⟨_, rfl⟩
      obtain ⟨C1, hC1⟩ : ∃ C1, C1 = leN (shF (shF F 2) 1) 1 := ⟨_, rfl⟩
      obtain ⟨D4, hD4⟩ : ∃ D4, D4 = leN F 4 := ⟨_, rfl⟩
      have h4 : sW (sW A2 (shW B1 16)) (shW C1 24) = D4 := by rw [hA2, hB1, hC1, hD4]; exact four F
      rw [← hA2] at ku2
      rw [← hB1] at ku3
      rw [← hC1] at ku1
      rw [← hD4]
      clear hA2 hB1 hC1 hD4
      have s16 : ∀ a : BitVec 64, IntKind.u64.wrap ((a.toNat : Int) * 65536) = ((shW a 16).toNat : Int) := fun a => shW_wrap a 16
      have s24 : ∀ a : BitVec 64, IntKind.u64.wrap ((a.toNat : Int) * 16777216) = ((shW a 24).toNat : Int) := fun a => shW_wrap a 24
      refine wp_region_lit ?_
      refine wpList_run rfl (.pointer (some ⟨x, 0, none⟩)) (by simp [go_sem]) ?_
      simp only [Act.put, List.setIfInBounds_toArray, List.set_cons_zero, List.set_cons_succ]
      refine wpList_call rfl (by simp [go_sem]) ((ku2 _ hP10.out.x1).out.mono ?_)
      rintro e w11 ⟨rfl, hR11, hB11⟩
      refine ⟨_, rfl, ?_⟩
      have hP11 := hideit (hP10.out.onX hB11 hR11)
      have hX11 := hideit (Ext.but hX10.out hB11 hxM)
      clear hP10 hX10 hR11 hB11 ku2
      simp only [Act.put, List.setIfInBounds_toArray, List.set_cons_zero, List.set_cons_succ]
      refine wpList_run rfl (.pointer (some ⟨x, 0, none⟩)) (by simp [go_sem]) ?_
      simp only [Act.put, List.setIfInBounds_toArray, List.set_cons_zero, List.set_cons_succ]
      refine wpList_call rfl (by simp [go_sem]) ((ku3 _ hP11.out.x1).out.mono ?_)
      rintro e w12 ⟨rfl, hR12, hB12⟩
      refine ⟨_, rfl, ?_⟩
      have hP12 := hideit (hP11.out.onX hB12 hR12)
      have hX12 := hideit (Ext.but hX11.out hB12 hxM)
      clear hP11 hX11 hR12 hB12 ku3
      simp only [Act.put, List.setIfInBounds_toArray, List.set_cons_zero, List.set_cons_succ]
      refine wpList_run rfl (.int .u64 ((shW B1 16).toNat : Int)) (by simp [go_sem, s16]) ?_
      simp only [Act.put, List.setIfInBounds_toArray, List.set_cons_zero, List.set_cons_succ]
      refine wpList_run rfl (.int .u64 ((sW A2 (shW B1 16)).toNat : Int)) (by simp [go_sem, sW_wrap]) ?_
      simp only [Act.put, List.setIfInBounds_toArray, List.set_cons_zero, List.set_cons_succ]
      refine wpList_run rfl (.pointer (some ⟨x, 0, none⟩)) (by simp [go_sem]) ?_
      simp only [Act.put, List.setIfInBounds_toArray, List.set_cons_zero, List.set_cons_succ]
      refine wpList_call rfl (by simp [go_sem]) ((ku1 _ hP12.out.x1).out.mono ?_)
      rintro e w13 ⟨rfl, hR13, hB13⟩
      refine ⟨_, rfl, ?_⟩
      have hP13 := hideit (hP12.out.onX hB13 hR13)
      have hX13 := hideit (Ext.but hX12.out hB13 hxM)
      clear hP12 hX12 hR13 hB13 ku1
      simp only [Act.put, List.setIfInBounds_toArray, List.set_cons_zero, List.set_cons_succ]
      refine wpList_run rfl (.int .u64 ((shW C1 24).toNat : Int)) (by simp [go_sem, s24]) ?_
      simp only [Act.put, List.setIfInBounds_toArray, List.set_cons_zero, List.set_cons_succ]
      refine wpList_run rfl (.int .u64 (D4.toNat : Int)) (by simp [go_sem, sW_wrap, h4]) ?_
      simp only [Act.put, List.setIfInBounds_toArray, List.set_cons_zero, List.set_cons_succ]
      refine wpList_run rfl (.int .u64 (D4.toNat : Int)) (by simp [go_sem]) ?_
      simp only [Act.put, List.setIfInBounds_toArray, List.set_cons_zero, List.set_cons_succ]
      refine wpList_run rfl (.bool true) (by simp [go_sem]) ?_
      simp only [Act.put, List.setIfInBounds_toArray, List.set_cons_zero, List.set_cons_succ]
      refine wpList_run rfl (.bool true) (by simp [go_sem]) ?_
      simp only [Act.put, List.setIfInBounds_toArray, List.set_cons_zero, List.set_cons_succ]
      refine wpList_runW rfl (.pointer (some ⟨x, 0, none⟩)) (by simp [go_sem]) ?_
      simp only [Act.put, List.setIfInBounds_toArray, List.set_cons_zero, List.set_cons_succ]
      refine wpList_callW rfl (by simp [go_sem]) ((rleft_any _ x _ _ false _ hP13.out.x1).mono ?_)
      rintro e w' ⟨rfl, rfl⟩
      refine ⟨_, rfl, ?_⟩
      simp only [Act.put, List.setIfInBounds_toArray, List.set_cons_zero, List.set_cons_succ]
      refine wpList_runW rfl (.pointer (some ⟨y, 0, none⟩)) (by simp [go_sem]) ?_
      simp only [Act.put, List.setIfInBounds_toArray, List.set_cons_zero, List.set_cons_succ]
      refine wpList_callW rfl (by simp [go_sem]) ((rleft_any _ y _ _ false _ hP13.out.y1).mono ?_)
      rintro e w' ⟨rfl, rfl⟩
      refine ⟨_, rfl, ?_⟩
      simp only [Act.put, List.setIfInBounds_toArray, List.set_cons_zero, List.set_cons_succ]
      refine wpList_runW rfl (.bool true) (by simp [go_sem]; omega) ?_
      simp only [Act.put, List.setIfInBounds_toArray, List.set_cons_zero, List.set_cons_succ]
      refine wpList_run rfl (.bool true) (by simp [go_sem]) ?_
      simp only [Act.put, List.setIfInBounds_toArray, List.set_cons_zero, List.set_cons_succ]
      go_wp2
      go_ret
      exact ⟨rfl, hX13.out⟩
  · rcases Int.lt_or_le a 0 with h1 | h1
    · go_wp2
      go_ret
      exact ⟨rfl, hE3.out⟩
    · rcases Int.lt_or_le c 0 with h2 | h2
      · go_wp2
        go_ret
        exact ⟨rfl, hE3.out⟩
      · rcases Int.lt_or_le (l : Int) a with h3 | h3
        · go_wp2
          go_ret
          exact ⟨rfl, hE3.out⟩
        · have h4 : (l : Int) - a < c := by omega
          go_wp2
          go_ret
          exact ⟨rfl, hE3.out⟩

set_option maxRecDepth 100000 in
theorem lifted (os : Os) (started : os.Started) (H : Type) (enc : TypeId × Value → H) :
    ReturnsInHanded {} Try.checked os 7 .any (Rows.codecPartsSpec.pre6 enc Try.prog Try.f7 Rows.codecPartsRow.domain false) (Rows.codecPartsSpec.post enc Try.prog Try.f7 false true false false) := by
  refine returnsInHanded_of_change_sized (C := Try.checked) own started (by kernel_rfl) Try.func7
    (ChangeSpec.witness6 (enc := enc) (C := Try.checked) false ⟨#[], #[.slice none 0 0, .int .i64 0, .int .i64 0], []⟩ 8 (by kernel_rfl) (by kernel_rfl) (by kernel_rfl) (by kernel_rfl)) ?_
  intro W base args ds gs before hval0 hW hcnd hsz0 _
  have hsz := hsz0
  have hval : ∀ (j : Nat) t v, Try.f7.params[j]? = some t → args[j]? = some v → Value.okWide Try.prog W .any base t v := hval0
  have hW' := hW
  obtain ⟨p, q, hA0, hV, rfl, hfz, hnd⟩ := hW
  have hA : DataW.TrodAll enc Try.prog W 0 (fun _ => true) true Try.f7.params.toList args.toList ds p := hA0
  rw [Try.params7] at hA hval hsz
  obtain ⟨v0, vs0, d0, ds0, p0, q0, hargs, rfl, rfl, h0, r0⟩ := trodAll_cons hA
  obtain ⟨v1, vs1, d1, ds1, p1, q1, rfl, rfl, rfl, h1, r1⟩ := trodAll_cons r0
  obtain ⟨v2, vs2, d2, ds2, p2, q2, rfl, rfl, rfl, h2, r2⟩ := trodAll_cons r1
  obtain ⟨rfl, rfl, rfl⟩ := trodAll_nil r2
  obtain rfl : args = #[v0, v1, v2] := by cases args; simp_all
  obtain ⟨rfl, rfl⟩ := trodVars_none hV
  have k0 := h0
  have lt0 : ∀ x ∈ p0, x.block < W.heap.size := by obtain ⟨m, hm⟩ := k0; exact DataW.trod_lt m _ _ _ hm
  have k1 := h1
  have lt1 : ∀ x ∈ p1, x.block < W.heap.size := by obtain ⟨m, hm⟩ := k1; exact DataW.trod_lt m _ _ _ hm
  have k2 := h2
  have lt2 : ∀ x ∈ p2, x.block < W.heap.size := by obtain ⟨m, hm⟩ := k2; exact DataW.trod_lt m _ _ _ hm
  have B0 := barg (hval 0 22 v0 rfl rfl) h0 hsz 0 rfl rfl
  obtain ⟨a1, rfl, rfl, rfl, w1⟩ := open_int Try.underlying3 (hval 1 3 v1 rfl rfl) h1
  obtain ⟨a2, rfl, rfl, rfl, w2⟩ := open_int Try.underlying3 (hval 2 3 v2 rfl rfl) h2
  clear hA0 hval0
  refine (walk v0 a1 w1 a2 w2 W  B0).mono fun e W' ⟨he, bel⟩ => ?_
  subst he
  exact ⟨_, rfl, _, _, _, [], _, [], hW', trodAll_mk1 (shut_bool Try.underlying4 _), (trodAll_cons_mk (Below.trod laidOut (by kernel_rfl) (of_decide_eq_true (by kernel_rfl)) k0 bel lt0) (trodAll_cons_mk (Below.trod laidOut (by kernel_rfl) (of_decide_eq_true (by kernel_rfl)) k1 bel lt1) (trodAll_cons_mk (Below.trod laidOut (by kernel_rfl) (of_decide_eq_true (by kernel_rfl)) k2 bel lt2) trodAll_mk0))), rfl, bel.frame _, fun h => by cases h⟩

theorem over : Rows.codecPartsRow.holds Try.pinned (OpenSpec.ofChange Rows.codecPartsSpec) :=
  OpenClaim.holds_of_wide 7 Try.f7 rfl rfl rfl rfl rfl rfl rfl ⟨rfl, rfl, rfl, rfl, rfl⟩ rfl rfl rfl rfl rfl (by kernel_rfl) Try.func7 (by kernel_rfl)
    (of_decide_eq_true (by kernel_rfl)) (by unfold Func.isWrapper; first | (rw [if_pos (by decide +kernel)]; kernel_rfl) | (rw [if_neg (by decide +kernel)]; exact ⟨rfl, rfl⟩))
    (fun os started H enc _ => lifted os started H enc)
end Go.Proofs.Ytboncdlihgpepaa.codecParts
namespace Go.Proofs.Ytboncdlihgpepaa
theorem codecParts_holds : Rows.CodecPartsSaid := codecParts.over
end Go.Proofs.Ytboncdlihgpepaa
