/-
  For all numbers and any count the law CodecLists returns true, and its arguments read behind the call as they read before.
-/
import Derived.Test.YtboncdlihgpepaaRows
import Derived.ProofKit
import Derived.OpenShut
import Derived.ShutString
import Derived.ChangeOld
import Derived.Below
import Derived.SizedLaws
import Derived.Test.YtboncdlihgpepaaLives
import Derived.Test.YtboncdlihgpepaaOpen
import Derived.Test.YtboncdlihgpepaaLst2
namespace Go.Proofs.Ytboncdlihgpepaa.codecLists
open Go.ChangeShapes Go.WideShapes Go.ChangeAt Go.RowKit
set_option linter.unusedVariables false

theorem own : ownKnob Try.prog.godebug = none := by kernel_rfl
theorem laidOut : laidOutB Try.prog = true := by kernel_rfl

open Go.BigFrame Go.ChangeShapes Go.WideShapes Go.ChangeAt
theorem cellE {w X : World} (k : Ext w X) {a : Addr} {v : Value} (h : w.cell? a = some v) : X.cell? a = some v := (Below.cell k (p := a) (World.block_lt_of_cell? w a h)).trans h
/-- numbers that came in -/
def UArg (v : Value) (W : World) : Prop := ∃ (ol : Option Addr) (n cap : Nat) (xs : Nat → BitVec 64), v = .slice ol n cap ∧ ∀ i, i < n → ∃ ad, ol = some ad ∧ ad.block < W.heap.size ∧ W.cell? (ad.add i) = some (uv xs i)
set_option maxRecDepth 100000 in
theorem uarg {H : Type} {enc : TypeId × Value → H} {W : World} {r : Reach} {b0 base : Nat} {spare : Nat → Bool} {held : Bool} {v : Value} {d : DataW H} {p : List MemPlace}
    (hv : Value.okWide Try.prog W r b0 48 v) (h : DataW.Trod enc Try.prog W base spare held 48 v d p) : UArg v W := by
  obtain ⟨a, len, cap, rfl⟩ := okWide_slice Try.underlying48 hv
  obtain ⟨fuel, hf⟩ := h
  rcases open_ints Try.underlying48 Try.underlying29 (by kernel_rfl) hf with ⟨hcs, _⟩ | ⟨x, l, c, zs, hcs, _, hl, hm, hz, hd, hcell, hwz⟩
  · simp [Value.cells] at hcs
    obtain ⟨rfl, rfl, rfl⟩ := hcs
    exact ⟨none, 0, 0, fun _ => 0#64, rfl, fun i hi => absurd hi (by omega)⟩
  · simp [Value.cells] at hcs
    obtain ⟨rfl, rfl, rfl⟩ := hcs
    have hlt : x.block < W.heap.size := by
      simp only [Value.okWide, Try.underlying48, Cell.okWide, Cell.ok] at hv
      exact has_lt hv.2.2
    have hlen : len ≤ zs.length := by rw [hz]; split <;> omega
    have hall : ∀ i, i < len → ∃ c : BitVec 64, zs.getD i 0 = (c.toNat : Int) := fun i hi => by
      refine of_wf64 (hwz _ ?_)
      rw [List.getD_eq_getElem?_getD, List.getElem?_eq_getElem (by omega), Option.getD_some]
      exact List.getElem_mem _
    refine ⟨some x, len, cap, fun i => if h : i < len then (hall i h).choose else 0#64, rfl, fun j hj => ⟨x, rfl, hlt, ?_⟩⟩
    rw [hcell j (by omega)]
    simp only [uv, dif_pos hj]
    rw [← (hall j hj).choose_spec]
set_option maxRecDepth 20000 in
theorem get_bad (lo c l : Nat) (a : Int) (f : Nat → BitVec 8) (w : World) (h : Rd lo c l f false w) (hn : a < 0 ∨ (l : Int) < a) :
    Calls Try.prog 27 #[.pointer (some ⟨c, 0, none⟩), .int .i64 a, .func (.func 28) #[] #[]] w fun e w' => e = .returned (.slice none 0 0) ∧ Rd lo c l f true w' ∧ But c w w' := by
  have k := hideit (rhas_no lo c l a f false w h hn)
  clear h hn
  go_enter Try.func27, Try.ntmps27
  go_wp2_with (go_at_call 44; refine k.out.mono ?_; rintro e w1 ⟨rfl, h1, h2⟩; replace h1 := hideit h1; replace h2 := hideit h2; clear k)
  go_ret
  exact ⟨rfl, h1.out, h2.out⟩
theorem ls_back (xs : Nat → BitVec 64) (n k : Nat) (hk : k < n) : leN (shF (padF (lsF xs) (8 * n)) (8 * k)) 8 = xs k := le_by _ _ fun j hj => by
  unfold shF padF lsF
  rw [if_pos (by omega), show (8 * k + j) / 8 = k by omega, show (8 * k + j) % 8 = j by omega]
theorem row_bv {g m : Nat} {f : Nat → BitVec 8} {w : World} (h : RowAt g m (yv f) w) : BV (.slice (some ⟨g, 0, none⟩) m m) m f w := .inr ⟨⟨g, 0, none⟩, m, rfl, Nat.le_refl _, ⟨fun j hj => by
  have := h.1 j hj
  rw [show (⟨g, 0, none⟩ : Addr).add j = ⟨g, j, none⟩ by unfold Addr.add; by_cases h0 : j = 0 <;> simp [h0]]
  exact this, h.2.2⟩⟩
theorem neww_x (n : Nat) (f : Nat → BitVec 8) (w : World) (hs : 8 * n ≤ 16777216) :
    Calls Try.prog 21 #[.int .i64 (8 * (n : Int))] w fun e w' => ∃ c, e = .returned (.pointer (some ⟨c, 0, none⟩)) ∧ w.heap.size ≤ c ∧ Wr c (8 * n) 0 f false w' ∧ Ext w w' := by
  have k := neww_any (8 * n) f w hs
  rw [show ((8 * n : Nat) : Int) = 8 * (n : Int) by omega] at k
  exact k.mono fun e w' h => ⟨_, h.1, Nat.le_refl _, h.2.1, h.2.2⟩
set_option maxRecDepth 20000 in
set_option maxHeartbeats 4000000 in
theorem walk (v : Value) (a : Int) (_ : (Lit.int .i64 a).wf = true) (w : World) (hb0 : UArg v w) : Calls Try.prog 5 #[v, .int .i64 a] w fun e w' => e = .returned (.bool true) ∧ Below w.heap.size w w' := by
  obtain ⟨ol, n, cap, xs, rfl, hX⟩ := hb0
  replace hX := hideit hX
  have n0 : (0 : Int) ≤ (n : Int) := by omega
  by_cases hbig : 1000 < n
  · have n1 : (1000 : Int) < (n : Int) := by omega
    go_enter Try.func5, Try.ntmps5
    go_wp2_with (go_at_call 11; refine (lives_any _).mono ?_; rintro e w3 ⟨rfl, hE3⟩; replace hE3 := hideit hE3)
    go_ret
    exact ⟨rfl, hE3.out⟩
  · have n1 : (n : Int) ≤ 1000 := by omega
    have hn8 : 8 * n ≤ 16777216 := by omega
    have hnN : n ≤ 1000 := by omega
    have kw := hideit (neww_x n (lsF xs) w hn8)
    go_enter Try.func5, Try.ntmps5
    go_upto_region 11 with (first
      | (go_at_call 21; refine kw.out.mono ?_; rintro e w1 ⟨c, rfl, hc1, hW1, hE1⟩; replace hc1 := hideit hc1; replace hW1 := hideit hW1; replace hE1 := hideit hE1; clear kw)
      | (go_at_call 11; refine (lives_any _).mono ?_; rintro e w2 ⟨rfl, hE2⟩; have hW2 := hideit (hW1.out.ext hE2); replace hE2 := hideit (Ext.trans hE1.out hE2); clear hW1 hE1)
      | (go_at_call 25; refine (put_any c (8 * n) n cap (lsF xs) xs ol _ hW2.out (Nat.le_refl _) hn8 (fun i hi => by
          obtain ⟨ad, h1, h2, h3⟩ := hX.out i hi
          exact ⟨ad, h1, Nat.lt_of_lt_of_le h2 hc1.out, cellE hE2.out h3⟩)).mono ?_; rintro e w3 ⟨rfl, hW3, hB3⟩; have hE3 := hideit (Below.trans hE2.out (Below.mono hB3 hc1.out)); replace hW3 := hideit hW3; clear hW2 hE2 hB3 hc1)
      | (go_at_call 24; refine (wdone_ok c (8 * n) (8 * n) (lsF xs) _ hW3.out (Nat.le_refl _) hn8).mono ?_; rintro e w4 ⟨g, rfl, _, hR4, hE4⟩; replace hR4 := hideit (row_bv hR4); replace hE4 := hideit (Ext.trans hE3.out hE4); clear hE3 hW3)
      | (go_at_call 9; refine (newr_any _ (8 * n) _ _ hR4.out (by omega)).mono ?_; rintro e w5 ⟨r, rfl, hr5, hR5, hE5⟩; replace hr5 := hideit hr5; replace hR5 := hideit hR5; have hw4 := hideit (Below.size hE4.out); replace hE5 := hideit (Ext.trans hE4.out hE5); clear hE4 hR4))
    have hF := ls_back xs n
    obtain ⟨F, hFF⟩ : ∃ F, F = padF (lsF xs) (8 * n) := ⟨_, rfl⟩
    rw [← hFF] at hF hR5
    clear hFF
    replace hF := hideit hF
    obtain ⟨lo, hlo⟩ : ∃ lo, lo = w4.heap.size := ⟨_, rfl⟩
    rw [← hlo] at hr5 hR5 hw4
    clear hlo
    have hd90 : ∀ b : Bool, dnI (true || b) = 90 := fun b => by simp [dnI]
    by_cases hout : a < 0 ∨ 8 * (n : Int) < a
    · have kg := get_bad lo r (8 * n) a F w5 hR5.out (by omega)
      replace kg := hideit kg
      have h8 : ((8 * n : Nat) : Int) = 8 * (n : Int) := by omega
      clear hX hF hR5
      rcases (by omega : a < 0 ∨ (¬ a < 0 ∧ (n : Int) < a ∧ 8 * (n : Int) < a)) with ha | ⟨ha, hb, hc⟩
      · go_wp2_with (first
          | (go_at_call 27; refine kg.out.mono ?_; rintro e w6 ⟨rfl, hR6, hB6⟩; replace hE5 := hideit (Ext.but hE5.out hB6 (Nat.le_trans hw4.out hr5.out)); replace hR6 := hideit hR6; clear kg hB6)
          | (go_at_call 19; refine (rdone_any _ r _ _ true _ hR6.out (by omega)).mono ?_; rintro e w7 ⟨rfl, hww⟩; replace hww := hww.symm; subst hww; rw [hd90])
          | (go_at_call 18; refine (rleft_any _ r _ _ true _ hR6.out).mono ?_; rintro e w7 ⟨rfl, hww⟩; replace hww := hww.symm; subst hww; rw [h8]))
        go_ret
        exact ⟨rfl, hE5.out⟩
      · go_wp2_with (first
          | (go_at_call 27; refine kg.out.mono ?_; rintro e w6 ⟨rfl, hR6, hB6⟩; replace hE5 := hideit (Ext.but hE5.out hB6 (Nat.le_trans hw4.out hr5.out)); replace hR6 := hideit hR6; clear kg hB6)
          | (go_at_call 19; refine (rdone_any _ r _ _ true _ hR6.out (by omega)).mono ?_; rintro e w7 ⟨rfl, hww⟩; replace hww := hww.symm; subst hww; rw [hd90])
          | (go_at_call 18; refine (rleft_any _ r _ _ true _ hR6.out).mono ?_; rintro e w7 ⟨rfl, hww⟩; replace hww := hww.symm; subst hww; rw [h8]))
        go_ret
        exact ⟨rfl, hE5.out⟩
    · obtain ⟨A, rfl⟩ : ∃ A : Nat, a = (A : Int) := ⟨a.toNat, by omega⟩
      have kg := hideit (get_any lo r n A F xs w5 hR5.out hr5.out hF.out (by omega) hnN)
      have a0 : (0 : Int) ≤ (A : Int) := by omega
      have a1 : (A : Int) ≤ 8 * (n : Int) := by omega
      have hlow : Hid (w.heap.size ≤ lo) := hw4.out
      clear hout hF hR5
      go_upto_region 12 with (go_at_call 27; refine kg.out.mono ?_; rintro e w6 ⟨v6, rfl, hB6, hG⟩; replace hE5 := hideit (Below.trans hE5.out (Below.mono hB6 hlow.out)); replace hG := hideit hG; clear kg hB6)
      rcases hG.out with ⟨hA, hO6, hR6⟩ | ⟨hA, hv6, hR6⟩
      · have hA1 : ¬ ((n : Int) < (A : Int)) := by omega
        obtain ⟨ov, cv, hv⟩ := own_form hO6
        subst hv
        have hcells : Hid (∀ i, i < A → ∃ ad, ov = some ad ∧ w6.cell? (ad.add i) = some (uv xs i)) := fun i hi => by
          obtain ⟨b, cp, hv, _, _, _, hRow⟩ := hO6.lies (by omega)
          injection hv with hv
          refine ⟨_, hv, ?_⟩
          rw [show (⟨b, 0, none⟩ : Addr).add i = ⟨b, i, none⟩ by unfold Addr.add; by_cases h0 : i = 0 <;> simp [h0]]
          exact hRow.1 i hi
        have hl8 : ((8 * (n - A) : Nat) : Int) = 8 * ((n : Int) - (A : Int)) := by omega
        have hX6 : Hid (∀ i, i < n → ∃ ad, ol = some ad ∧ w6.cell? (ad.add i) = some (uv xs i)) := fun i hi => by
          obtain ⟨ad, h1, _, h3⟩ := hX.out i hi
          exact ⟨ad, h1, cellE hE5.out h3⟩
        replace hR6 := hideit hR6
        clear hG hO6 hX
        go_wp2_with (go_at_call 18; refine (rleft_any _ r _ _ false _ hR6.out).mono ?_; rintro e w7 ⟨rfl, hww⟩; replace hww := hww.symm; subst hww; rw [hl8])
        clear hl8
        go_loopw [10] (fun i X => ∃ k : Nat, k ≤ A ∧ i = .int .i64 k ∧ Ext w6 X) (fun i _ => A - (intOf i).toNat)
        case atStart => exact ⟨0, Nat.zero_le _, rfl, Ext.refl _⟩
        case round =>
          obtain ⟨k, hk, rfl, hEX⟩ := hrel
          by_cases hlt : k < A
          · obtain ⟨a1', rfl, q1⟩ := hcells.out k hlt
            obtain ⟨a2', rfl, q2⟩ := hX6.out k (by omega)
            have k0 : (0 : Int) ≤ (k : Int) := by omega
            have k1 : (k : Int) < (A : Int) := by omega
            have k2 : (k : Int) < (n : Int) := by omega
            have e1 : wr.cell? (a1'.add k) = some (.int .u64 ((xs k).toNat : Int)) := cellE hEX q1
            have e2 : wr.cell? (a2'.add k) = some (.int .u64 ((xs k).toNat : Int)) := cellE hEX q2
            replace hEX := hideit hEX
            clear q1 q2 hX6 hcells hR6 hE5
            go_wp2
            go_quiet (fail)
            go_wp2
            exact ⟨⟨k + 1, by omega, by go_num, Ext.trans hEX.out (below_drewN _ _)⟩, by simp [intOf]; omega⟩
          · obtain rfl : k = A := by omega
            replace hEX := hideit (Ext.trans hE5.out hEX)
            go_wp2
            go_ret
            exact ⟨rfl, hEX.out⟩
      · subst hv6
        have hA1 : (n : Int) < (A : Int) := by omega
        replace hR6 := hideit hR6
        clear hG hX
        go_wp2_with (first
          | (go_at_call 19; refine (rdone_any _ r _ _ true _ hR6.out (by omega)).mono ?_; rintro e w7 ⟨rfl, hww⟩; replace hww := hww.symm; subst hww; rw [hd90])
          | (go_at_call 18; refine (rleft_any _ r _ _ true _ hR6.out).mono ?_; rintro e w7 ⟨rfl, hww⟩; replace hww := hww.symm; subst hww))
        go_ret
        exact ⟨rfl, hE5.out⟩

set_option maxRecDepth 100000 in
theorem lifted (os : Os) (started : os.Started) (H : Type) (enc : TypeId × Value → H) :
    ReturnsInHanded {} Try.checked os 5 .any (Rows.codecListsSpec.pre6 enc Try.prog Try.f5 Rows.codecListsRow.domain false) (Rows.codecListsSpec.post enc Try.prog Try.f5 false true false false) := by
  refine returnsInHanded_of_change_sized (C := Try.checked) own started (by kernel_rfl) Try.func5
    (ChangeSpec.witness6 (enc := enc) (C := Try.checked) false ⟨#[], #[.slice none 0 0, .int .i64 0], []⟩ 8 (by kernel_rfl) (by kernel_rfl) (by kernel_rfl) (by kernel_rfl)) ?_
  intro W base args ds gs before hval0 hW hcnd hsz0 _
  have hsz := hsz0
  have hval : ∀ (j : Nat) t v, Try.f5.params[j]? = some t → args[j]? = some v → Value.okWide Try.prog W .any base t v := hval0
  have hW' := hW
  obtain ⟨p, q, hA0, hV, rfl, hfz, hnd⟩ := hW
  have hA : DataW.TrodAll enc Try.prog W 0 (fun _ => true) true Try.f5.params.toList args.toList ds p := hA0
  rw [Try.params5] at hA hval hsz
  obtain ⟨v0, vs0, d0, ds0, p0, q0, hargs, rfl, rfl, h0, r0⟩ := trodAll_cons hA
  obtain ⟨v1, vs1, d1, ds1, p1, q1, rfl, rfl, rfl, h1, r1⟩ := trodAll_cons r0
  obtain ⟨rfl, rfl, rfl⟩ := trodAll_nil r1
  obtain rfl : args = #[v0, v1] := by cases args; simp_all
  obtain ⟨rfl, rfl⟩ := trodVars_none hV
  have k0 := h0
  have lt0 : ∀ x ∈ p0, x.block < W.heap.size := by obtain ⟨m, hm⟩ := k0; exact DataW.trod_lt m _ _ _ hm
  have k1 := h1
  have lt1 : ∀ x ∈ p1, x.block < W.heap.size := by obtain ⟨m, hm⟩ := k1; exact DataW.trod_lt m _ _ _ hm
  have B0 := uarg (hval 0 48 v0 rfl rfl) h0
  obtain ⟨a1, rfl, rfl, rfl, w1⟩ := open_int Try.underlying3 (hval 1 3 v1 rfl rfl) h1
  clear hA0 hval0
  refine (walk v0 a1 w1 W  B0).mono fun e W' ⟨he, bel⟩ => ?_
  subst he
  exact ⟨_, rfl, _, _, _, [], _, [], hW', trodAll_mk1 (shut_bool Try.underlying4 _), (trodAll_cons_mk (Below.trod laidOut (by kernel_rfl) (of_decide_eq_true (by kernel_rfl)) k0 bel lt0) (trodAll_cons_mk (Below.trod laidOut (by kernel_rfl) (of_decide_eq_true (by kernel_rfl)) k1 bel lt1) trodAll_mk0)), rfl, bel.frame _, fun h => by cases h⟩

theorem over : Rows.codecListsRow.holds Try.pinned (OpenSpec.ofChange Rows.codecListsSpec) :=
  OpenClaim.holds_of_wide 5 Try.f5 rfl rfl rfl rfl rfl rfl rfl ⟨rfl, rfl, rfl, rfl, rfl⟩ rfl rfl rfl rfl rfl (by kernel_rfl) Try.func5 (by kernel_rfl)
    (of_decide_eq_true (by kernel_rfl)) (by unfold Func.isWrapper; first | (rw [if_pos (by decide +kernel)]; kernel_rfl) | (rw [if_neg (by decide +kernel)]; exact ⟨rfl, rfl⟩))
    (fun os started H enc _ => lifted os started H enc)
end Go.Proofs.Ytboncdlihgpepaa.codecLists
namespace Go.Proofs.Ytboncdlihgpepaa
theorem codecLists_holds : Rows.CodecListsSaid := codecLists.over
end Go.Proofs.Ytboncdlihgpepaa
