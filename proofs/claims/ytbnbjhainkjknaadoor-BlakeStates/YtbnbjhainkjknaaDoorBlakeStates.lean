/-
  For every length and every slice of bytes the law BlakeStates returns true, and its arguments read behind the call as they read before; the package-level table of places is as the program lays it.
-/
import Derived.Test.YtbnbjhainkjknaaDoorCards
import Derived.Test.YtbnbjhainkjknaaDoorTie
import Derived.WalkKit
import Derived.ProofKit
import Derived.OpenShut
import Derived.ShutString
import Derived.ChangeOld
import Derived.Below
import Derived.Deep.DeepHandedRow
import Derived.Lib.LaidTab
import Derived.Test.YtbnbjhainkjknaaDoorOpenB
import Derived.Test.YtbnbjhainkjknaaDoorLives
import Derived.Test.YtbnbjhainkjknaaDoorTabP
namespace Go.Proofs.YtbnbjhainkjknaaDoor.blakeStates
open Go.ChangeShapes Go.WideShapes Go.ChangeAt Go.RowKit
set_option linter.unusedVariables false

theorem own : ownKnob Tryd.prog.godebug = none := by kernel_rfl
theorem laidOut : laidOutB Tryd.prog = true := by kernel_rfl
theorem gTab : Tryd.prog.globalNamed "casket/blake.places" = some 0 := by kernel_rfl
theorem gTabType : (Tryd.prog.globals[0]?).map (·.type) = some 58 := by kernel_rfl
theorem cellsG : Tryd.prog.cellsOf 58 = 32 := by kernel_rfl
theorem tabC {W : World} (h : laidMetH Tryd.prog Rows.blakeStatesRow.laid W) (h0 : 0 < W.heap.size) : TabC W := ⟨fun j hj => tab_places h j hj, h0⟩

open Go.BigFrame
structure SS (w : World) (d g nn : Nat) (s : Nat → BitVec 64) (R : Nat → BitVec 8) (X : World) : Prop where
  ext : Ext w X
  st : RowAt d 8 (wv s) X
  dg : RowAt g nn (yv R) X
theorem SS.carry {w X Y : World} {d g nn : Nat} {s : Nat → BitVec 64} {R : Nat → BitVec 8} (h : SS w d g nn s R X) (k : Ext X Y) : SS w d g nn s R Y := ⟨Ext.trans h.ext k, h.st.carry k, h.dg.carry k⟩
theorem SS.setS {w X : World} {d g nn : Nat} {s : Nat → BitVec 64} {R : Nat → BitVec 8} (h : SS w d g nn s R X) (hd : w.heap.size ≤ d) (hg : d ≠ g) (s' : Nat → BitVec 64) : SS w d g nn s' R (X.setCells d 0 (row 8 (wv s'))) := ⟨below_setCells d hd _ _ _ h.ext, h.st.cells, h.dg.cellsOther hg _ _⟩
theorem SS.setP {w X : World} {d g nn p i : Nat} {v : Value} {s : Nat → BitVec 64} {R : Nat → BitVec 8} (h : SS w d g nn s R X) (h1 : w.heap.size ≤ p) (h2 : p ≠ d) (h3 : p ≠ g) : SS w d g nn s R (X.setCell ⟨p, i, none⟩ v) := ⟨h.ext.setCell h1 _, h.st.other _ _ h2, h.dg.other _ _ h3⟩
set_option maxRecDepth 20000 in
set_option maxHeartbeats 2000000 in
theorem walk_bad (z : Int) (hz : z < 1 ∨ 64 < z) (oa : Option Addr) (l cp : Nat) (w : World) (hC : TabC w) : Calls Tryd.prog 8 #[.int .i64 z, .slice oa l cp] w fun e w' => e = .returned (.bool true) ∧ Below w.heap.size w w' := by
  have hE0 : Ext w (w.alloc (.cells #[.slice oa l cp] 22)) := (Below.refl _ _).alloc (Nat.le_refl _) _
  have HE0 := hideit hE0
  have hs := hideit (bsum_bad z none 0 0 (.slice (some ⟨w.heap.size, 0, none⟩) 1 1) (by omega) (w.alloc (.cells #[.slice oa l cp] 22)))
  have hlv := hideit (lives_any (w.alloc (.cells #[.slice oa l cp] 22)) (hC.ext hE0))
  clear hE0 hC
  go_enter Tryd.func8, Tryd.ntmps8
  go_upto_region 1 with (fail)
  refine wp_region_lit ?_
  refine wpList_run rfl (.int .i64 z) (by simp [go_sem]) ?_
  simp only [Act.put, List.setIfInBounds_toArray, List.set_cons_zero, List.set_cons_succ]
  refine wpList_run rfl (.slice oa l cp) (by simp [go_sem]) ?_
  simp only [Act.put, List.setIfInBounds_toArray, List.set_cons_zero, List.set_cons_succ]
  refine wpList_to rfl (.slice (some ⟨w.heap.size, 0, none⟩) 1 1) (w.alloc (.cells #[.slice oa l cp] 22)) (by simp [go_sem]) ?_
  simp only [Act.put, List.setIfInBounds_toArray, List.set_cons_zero, List.set_cons_succ]
  generalize w.alloc (.cells #[.slice oa l cp] 22) = w0 at *
  generalize w.heap.size = pb0 at *
  refine wpList_call rfl (by simp [go_sem]) (hs.out.mono ?_)
  rintro e w1 ⟨rfl, hw1⟩
  subst hw1
  refine ⟨_, rfl, ?_⟩
  simp only [Act.put, List.setIfInBounds_toArray, List.set_cons_zero, List.set_cons_succ]
  rcases hz with h1 | h1
  · have h2 : ¬ (1 : Int) ≤ z := by omega
    go_wp2_with (go_at_call 11; refine hlv.out.mono ?_; rintro e w2 ⟨rfl, hw2⟩; have HE2 := hideit (Ext.trans HE0.out hw2); clear hw2)
    go_ret
    exact ⟨rfl, HE2.out⟩
  · have h2 : (1 : Int) ≤ z := by omega
    have h3 : ¬ z < 1 := by omega
    have h4 : ¬ z ≤ 64 := by omega
    go_wp2_with (go_at_call 11; refine hlv.out.mono ?_; rintro e w2 ⟨rfl, hw2⟩; have HE2 := hideit (Ext.trans HE0.out hw2); clear hw2)
    go_ret
    exact ⟨rfl, HE2.out⟩
set_option maxRecDepth 20000 in
set_option maxHeartbeats 4000000 in
theorem walk_good (nn : Nat) (hn1 : 1 ≤ nn) (hn2 : nn ≤ 64) (oa : Option Addr) (l cp : Nat) (b : Nat → BitVec 8) (hl : l ≤ 140737488351232) (w : World) (hB : BV (.slice oa l cp) l b w) (hC : TabC w) : Calls Tryd.prog 8 #[.int .i64 (nn : Int), .slice oa l cp] w fun e w' => e = .returned (.bool true) ∧ Below w.heap.size w w' := by
  have hE0 : Ext w (w.alloc (.cells #[.slice oa l cp] 22)) := (Below.refl _ _).alloc (Nat.le_refl _) _
  have HE0 := hideit hE0
  have hP := partsOne w (.slice oa l cp) l b (hB.ext hE0)
  have hs0 := bsum_any nn 0 1 hn1 hn2 (by omega) (.slice none 0 0) _ (fun _ => 0#8) _ _ _ (w.alloc (.cells #[.slice oa l cp] 22)) (.inl ⟨rfl, rfl⟩) hP (hC.ext hE0) (by omega)
  obtain ⟨M, hM⟩ : ∃ M, M = joinF (keyF 0 fun _ => 0#8) (keyN 0) (fun _ => l) (fun _ => b) 1 := ⟨_, rfl⟩
  have hMb : Hid (∀ j, M j = b j) := fun j => by
    rw [hM]
    simp [joinF, catF, sumL, keyN]
  have hN : keyN 0 + sumL (fun _ => l) 1 = l := by simp [keyN, sumL]
  rw [← hM, hN] at hs0
  obtain ⟨H0, hH0⟩ : ∃ H0, H0 = h0F nn 0 := ⟨_, rfl⟩
  have hH0j : Hid (∀ j, H0 j = if j = 0 then xW (xW (fT 0) 16842752#64) (BitVec.ofNat 64 nn) else fT j) := fun j => by
    rw [hH0]
    unfold h0F k0 xW
    simp only [Nat.zero_mul, BitVec.xor_zero, BitVec.xor_assoc]
  rw [← hH0] at hs0
  obtain ⟨q, hq⟩ : ∃ q, q = qOf l := ⟨_, rfl⟩
  have hq1 : l ≤ 128 * q + 128 := by rw [hq]; unfold qOf; omega
  have hq2 : q = 0 ∨ 128 * q < l := by rw [hq]; unfold qOf; omega
  obtain ⟨T, hT⟩ : ∃ T, T = chainB H0 M := ⟨_, rfl⟩
  have hT0 : Hid (T 0 = H0) := by rw [hT]; rfl
  have hTs : Hid (∀ k, T (k + 1) = pieceF (T k) (fun j => M (128 * k + j)) (BitVec.ofNat 64 (128 * (k + 1))) false) := fun k => by rw [hT]; rfl
  obtain ⟨Z, hZ⟩ : ∃ Z, Z = pieceF (T q) (pendB M q (l - 128 * q)) (BitVec.ofNat 64 l) true := ⟨_, rfl⟩
  obtain ⟨R, hR⟩ : ∃ R, R = blakeF H0 M l := ⟨_, rfl⟩
  have hRj : Hid (∀ j, R j = digF Z j) := fun j => by rw [hR, hZ, hT, hq]; rfl
  rw [← hR] at hs0
  have hs := hideit hs0
  replace hZ := hideit hZ
  clear hs0 hM hH0 hN hT hq hR hP hE0
  obtain ⟨f, hf⟩ : ∃ f, f = fT := ⟨_, rfl⟩
  have hfi := first_any
  rw [← hf] at hfi hH0j
  replace hfi := hideit hfi
  clear hf
  replace hC := hideit hC
  replace hB := hideit hB
  obtain ⟨B0, hB0⟩ : ∃ B0, B0 = w.heap.size := ⟨_, rfl⟩
  have z1 : (1 : Int) ≤ (nn : Int) := by omega
  have z2 : (nn : Int) ≤ 64 := by omega
  have z3 : ¬ (nn : Int) < 1 := by omega
  have z4 : ¬ (64 : Int) < (nn : Int) := by omega
  go_enter Tryd.func8, Tryd.ntmps8
  go_upto_region 1 with (fail)
  refine wp_region_lit ?_
  refine wpList_run rfl (.int .i64 (nn : Int)) (by simp [go_sem]) ?_
  simp only [Act.put, List.setIfInBounds_toArray, List.set_cons_zero, List.set_cons_succ]
  refine wpList_run rfl (.slice oa l cp) (by simp [go_sem]) ?_
  simp only [Act.put, List.setIfInBounds_toArray, List.set_cons_zero, List.set_cons_succ]
  refine wpList_to rfl (.slice (some ⟨w.heap.size, 0, none⟩) 1 1) (w.alloc (.cells #[.slice oa l cp] 22)) (by simp [go_sem]) ?_
  simp only [Act.put, List.setIfInBounds_toArray, List.set_cons_zero, List.set_cons_succ]
  generalize w.alloc (.cells #[.slice oa l cp] 22) = w0 at *
  rw [← hB0]
  rw [← hB0] at hs
  refine wpList_call rfl (by simp [go_sem]) (hs.out.mono ?_)
  rintro e w1 ⟨v1, rfl, hO1, hE1⟩
  refine ⟨_, rfl, ?_⟩
  obtain ⟨g, cp1, rfl, hg1, hg2, hg3, hRow⟩ := hO1.lies (by omega)
  simp only [Act.put, List.setIfInBounds_toArray, List.set_cons_zero, List.set_cons_succ]
  have HE1 := hideit (Ext.trans HE0.out hE1)
  have HRow := hideit hRow
  have hgB : B0 ≤ g := by have := Below.size HE0.out; omega
  clear hO1 hE1 hRow hs HE0 hg1
  have hlv := hideit (lives_any w1 (hC.out.ext HE1.out))
  by_cases hbig : 1048576 < l
  · have hb1 : (1048576 : Int) < (l : Int) := by omega
    go_wp2_with (go_at_call 11; refine hlv.out.mono ?_; rintro e w2 ⟨rfl, hw2⟩; have HE2 := hideit (Ext.trans HE1.out hw2); clear hw2)
    go_ret
    exact ⟨rfl, HE2.out⟩
  · have hb1 : ¬ (1048576 : Int) < (l : Int) := by omega
    go_upto_region 6 with (go_at_call 11; refine hlv.out.mono ?_; rintro e w2 ⟨rfl, hw2⟩; have HE2 := hideit (Ext.trans HE1.out hw2); have HRow2 := hideit (HRow.out.carry hw2); clear hw2)
    clear HE1 HRow hlv
    have hz2 := zero30
    refine wp_region_lit ?_
    refine wpList_call rfl (by simp [go_sem]) ((hfi.out w2).mono ?_)
    rintro e w3 ⟨rfl, hw3⟩
    refine ⟨_, rfl, ?_⟩
    simp only [Act.put, List.setIfInBounds_toArray, List.set_cons_zero, List.set_cons_succ]
    have HN := hideit (RowAt.new w3 8 (wv fun _ => 0#64) 30)
    have hE3 : Ext w3 (w3.alloc (.cells (row 8 (wv fun _ => 0#64)).toArray 30)) := (Below.refl _ _).alloc (Nat.le_refl _) _
    refine wpList_to rfl (.pointer (some ⟨w3.heap.size, 0, none⟩)) (w3.alloc (.cells (row 8 (wv fun _ => 0#64)).toArray 30)) (by simp [go_sem, hz2]) ?_
    simp only [Act.put, List.setIfInBounds_toArray, List.set_cons_zero, List.set_cons_succ]
    refine wpList_store_mid rfl 30 (.tmp 7) (.tmp 48) rfl _ 0 (row 8 (wv f)).toArray rfl rfl (by rw [row_size]; exact HN.out.there) (by rw [row_size]; exact info30) (row_one fun _ _ => rfl) ?_
    have hE4 : Ext w2 ((w3.alloc (.cells (row 8 (wv fun _ => 0#64)).toArray 30)).setCells w3.heap.size 0 (row 8 (wv f))) := Ext.trans hw3 (below_setCells w3.heap.size (Nat.le_refl _) _ _ _ hE3)
    have HS : SS w w3.heap.size g nn f R ((w3.alloc (.cells (row 8 (wv fun _ => 0#64)).toArray 30)).setCells w3.heap.size 0 (row 8 (wv f))) := ⟨Ext.trans HE2.out hE4, HN.out.cells, HRow2.out.carry hE4⟩
    replace HS := hideit HS
    have hd1 : g < w3.heap.size := Nat.lt_of_lt_of_le HRow2.out.2.2 (Below.size hw3)
    have hd2 : w.heap.size ≤ w3.heap.size := Nat.le_trans (Below.size HE2.out) (Below.size hw3)
    generalize (w3.alloc (.cells (row 8 (wv fun _ => 0#64)).toArray 30)).setCells w3.heap.size 0 (row 8 (wv f)) = w4 at *
    generalize w3.heap.size = d at *
    clear HN hE3 hE4 hw3 hfi HE2 HRow2 hz2
    simp only [Act.put]
    have e0 := HS.out.st.1 0 (by omega)
    have g0 := HS.out.st.2.1 0 (by omega)
    simp only [wv] at e0
    have hx1 : bits .xor .u64 ((f 0).toNat : Int) 16842752 = ((xW (f 0) 16842752#64).toNat : Int) := xW_fact (f 0) 16842752#64
    have hx2 : bits .xor .u64 ((xW (f 0) 16842752#64).toNat : Int) (nn : Int) = ((H0 0).toNat : Int) := by
      have h1 := xW_fact (xW (f 0) 16842752#64) (BitVec.ofNat 64 nn)
      rw [BitVec.toNat_ofNat, Nat.mod_eq_of_lt (by omega)] at h1
      rw [h1, hH0j.out 0, if_pos rfl]
    go_upto_region 8 with (fail)
    have HS1 : SS w d g nn (T 0) R (w4.setCell ⟨d, 0, none⟩ (.int .u64 ((H0 0).toNat : Int))) := by
      have hh := HS.out
      refine ⟨hh.ext.setCell hd2 _, (hh.st.set 0 (.int .u64 ((H0 0).toNat : Int))).congr fun j _ => ?_, hh.dg.other _ _ (by show d ≠ g; omega)⟩
      rw [hT0.out]
      simp only [wv]
      by_cases e : j = 0
      · rw [if_pos e, e]
      · rw [if_neg e, hH0j.out j, if_neg e]
    replace HS1 := hideit HS1
    generalize w4.setCell ⟨d, 0, none⟩ (.int .u64 ((H0 0).toNat : Int)) = w5 at *
    clear HS e0 g0 hx1 hx2 hT0 hH0j
    have hz3 := zero31
    go_wp2
    go_loopw [8] (fun i wr => ∃ k : Nat, k ≤ q ∧ i = .int .i64 ((128 * k : Nat) : Int) ∧ SS w d g nn (T k) R wr) (fun i _ => l + 128 - (intOf i).toNat)
    case atStart => exact ⟨0, by omega, rfl, HS1.out⟩
    case round =>
      clear HS1
      obtain ⟨k, hk, rfl, hS⟩ := hrel
      have HS := hideit hS
      clear hS
      obtain ⟨A, hA⟩ : ∃ A, A = 128 * k := ⟨_, rfl⟩
      rw [← hA]
      have hA1 : A ≤ l := by omega
      have hAq : k < q → A + 128 < l := by omega
      have hAl : ¬ k < q → l ≤ A + 128 := by omega
      replace hA := hideit hA
      go_upto_region 10 with (fail)
      obtain ⟨pb, hpb⟩ : ∃ pb, pb = wr.heap.size := ⟨_, rfl⟩
      have HP : RowAt pb 128 (yv fun _ => 0#8) (wr.alloc (.cells (row 128 (yv fun _ => 0#8)).toArray 31)) := by rw [hpb]; exact RowAt.new wr 128 _ 31
      have HSa := hideit (HS.out.carry ((Below.refl _ _).alloc (Nat.le_refl _) (.cells (row 128 (yv fun _ => 0#8)).toArray 31)))
      have hdp : d < pb := by rw [hpb]; exact HS.out.st.2.2
      rw [← hpb]
      replace HP := hideit HP
      clear hpb HS
      generalize wr.alloc (.cells (row 128 (yv fun _ => 0#8)).toArray 31) = Y at *
      obtain ⟨N, hN⟩ : ∃ N, N = if l - A < 128 then l - A else 128 := ⟨_, rfl⟩
      have hN1 : N ≤ 128 := by rw [hN]; split <;> omega
      have hN2 : A + N ≤ l := by rw [hN]; split <;> omega
      have hN3 : N < 128 → A + N = l := by rw [hN]; split <;> omega
      clear hN
      go_wp2
      go_loopw [10] (fun i wr => ∃ j : Nat, j ≤ N ∧ i = .int .i64 (j : Int) ∧ SS w d g nn (T k) R wr ∧ RowAt pb 128 (yv fun x => if x < j then M (A + x) else 0#8) wr) (fun i _ => N - (intOf i).toNat)
      case atStart => exact ⟨0, by omega, rfl, HSa.out, HP.out.congr fun x _ => by simp only [yv]; rw [if_neg (by omega)]⟩
      case round =>
        clear HSa HP
        obtain ⟨j, hj, rfl, hS, hP⟩ := hrel
        have HS := hideit hS
        have HP := hideit hP
        have j0 : (0 : Int) ≤ (j : Int) := by omega
        have a0 : (0 : Int) ≤ (A : Int) := by omega
        have a3 : (A : Int) ≤ 140737488355328 := by omega
        by_cases hlt2 : j < N
        · obtain ⟨a, rfl, hcell⟩ : ∃ a, oa = some a ∧ wr.cell? (a.add (A + j)) = some (.int .u8 ((M (A + j)).toNat : Int)) := by
            rcases hB.out with ⟨h, h0⟩ | ⟨a, cap', h, _, h3⟩
            · omega
            · injection h with e1 e2 e3
              refine ⟨a, e1, ?_⟩
              rw [hMb.out]
              exact (h3.carry hS.ext).1 (A + j) (by omega)
          have e2 := hP.1 j (by omega)
          have g2 := hP.2.1 j (by omega)
          clear hS hP
          have j1 : (j : Int) < 128 := by omega
          have a1 : (A : Int) + (j : Int) < (l : Int) := by omega
          have a2 : A + j < l := by omega
          go_wp2
          have HI := hideit (HS.out.setP (p := pb) (i := j) (v := .int .u8 ((M (A + j)).toNat : Int)) (by omega) (by omega) (by omega))
          have HJ : RowAt pb 128 (yv fun x => if x < j + 1 then M (A + x) else 0#8) (wr.setCell ⟨pb, j, none⟩ (.int .u8 ((M (A + j)).toNat : Int))) := (HP.out.set j _).congr fun x _ => by
            simp only [yv]
            by_cases e : x = j
            · subst e; rw [if_pos rfl, if_pos (by omega)]
            · rw [if_neg e]
              by_cases h : x < j
              · rw [if_pos h, if_pos (by omega)]
              · rw [if_neg h, if_neg (by omega)]
          exact ⟨⟨j + 1, by omega, by go_num, HI.out, HJ⟩, by simp [intOf]; omega⟩
        · have hjN : j = N := by omega
          clear hS hP
          by_cases hkq : k < q
          · have hN4 : N = 128 := by have := hAq hkq; omega
            have hAl2 := hAq hkq
            have j1 : ¬ (j : Int) < 128 := by omega
            have hlast : ((A : Int) + (j : Int) == (l : Int)) = false := by rw [beq_eq_false_iff_ne]; omega
            obtain ⟨pp, hpp⟩ : ∃ pp, pp = fun x => M (128 * k + x) := ⟨_, rfl⟩
            have HP2 := hideit (HP.out.congr (g' := yv pp) fun x hx => by simp only [yv]; rw [if_pos (by omega), hpp, hA.out])
            have hrb := piece_any (T k) pp (BitVec.ofNat 64 (128 * (k + 1))) false wr (hC.out.ext HS.out.ext)
            have hjj : A + j = 128 * (k + 1) := by have := hA.out; omega
            have hTk : pieceF (T k) pp (BitVec.ofNat 64 (128 * (k + 1))) false = T (k + 1) := by rw [hpp]; exact (hTs.out k).symm
            rw [hTk] at hrb
            have ht : ((BitVec.ofNat 64 (128 * (k + 1))).toNat : Int) = (A : Int) + (j : Int) := by
              rw [BitVec.toNat_ofNat, Nat.mod_eq_of_lt (by omega)]
              omega
            rw [ht] at hrb
            replace hrb := hideit hrb
            have wr1 : IntKind.i64.wrap ((A : Int) + (j : Int)) = (A : Int) + (j : Int) := by rw [IntKind.wrap_i64]; omega
            have wr2 : IntKind.u64.wrap ((A : Int) + (j : Int)) = (A : Int) + (j : Int) := by rw [IntKind.wrap_u64]; omega
            have j2 : (j : Int) ≤ 128 := by omega
            replace hjj := hideit hjj
            have jp : 1 ≤ j := by omega
            clear hpp HP ht hTk hjN hN4
            go_upto_region 15 with (fail)
            refine wp_region_lit ?_
            refine wpList_load_mid rfl 30 (.tmp 7) rfl d 0 rfl (row 8 (wv (T k))) _ HS.out.st.range Tryd.underlying30 rfl (by rw [row_length]; exact info30) ?_
            simp only [Act.put, List.setIfInBounds_toArray, List.set_cons_zero, List.set_cons_succ]
            refine wpList_load_mid rfl 31 (.tmp 9) rfl pb 0 rfl (row 128 (yv pp)) _ HP2.out.range Tryd.underlying31 rfl (by rw [row_length]; exact info31) ?_
            simp only [Act.put, List.setIfInBounds_toArray, List.set_cons_zero, List.set_cons_succ]
            refine wpList_run rfl (.int .i64 (A : Int)) (by simp [go_sem]) ?_
            simp only [Act.put, List.setIfInBounds_toArray, List.set_cons_zero, List.set_cons_succ]
            refine wpList_run rfl (.int .i64 (j : Int)) (by simp [go_sem]) ?_
            simp only [Act.put, List.setIfInBounds_toArray, List.set_cons_zero, List.set_cons_succ]
            refine wpList_run rfl (.int .i64 ((A : Int) + (j : Int))) (by simp [go_sem, wr1]) ?_
            simp only [Act.put, List.setIfInBounds_toArray, List.set_cons_zero, List.set_cons_succ]
            refine wpList_run rfl (.int .u64 ((A : Int) + (j : Int))) (by simp [go_sem, wr2]) ?_
            simp only [Act.put, List.setIfInBounds_toArray, List.set_cons_zero, List.set_cons_succ]
            refine wpList_run rfl (.bool false) (by simp [go_sem]) ?_
            simp only [Act.put, List.setIfInBounds_toArray, List.set_cons_zero, List.set_cons_succ]
            refine wpList_call rfl (by simp [go_sem]) (hrb.out.mono ?_)
            rintro e V ⟨rfl, hV⟩
            refine ⟨_, rfl, ?_⟩
            simp only [Act.put, List.setIfInBounds_toArray, List.set_cons_zero, List.set_cons_succ]
            have HV := hideit (HS.out.carry hV)
            clear hrb hV HS HP2
            refine wpList_store_mid rfl 30 (.tmp 7) (.tmp 89) rfl d 0 (row 8 (wv (T (k + 1)))).toArray rfl rfl (by rw [row_size]; exact HV.out.st.there) (by rw [row_size]; exact info30) (row_one fun _ _ => rfl) ?_
            have HV1 := hideit (HV.out.setS hd2 (by omega) (T (k + 1)))
            clear HV
            generalize V.setCells d 0 (row 8 (wv (T (k + 1)))) = V1 at *
            simp only [Act.put]
            go_wp2
            have hi : Value.int .i64 ((A : Int) + (j : Int)) = .int .i64 ((128 * (k + 1) : Nat) : Int) := by have := hjj.out; congr 1; omega
            exact ⟨⟨k + 1, by omega, hi, HV1.out⟩, by simp [intOf]; omega⟩
          · have hkq2 : k = q := by omega
            have hAl2 := hAl hkq
            have hAj : A + j = l := by
              rcases Nat.lt_or_ge N 128 with h | h
              · have := hN3 h; omega
              · omega
            have hlast : ((A : Int) + (j : Int) == (l : Int)) = true := by rw [beq_iff_eq]; omega
            obtain ⟨pp, hpp⟩ : ∃ pp, pp = pendB M q (l - 128 * q) := ⟨_, rfl⟩
            have HP2 := hideit (HP.out.congr (g' := yv pp) fun x hx => by
              have h1 := hA.out
              simp only [yv]
              rw [hpp]
              unfold pendB
              rw [show l - 128 * q = j by omega, ← hkq2, ← h1])
            have hrb := piece_any (T k) pp (BitVec.ofNat 64 l) true wr (hC.out.ext HS.out.ext)
            have hTk : pieceF (T k) pp (BitVec.ofNat 64 l) true = Z := by rw [hpp, hZ.out, hkq2]
            rw [hTk] at hrb
            have ht : ((BitVec.ofNat 64 l).toNat : Int) = (A : Int) + (j : Int) := by
              rw [BitVec.toNat_ofNat, Nat.mod_eq_of_lt (by omega)]
              omega
            rw [ht] at hrb
            replace hrb := hideit hrb
            have wr1 : IntKind.i64.wrap ((A : Int) + (j : Int)) = (A : Int) + (j : Int) := by rw [IntKind.wrap_i64]; omega
            have wr2 : IntKind.u64.wrap ((A : Int) + (j : Int)) = (A : Int) + (j : Int) := by rw [IntKind.wrap_u64]; omega
            have j2 : (j : Int) ≤ 128 := by omega
            have hng : ¬ ((A : Int) + (j : Int) < (l : Int)) := by omega
            replace hAj := hideit hAj
            clear hpp HP ht hTk hkq2
            clear hjN
            by_cases j1 : (j : Int) < 128
            all_goals
              go_upto_region 15 with (fail)
              refine wp_region_lit ?_
              refine wpList_load_mid rfl 30 (.tmp 7) rfl d 0 rfl (row 8 (wv (T k))) _ HS.out.st.range Tryd.underlying30 rfl (by rw [row_length]; exact info30) ?_
              simp only [Act.put, List.setIfInBounds_toArray, List.set_cons_zero, List.set_cons_succ]
              refine wpList_load_mid rfl 31 (.tmp 9) rfl pb 0 rfl (row 128 (yv pp)) _ HP2.out.range Tryd.underlying31 rfl (by rw [row_length]; exact info31) ?_
              simp only [Act.put, List.setIfInBounds_toArray, List.set_cons_zero, List.set_cons_succ]
              refine wpList_run rfl (.int .i64 (A : Int)) (by simp [go_sem]) ?_
              simp only [Act.put, List.setIfInBounds_toArray, List.set_cons_zero, List.set_cons_succ]
              refine wpList_run rfl (.int .i64 (j : Int)) (by simp [go_sem]) ?_
              simp only [Act.put, List.setIfInBounds_toArray, List.set_cons_zero, List.set_cons_succ]
              refine wpList_run rfl (.int .i64 ((A : Int) + (j : Int))) (by simp [go_sem, wr1]) ?_
              simp only [Act.put, List.setIfInBounds_toArray, List.set_cons_zero, List.set_cons_succ]
              refine wpList_run rfl (.int .u64 ((A : Int) + (j : Int))) (by simp [go_sem, wr2]) ?_
              simp only [Act.put, List.setIfInBounds_toArray, List.set_cons_zero, List.set_cons_succ]
              refine wpList_run rfl (.bool true) (by simp [go_sem]) ?_
              simp only [Act.put, List.setIfInBounds_toArray, List.set_cons_zero, List.set_cons_succ]
              refine wpList_call rfl (by simp [go_sem]) (hrb.out.mono ?_)
              rintro e V ⟨rfl, hV⟩
              refine ⟨_, rfl, ?_⟩
              simp only [Act.put, List.setIfInBounds_toArray, List.set_cons_zero, List.set_cons_succ]
              have HV := hideit (HS.out.carry hV)
              clear hrb hV HS HP2
              refine wpList_store_mid rfl 30 (.tmp 7) (.tmp 89) rfl d 0 (row 8 (wv Z)).toArray rfl rfl (by rw [row_size]; exact HV.out.st.there) (by rw [row_size]; exact info30) (row_one fun _ _ => rfl) ?_
              have HV1 := hideit (HV.out.setS hd2 (by omega) Z)
              clear HV
              generalize V.setCells d 0 (row 8 (wv Z)) = V1 at *
              simp only [Act.put]
              go_wp2
              go_loopw [12] (fun i wr => ∃ t : Nat, t ≤ nn ∧ i = .int .i64 (t : Int) ∧ SS w d g nn Z R wr) (fun i _ => nn - (intOf i).toNat)
              case atStart => exact ⟨0, by omega, rfl, HV1.out⟩
              case round =>
                clear HV1
                obtain ⟨t, ht, rfl, hS⟩ := hrel
                have HS := hideit hS
                by_cases hlt3 : t < nn
                · have e1 := hS.st.1 (t / 8) (by omega)
                  have e2 := hS.dg.1 t hlt3
                  clear hS
                  simp only [wv] at e1
                  simp only [yv] at e2
                  have t0 : (0 : Int) ≤ (t : Int) := by omega
                  have t1 : (t : Int) < (nn : Int) := by omega
                  have t2 : (0 : Int) ≤ (t : Int) / 8 := by omega
                  have t3 : (t : Int) / 8 < 8 := by omega
                  have b1 := (Z (t / 8)).isLt
                  have hne1 : (((R t).toNat : Int) != ((Z (t / 8)).toNat : Int) / 2 ^ (8 * (t % 8)) % 256) = false := by
                    rw [dig_fact, hRj.out]
                    unfold digF
                    simp
                  go_wp2
                  go_quiet (fail)
                  go_wp2
                  go_roundw
                  case rel =>
                    have HS6 := HS.out.carry (ext_drewN _ nq)
                    first | exact ⟨(t + 1 : Nat), by omega, by go_num, HS6⟩ | ((repeat apply Exists.intro); exact ⟨⟨t + 1, by omega, by go_num, HS6⟩, rfl⟩)
                  case measure => simp [intOf]; omega
                · have t1 : ¬ (t : Int) < (nn : Int) := by omega
                  clear hS
                  go_wp2
                  go_ret
                  exact ⟨rfl, HS.out.ext⟩
theorem walk (z : Int) (hz : (Lit.int .i64 z).wf = true) (v : Value) (w : World) (hA : BArg v w) (hC : TabC w) : Calls Tryd.prog 8 #[.int .i64 z, v] w fun e w' => e = .returned (.bool true) ∧ Below w.heap.size w w' := by
  obtain ⟨l, b, hB, hl⟩ := hA.bv
  obtain ⟨oa, cp, rfl⟩ := hB.form
  by_cases h1 : z < 1 ∨ 64 < z
  · exact walk_bad z h1 oa l cp w hC
  · obtain ⟨nn, rfl⟩ : ∃ nn : Nat, z = (nn : Int) := ⟨z.toNat, by omega⟩
    exact walk_good nn (by omega) (by omega) oa l cp b hl w hB hC

theorem contract (H : Type) (enc : TypeId × Value → H) (W : World) (base : Nat) (args : Array Value) (ds gs : List (DataW H)) (before : List MemPlace)
    (hval0 : ∀ (j : Nat) t v, Tryd.f8.params[j]? = some t → args[j]? = some v → Value.okWide Tryd.prog W .any base t v)
    (hW : DataW.Whole enc Tryd.prog Tryd.f8.params.toList Rows.blakeStatesSpec.vars false W args.toList ds gs before) (hL : laidMetH Tryd.prog Rows.blakeStatesRow.laid W) (hsz0 : (DataW.weightsEach Tryd.prog (Tryd.f8.params.toList ++ []) (ds ++ gs)).all (· ≤ reachBytes) = true) :
    Calls Tryd.prog 8 args W fun e W' => ∃ v, e = .returned v ∧ Rows.blakeStatesSpec.post enc Tryd.prog Tryd.f8 false true false false W args v W' := by
  have hval := hval0
  have hsz := hsz0
  have hW' := hW
  obtain ⟨p, q, hA0, hV, rfl, hfz, hnd⟩ := hW
  have hA : DataW.TrodAll enc Tryd.prog W 0 (fun _ => true) true Tryd.f8.params.toList args.toList ds p := hA0
  rw [Tryd.params8] at hA hval hsz
  obtain ⟨v0, vs0, d0, ds0, p0, q0, hargs, rfl, rfl, h0, r0⟩ := trodAll_cons hA
  obtain ⟨v1, vs1, d1, ds1, p1, q1, rfl, rfl, rfl, h1, r1⟩ := trodAll_cons r0
  obtain ⟨rfl, rfl, rfl⟩ := trodAll_nil r1
  obtain rfl : args = #[v0, v1] := by cases args; simp_all
  obtain ⟨rfl, rfl⟩ := trodVars_none hV
  have h0s : 0 < W.heap.size := by
    have hc := tab_places hL 0 (by decide)
    rcases Nat.lt_or_ge 0 W.heap.size with h | h
    · exact h
    · exfalso
      have : W.heap[0]? = none := Array.getElem?_eq_none h
      simp [World.cell?, this] at hc
  have hC : TabC W := tabC hL h0s
  have k0 := h0
  have lt0 : ∀ x ∈ p0, x.block < W.heap.size := by obtain ⟨m, hm⟩ := k0; exact DataW.trod_lt m _ _ _ hm
  have k1 := h1
  have lt1 : ∀ x ∈ p1, x.block < W.heap.size := by obtain ⟨m, hm⟩ := k1; exact DataW.trod_lt m _ _ _ hm
  obtain ⟨a0, rfl, rfl, rfl, w0⟩ := open_int Tryd.underlying3 (hval 0 3 v0 rfl rfl) h0
  have B1 := barg (hval 1 22 v1 rfl rfl) h1 hsz 1 rfl rfl
  clear hA0 hval0
  refine (walk a0 w0 v1 W B1 hC).mono fun e W' ⟨he, bel⟩ => ?_
  subst he
  exact ⟨_, rfl, _, _, _, [], _, [], hW', trodAll_mk1 (shut_bool Tryd.underlying4 _), (trodAll_cons_mk (Below.trod laidOut (by kernel_rfl) (of_decide_eq_true (by kernel_rfl)) k0 bel lt0) (trodAll_cons_mk (Below.trod laidOut (by kernel_rfl) (of_decide_eq_true (by kernel_rfl)) k1 bel lt1) trodAll_mk0)), rfl, bel.frame _, fun h => by cases h⟩

def wit : Array Value := #[.int .i64 0, .slice none 0 0]
def dat {H : Type} : List (DataW H) := [.lit (.int .i64 0), .nil]
def setTab : Obj → Obj
  | .cells _ t frozen => .cells (row 32 (iv plF)).toArray t frozen
  | o => o
theorem laid_met (os : Os) : laidMet Tryd.prog Rows.blakeStatesRow.laid (({ World.holding Tryd.prog os ⟨#[], #[], []⟩ with heap := (World.holding Tryd.prog os ⟨#[], #[], []⟩).heap.modify 0 setTab } : World).forCall (fun _ _ => 0) ⟨#[], wit, []⟩).memory :=
  laidMet_of_run' 8 (by kernel_rfl) (by kernel_rfl)
theorem reads (os : Os) {H : Type} (enc : TypeId × Value → H) : ∃ places, DataW.whole enc Tryd.prog (({ World.holding Tryd.prog os ⟨#[], #[], []⟩ with heap := (World.holding Tryd.prog os ⟨#[], #[], []⟩).heap.modify 0 setTab } : World).forCall (fun _ _ => 0) ⟨#[], wit, []⟩).memory Tryd.f8.params.toList Rows.blakeStatesSpec.vars false wit.toList 8 = some (dat, [], places) :=
  ⟨[], by kernel_rfl⟩

set_option maxRecDepth 100000 in
theorem lifted (os : Os) (started : os.Started) (H : Type) (enc : TypeId × Value → H) (F : Stop.Interp) :
    ReturnsInHanded {} Tryd.checked os 8 .any ((OpenSpec.ofChange Rows.blakeStatesSpec).preRow enc Tryd.prog Tryd.f8 Rows.blakeStatesRow.domain false Rows.blakeStatesRow.laid) (((OpenSpec.ofChange Rows.blakeStatesSpec).at F).post enc Tryd.prog Tryd.f8 false true false false) := by
  obtain ⟨places, hx⟩ := reads os enc
  refine returnsInHanded_of_row (C := Tryd.checked) (s := (OpenSpec.ofChange Rows.blakeStatesSpec)) own started (by kernel_rfl) Tryd.func8
    (witness_row_at (enc := enc) (C := Tryd.checked) false ({ World.holding Tryd.prog os ⟨#[], #[], []⟩ with heap := (World.holding Tryd.prog os ⟨#[], #[], []⟩).heap.modify 0 setTab } : World) wit rfl (by kernel_rfl) (by kernel_rfl) (by kernel_rfl)
      (OpenSpec.preRow_of_cond 8 hx (by kernel_rfl) (fun k hk => by cases hk) (by kernel_rfl) (laid_met os))) ?_
  intro W base args ds gs before hval hW _ hcond hsz hL _ _
  exact contract H enc W base args ds gs before hval hW hL hsz

theorem said : Rows.BlakeStatesSaid :=
  OpenClaim.holds_of_cond 8 Tryd.f8 rfl rfl rfl rfl rfl rfl rfl ⟨rfl, rfl, rfl, rfl, rfl⟩ rfl rfl rfl rfl rfl (by kernel_rfl) Tryd.func8 (by kernel_rfl)
    (of_decide_eq_true (by kernel_rfl)) (by unfold Func.isWrapper; first | (rw [if_pos (by decide +kernel)]; kernel_rfl) | (rw [if_neg (by decide +kernel)]; exact ⟨rfl, rfl⟩))
    (fun os started H enc _ F => by rw [OpenClaim.pre_eq_preRow]; exact lifted os started H enc F)

theorem plain (f : FuncId) (fn : Func) (hf : Tryd.pinned.checked.prog.funcNamed "casket/casketlaw06.BlakeStates" = some f) (hfn : Tryd.pinned.checked.prog.funcs[f]? = some fn) :
    false = Tryd.pinned.checked.prog.looks [] ∧ ∀ (j : Nat) t, fn.params[j]? = some t → Tryd.pinned.checked.prog.wantsStandIn t = false := by
  obtain rfl : f = 8 := Option.some.inj ((show Tryd.prog.funcNamed "casket/casketlaw06.BlakeStates" = some 8 by kernel_rfl).symm.trans hf) |>.symm
  obtain rfl : fn = Tryd.f8 := (Option.some.inj (Tryd.func8.symm.trans hfn)).symm
  refine ⟨by kernel_rfl, fun j t ht => ?_⟩
  rw [Tryd.params8] at ht
  have hm : t ∈ [3, 22] := by simpa using Array.mem_of_getElem? ht
  have hall : ([3, 22].all fun u => !Tryd.prog.wantsStandIn u) = true := by kernel_rfl
  exact (show Tryd.prog.wantsStandIn t = false by simpa using List.all_eq_true.1 hall t hm)

theorem card : Rows.BlakeStatesCardSaid :=
  Claim7.holds_tied_plain_at .later [] _ _ _ _ said (fun _ h => by cases h) (by kernel_rfl) (fun _ h => by cases h) blakeStates_row_tie rfl ⟨rfl, rfl⟩ (by kernel_rfl) rfl plain (by kernel_rfl)
end Go.Proofs.YtbnbjhainkjknaaDoor.blakeStates
namespace Go.Proofs.YtbnbjhainkjknaaDoor
theorem blakeStates_holds : Rows.BlakeStatesCardSaid := blakeStates.card
end Go.Proofs.YtbnbjhainkjknaaDoor
