/-
  For every slice of bytes, nil or not, the law ShaStates returns true, and its argument reads behind the call as it read before; the package-level table of constants is laid as the program text lays it. No other condition.
-/
import Derived.Test.YtbejodcgigdjaaaDoorCards
import Derived.Test.YtbejodcgigdjaaaDoorTie
import Derived.WalkKit
import Derived.ProofKit
import Derived.OpenShut
import Derived.ShutString
import Derived.ChangeOld
import Derived.Below
import Derived.Deep.DeepHandedRow
import Derived.Lib.LaidTab
import Derived.Test.YtbejodcgigdjaaaDoorBV
namespace Go.Proofs.YtbejodcgigdjaaaDoor.shaStates
open Go.ChangeShapes Go.WideShapes Go.ChangeAt Go.RowKit
set_option linter.unusedVariables false

theorem own : ownKnob Tryd.prog.godebug = none := by kernel_rfl
theorem laidOut : laidOutB Tryd.prog = true := by kernel_rfl
theorem gTab : Tryd.prog.globalNamed "casket/sha.constants" = some 0 := by kernel_rfl
theorem gTabType : (Tryd.prog.globals[0]?).map (·.type) = some 42 := by kernel_rfl
theorem cellsG : Tryd.prog.cellsOf 42 = 64 := by kernel_rfl
theorem cellsE : Tryd.prog.cellsOf 27 = 1 := by kernel_rfl
def tabL : List Int := [1116352408, 1899447441, 3049323471, 3921009573, 961987163, 1508970993, 2453635748, 2870763221, 3624381080, 310598401, 607225278, 1426881987, 1925078388, 2162078206, 2614888103, 3248222580, 3835390401, 4022224774, 264347078, 604807628, 770255983, 1249150122, 1555081692, 1996064986, 2554220882, 2821834349, 2952996808, 3210313671, 3336571891, 3584528711, 113926993, 338241895, 666307205, 773529912, 1294757372, 1396182291, 1695183700, 1986661051, 2177026350, 2456956037, 2730485921, 2820302411, 3259730800, 3345764771, 3516065817, 3600352804, 4094571909, 275423344, 430227734, 506948616, 659060556, 883997877, 958139571, 1322822218, 1537002063, 1747873779, 1955562222, 2024104815, 2227730452, 2361852424, 2428436474, 2756734187, 3204031479, 3329325298]
theorem table {W : World} (h : laidMetH Tryd.prog Rows.shaStatesRow.laid W) : Lib.TabIs Tryd.prog W "casket/sha.constants" .u32 tabL :=
  Lib.tabIs_of_head (rest := []) gTab gTabType Tryd.underlying42 Tryd.underlying27 cellsE cellsG h
theorem tab_kT : ∀ j, j < 64 → tabL.getD j 0 = ((kT j).toNat : Int) := by decide +kernel
theorem tabC {W : World} (h : laidMetH Tryd.prog Rows.shaStatesRow.laid W) (h0 : 0 < W.heap.size) : TabC W :=
  ⟨fun j hj => by
    rw [← tab_kT j hj]
    exact (table h).cell gTab j hj, h0⟩

open Go.BigFrame
theorem grown_ext {w X Y : World} {row : Option Nat} (h : Ext w X) (hg : X.grownBy Y row) (hr : ∀ k, row = some k → w.heap.size ≤ k) : Ext w Y := Below.trans h (below_grown (Below.size h) hg hr)
/-- the bytes so far, all that was there -/
def SLB (w : World) (F : Nat → BitVec 8) (v : Value) (n : Nat) (X : World) : Prop := OwnB w.heap.size 5 v n (yv F) X ∧ Ext w X
theorem SLB.grow {w X Y : World} {F : Nat → BitVec 8} {v v' : Value} {n n' : Nat} (h : SLB w F v n X) (hg : X.grownBy Y v.ownBlock) (ho : OwnB w.heap.size 5 v' n' (yv F) Y) : SLB w F v' n' Y :=
  ⟨ho, grown_ext h.2 hg fun k hk => (h.1.lt k hk).1⟩
theorem SLB.alloc {w X : World} {F : Nat → BitVec 8} {v : Value} {n : Nat} (h : SLB w F v n X) (o : Obj) : SLB w F v n (X.alloc o) := ⟨h.1.alloc o, Below.alloc h.2 (Below.size h.2) o⟩
theorem SLB.ext {w X Y : World} {F : Nat → BitVec 8} {v : Value} {n : Nat} (h : SLB w F v n X) (k : Ext X Y) : SLB w F v n Y := ⟨h.1.ext k, Ext.trans h.2 k⟩
/-- the filled message, the state -/
def L4 (g d T : Nat) (w : World) (F : Nat → BitVec 8) (s : Nat → BitVec 32) (X : World) : Prop := RowAt g T (yv F) X ∧ RowAt d 8 (wv s) X ∧ Ext w X ∧ w.heap.size ≤ g ∧ g < d
theorem L4.ext {g d T : Nat} {w X Y : World} {F : Nat → BitVec 8} {s : Nat → BitVec 32} (h : L4 g d T w F s X) (k : Ext X Y) : L4 g d T w F s Y := ⟨h.1.carry k, h.2.1.carry k, Ext.trans h.2.2.1 k, h.2.2.2⟩
theorem L4.but {g d T c : Nat} {w X Y : World} {F : Nat → BitVec 8} {s : Nat → BitVec 32} (h : L4 g d T w F s X) (k : But c X Y) (hc : d < c) : L4 g d T w F s Y := by
  obtain ⟨h1, h2, h3, h4, h5⟩ := h
  exact ⟨h1.but k (by omega), h2.but k (by omega), Ext.but h3 k (by omega), h4, h5⟩
theorem L4.setS {g d T : Nat} {w X : World} {F : Nat → BitVec 8} {s : Nat → BitVec 32} (h : L4 g d T w F s X) (s' : Nat → BitVec 32) : L4 g d T w F s' (X.setCells d 0 (row 8 (wv s'))) := by
  obtain ⟨h1, h2, h3, h4, h5⟩ := h
  exact ⟨h1.cellsOther (by omega) _ _, h2.cells, below_setCells _ (by omega) _ _ _ h3, h4, h5⟩
theorem len_fact (l q : Nat) (hq : q < 8) : (l : Int) * 8 / 2 ^ (8 * (7 - q)) % 256 = ((lenB l q).toNat : Int) := by
  rw [← lenB_fact l q, show 8 * (7 - q) = 56 - 8 * q by omega]
set_option maxRecDepth 20000 in
set_option maxHeartbeats 4000000 in
theorem walk_some (l cap : Nat) (b : Nat → BitVec 8) (a : Addr) (w : World) (hb : LieAt a l (yv b) w) (hlc : l ≤ cap) (hl : l ≤ 1048576) (hC : TabC w) :
    Calls Tryd.prog 8 #[.slice (some a) l cap] w fun e w' => e = .returned (.bool true) ∧ Below w.heap.size w w' := by
  replace hC := hideit hC
  replace hb := hideit hb
  obtain ⟨R, hR⟩ : ∃ R, R = shaF b l := ⟨_, rfl⟩
  obtain ⟨F, hF⟩ : ∃ F, F = fillF b l := ⟨_, rfl⟩
  have hsum : Hid (∀ X, Ext w X → Calls Tryd.prog 10 #[.slice (some a) l cap] X fun e w' => e = .returned (.agg (row 32 (yv R)).toArray) ∧ Below X.heap.size X w') := fun X hX => by
    rw [hR]; exact sumV _ l b X (.inr ⟨a, cap, rfl, hlc, hb.out.carry hX⟩) (hC.out.ext hX) (by omega)
  replace hR := hideit hR
  replace hF := hideit hF
  have HO1 : SLB w F (.slice (some ⟨w.heap.size, 0, none⟩) 0 0) 0 (w.alloc (.cells #[] 5)) := ⟨own_empty w w.heap.size 5 (yv F) (Nat.le_refl _), (Below.refl _ _).alloc (Nat.le_refl _) _⟩
  replace HO1 := hideit HO1
  have hl0 : ¬ ((1048576 : Int) < (l : Int)) := by omega
  have hl1 : ¬ (1048576 < l) := by omega
  have hl2 : (l : Int) ≤ 1048576 := by omega
  go_enter Tryd.func8, Tryd.ntmps8
  go_upto_region 3 with (fail)
  refine wp_region_lit ?_
  refine wpList_to rfl (.slice (some ⟨w.heap.size, 0, none⟩) 0 0) (w.alloc (.cells #[] 5)) (by simp [go_sem]) ?_
  simp only [Act.put, List.setIfInBounds_toArray, List.set_cons_zero, List.set_cons_succ]
  refine wpList_run rfl (.slice (some a) l cap) (by simp [go_sem]) ?_
  simp only [Act.put, List.setIfInBounds_toArray, List.set_cons_zero, List.set_cons_succ]
  refine wpList_grow (n := 0) (base := w.heap.size) elem22 rfl (.tmp 15) (.tmp 16) rfl rfl HO1.out.1 a l cap (yv b) (yv F) rfl (hb.out.carry HO1.out.2) (fun _ _ => rfl) (fun j hj => by omega) (fun j hj => by simp only [yv]; rw [hF.out]; unfold fillF; rw [Nat.zero_add, if_pos hj]) (by omega) (by simp) ?_
  intro v1 w1 hO1 hg1
  have HO2 : SLB w F v1 l w1 := HO1.out.grow hg1 (by rw [Nat.zero_add] at hO1; exact hO1)
  simp only [Act.put, List.setIfInBounds_toArray, List.set_cons_zero, List.set_cons_succ]
  replace HO2 := hideit HO2
  clear HO1
  refine wpList_to rfl (.slice (some ⟨w1.heap.size, 0, none⟩) 1 1) (w1.alloc (.cells #[.int .u8 128] 5)) (by simp [go_sem]) ?_
  simp only [Act.put, List.setIfInBounds_toArray, List.set_cons_zero, List.set_cons_succ]
  have hT : 64 * pieces l = 64 * ((l + 8) / 64) + 64 := by unfold pieces; omega
  obtain ⟨T, hTT⟩ : ∃ T, T = 64 * pieces l := ⟨_, rfl⟩
  rw [← hTT] at hT
  replace hT := hideit hT
  replace hTT := hideit hTT
  refine wpList_grow (n := l) (base := w.heap.size) elem22 rfl (.tmp 17) (.tmp 18) rfl rfl (HO2.out.alloc _).1 ⟨w1.heap.size, 0, none⟩ 1 1 (yv fun _ => 128#8) (yv F) rfl (lie1 w1 128 128#8 rfl) (fun _ _ => rfl) (fun j hj => rfl) (fun j hj => by
    obtain rfl : j = 0 := by omega
    simp only [yv]; rw [hF.out]; unfold fillF; rw [Nat.add_zero, if_neg (by omega), if_pos rfl]) (by omega) (by have := Below.size HO2.out.2; simp; omega) ?_
  intro v2 w2 hO2 hg2
  have HO3 := hideit ((HO2.out.alloc _).grow hg2 hO2)
  clear hO2 hg2 HO2
  simp only [Act.put, List.setIfInBounds_toArray, List.set_cons_zero, List.set_cons_succ]
  go_wp2
  go_loopw [3] (fun v wr => ∃ n : Nat, l + 1 ≤ n ∧ n + 8 ≤ T ∧ SLB w F v n wr) (fun v _ => T - restOf v)
  case atStart => exact ⟨l + 1, by omega, by have := hT.out; omega, HO3.out⟩
  case round =>
    clear HO3
    obtain ⟨n, hn1, hn2, hS⟩ := hrel
    obtain ⟨g, cp, rfl, hgb, hcp, hmx, hRow⟩ := hS.1.lies (by omega)
    have HS := hideit hS
    have HT := hideit hT.out
    clear hS hRow
    have n0 : (0 : Int) ≤ (n : Int) := by omega
    by_cases hq : n % 64 = 56
    · have hq1 : (((n : Int) % 64) != 56) = false := by rw [bne_eq_false_iff_eq]; omega
      have HS1 : SLB w F (.slice (some ⟨g, 0, none⟩) n cp) (T - 8 + 0) wr := by
        have h1 := HT.out
        have h2 : n = T - 8 + 0 := by omega
        rw [← h2]
        exact HS.out
      replace HS1 := hideit HS1
      clear HS
      go_wp2
      go_loopw [3, 4] (fun v i wr => ∃ q : Nat, q ≤ 8 ∧ i = .int .i64 (7 - (q : Int)) ∧ SLB w F v (T - 8 + q) wr) (fun _ i _ => (intOf i + 1).toNat)
      case atStart => exact ⟨0, by omega, rfl, HS1.out⟩
      case round =>
        clear HS1
        obtain ⟨q, hq8, rfl, hS⟩ := hrel
        obtain ⟨g', cp', rfl, hgb', hcp', hmx', hRow⟩ := hS.1.lies (by have := HT.out; omega)
        have HS := hideit hS
        have HRow := hideit hRow
        clear hS hRow
        by_cases hlt : q < 8
        · have q0 : (0 : Int) ≤ (q : Int) := by omega
          have q1 : (q : Int) < 8 := by omega
          have q2 : (0 : Int) ≤ 7 - (q : Int) := by omega
          have flen := len_fact l q hlt
          go_wp2_with (at_builtin; refine wpList_grow (n := T - 8 + q) (base := w.heap.size) elem22 rfl (.tmp 31) (.tmp 40) rfl rfl (HS.out.alloc _).1 ⟨wr.heap.size, 0, none⟩ 1 1 (yv fun _ => lenB l q) (yv F) rfl (lie1 wr _ (lenB l q) (by rfl)) (fun _ _ => rfl) (fun j hj => rfl) (fun j hj => by
            obtain rfl : j = 0 := by omega
            have h1 := HT.out
            simp only [yv]; rw [hF.out]; unfold fillF; rw [← hTT.out, Nat.add_zero, if_neg (by omega), if_neg (by omega), if_neg (by omega), show T - 8 + q - (T - 8) = q by omega]) (by have := HT.out; omega) (by have := Below.size HS.out.2; simp; omega) ?_; intro v3 w3 hO3 hg3; have HS3 := hideit ((HS.out.alloc _).grow hg3 hO3); clear hO3 hg3 HS)
          go_roundw
          case rel =>
            have hi : Value.int .i64 (7 - (q : Int) - 1) = .int .i64 (7 - ((q + 1 : Nat) : Int)) := by congr 1; omega
            first | exact ⟨(q + 1 : Nat), by omega, hi, HS3.out⟩ | ((repeat apply Exists.intro); exact ⟨⟨q + 1, by omega, hi, HS3.out⟩, rfl⟩)
          case measure => simp [intOf]; omega
        · obtain rfl : q = 8 := by omega
          have hTe : T - 8 + 8 = T := by have := HT.out; omega
          rw [hTe] at HS HRow
          obtain ⟨F0, hF0⟩ : ∃ F0, F0 = fT := ⟨_, rfl⟩
          have hrf := first_any
          rw [← hF0] at hrf
          replace hrf := hideit hrf
          replace hF0 := hideit hF0
          have hz8 := zero28
          go_upto_region 11 with (first | (go_at_call 14; refine (hrf.out _).mono ?_; rintro e w4 ⟨rfl, hw4⟩; obtain ⟨d, hd⟩ : ∃ d, d = w4.heap.size := ⟨_, rfl⟩; have HN : RowAt d 8 (wv fun _ => 0#32) (w4.alloc (.cells (row 8 (wv fun _ => 0#32)).toArray 28)) := (by rw [hd]; exact RowAt.new w4 8 (wv fun _ => 0#32) 28); replace HN := hideit HN; have HS4 := hideit (HS.out.ext hw4); have HRow4 := hideit (HRow.out.carry hw4); have hgd : g' < d := (by rw [hd]; exact Nat.lt_of_lt_of_le HRow.out.2.2 (Below.size hw4)); clear hw4 HS HRow) | (rw [← hd]; refine wpList_store_mid rfl 28 (.tmp 5) (.tmp 42) rfl _ 0 (row 8 (wv F0)).toArray rfl rfl (by rw [row_size]; exact HN.out.there) (by rw [row_size]; exact info28) (row_one fun _ _ => rfl) ?_))
          have HX : L4 g' d T w F (chain F 0) ((w4.alloc (.cells (row 8 (wv fun _ => 0#32)).toArray 28)).setCells d 0 (row 8 (wv F0))) := by
            have hE := HS4.out.2
            have hsz := Below.size hE
            refine ⟨(HRow4.out.alloc _).cellsOther (by omega) _ _, ?_, below_setCells _ (by omega) _ _ _ (Below.alloc hE hsz _), by omega, hgd⟩
            show RowAt d 8 (wv fT) _
            rw [← hF0.out]
            exact HN.out.cells
          replace HX := hideit HX
          clear HS4 HRow4 HN hd hz8 hrf hF0
          generalize (w4.alloc (.cells (row 8 (wv fun _ => 0#32)).toArray 28)).setCells d 0 (row 8 (wv F0)) = X at *
          simp only [Act.put]
          have hz9 := zero29
          obtain ⟨N, hN⟩ : ∃ N, N = pieces l := ⟨_, rfl⟩
          have hTN : T = 64 * N := by rw [hTT.out, hN]
          have hTb : T ≤ 140737488355328 := by have := HT.out; omega
          replace hN := hideit hN
          replace hTN := hideit hTN
          go_wp2
          go_loopw [6] (fun i wr => ∃ k : Nat, k ≤ N ∧ i = .int .i64 ((64 * k : Nat) : Int) ∧ L4 g' d T w F (chain F k) wr) (fun i _ => T - (intOf i).toNat)
          case atStart => exact ⟨0, by omega, rfl, HX.out⟩
          case round =>
            clear HX
            obtain ⟨k, hk, rfl, hS⟩ := hrel
            have HS := hideit hS
            clear hS
            by_cases hlt : k < N
            · have hk1 : ((64 * k : Nat) : Int) < (T : Int) := by have := hTN.out; omega
              have hk2 : 64 * k < T := by have := hTN.out; omega
              generalize hat : 64 * k = at_ at *
              replace hat := hideit hat
              go_upto_region 15 with (fail)
              obtain ⟨pb, hpb⟩ : ∃ pb, pb = wr.heap.size := ⟨_, rfl⟩
              have HP : RowAt pb 64 (yv fun _ => 0#8) (wr.alloc (.cells (row 64 (yv fun _ => 0#8)).toArray 29)) := by rw [hpb]; exact RowAt.new wr 64 _ 29
              have HSa := hideit (HS.out.ext ((Below.refl _ _).alloc (Nat.le_refl _) (.cells (row 64 (yv fun _ => 0#8)).toArray 29)))
              have hdp : d < pb := by rw [hpb]; exact HS.out.2.1.2.2
              rw [← hpb]
              replace HP := hideit HP
              clear hpb HS
              generalize wr.alloc (.cells (row 64 (yv fun _ => 0#8)).toArray 29) = Y at *
              go_wp2
              go_loopw [8] (fun i wr => ∃ j : Nat, j ≤ 64 ∧ i = .int .i64 (j : Int) ∧ L4 g' d T w F (chain F k) wr ∧ RowAt pb 64 (yv fun x => if x < j then F (64 * k + x) else 0#8) wr) (fun i _ => 64 - (intOf i).toNat)
              case atStart => exact ⟨0, by omega, rfl, HSa.out, HP.out.congr fun x _ => by simp only [yv]; rw [if_neg (by omega)]⟩
              case round =>
                clear HSa HP
                obtain ⟨j, hj, rfl, hS, hP⟩ := hrel
                have HS := hideit hS
                have HP := hideit hP
                by_cases hlt2 : j < 64
                · have hat' := hat.out
                  have hTN' := hTN.out
                  have e1 := hS.1.1 (at_ + j) (by omega)
                  have e2 := hP.1 j hlt2
                  have g2 := hP.2.1 j hlt2
                  simp only [yv] at e1
                  have a2 : at_ + j < T := by omega
                  clear hS hP hat' hTN'
                  have j0 : (0 : Int) ≤ (j : Int) := by omega
                  have j1 : (j : Int) < 64 := by omega
                  have a0 : (0 : Int) ≤ (at_ : Int) := by omega
                  have a1 : (at_ : Int) + (j : Int) < (T : Int) := by omega
                  have a3 : (T : Int) ≤ 140737488355328 := by omega
                  go_wp2
                  have HI : L4 g' d T w F (chain F k) (wr.setCell ⟨pb, j, none⟩ (.int .u8 ((F (at_ + j)).toNat : Int))) := HS.out.but (but_setCell _ _ _ _) hdp
                  have HJ : RowAt pb 64 (yv fun x => if x < j + 1 then F (64 * k + x) else 0#8) (wr.setCell ⟨pb, j, none⟩ (.int .u8 ((F (at_ + j)).toNat : Int))) := (HP.out.set j _).congr fun x _ => by
                    simp only [yv]
                    by_cases e : x = j
                    · subst e; rw [if_pos rfl, if_pos (by omega), hat.out]
                    · rw [if_neg e]
                      by_cases h : x < j
                      · rw [if_pos h, if_pos (by omega)]
                      · rw [if_neg h, if_neg (by omega)]
                  exact ⟨⟨j + 1, by omega, by go_num, HI, HJ⟩, by simp [intOf]; omega⟩
                · obtain rfl : j = 64 := by omega
                  obtain ⟨pp, hpp⟩ : ∃ pp, pp = fun x => F (64 * k + x) := ⟨_, rfl⟩
                  have HP2 := hideit (hP.congr (g' := yv pp) fun x hx => by simp only [yv]; rw [if_pos hx, hpp])
                  have hrb := block_any (chain F k) pp wr (hC.out.ext hS.2.2.1)
                  have hs2 : blockF (chain F k) pp = chain F (k + 1) := by rw [hpp]; rfl
                  rw [hs2] at hrb
                  clear hS hP HP hs2
                  replace hrb := hideit hrb
                  generalize hs1 : chain F (k + 1) = s1 at *
                  generalize hs0 : chain F k = s0 at *
                  replace hs1 := hideit hs1
                  clear hs0 hpp
                  go_upto_region 19 with (fail)
                  refine wp_region_lit ?_
                  refine wpList_load_mid rfl 28 (.tmp 5) rfl d 0 rfl (row 8 (wv s0)) _ HS.out.2.1.range Tryd.underlying28 rfl (by rw [row_length]; exact info28) ?_
                  refine wpList_load_mid rfl 29 (.tmp 7) rfl pb 0 rfl (row 64 (yv pp)) _ HP2.out.range Tryd.underlying29 rfl (by rw [row_length]; exact info29) ?_
                  simp only [Act.put, List.setIfInBounds_toArray, List.set_cons_zero, List.set_cons_succ]
                  refine wpList_call rfl (by simp [go_sem]) (hrb.out.mono ?_)
                  rintro e V ⟨rfl, hV⟩
                  refine ⟨_, rfl, ?_⟩
                  simp only [Act.put, List.setIfInBounds_toArray, List.set_cons_zero, List.set_cons_succ]
                  have HV := hideit (HS.out.ext hV)
                  clear hrb hV HS HP2
                  refine wpList_store_mid rfl 28 (.tmp 5) (.tmp 63) rfl d 0 (row 8 (wv s1)).toArray rfl rfl (by rw [row_size]; exact HV.out.2.1.there) (by rw [row_size]; exact info28) (row_one fun _ _ => rfl) ?_
                  have HV1 := hideit (HV.out.setS s1)
                  clear HV
                  generalize V.setCells d 0 (row 8 (wv s1)) = V1 at *
                  simp only [Act.put]
                  have a0 : (0 : Int) ≤ (at_ : Int) := by omega
                  have a3 : (at_ : Int) ≤ 140737488355328 := by omega
                  go_wp2
                  go_roundw
                  case rel =>
                    have HQ : L4 g' d T w F (chain F (k + 1)) V1 := by rw [hs1.out]; exact HV1.out
                    have hi : Value.int .i64 ((at_ : Int) + 64) = .int .i64 ((64 * (k + 1) : Nat) : Int) := by have := hat.out; congr 1; omega
                    first | exact ⟨(k + 1 : Nat), by omega, hi, HQ⟩ | ((repeat apply Exists.intro); exact ⟨⟨k + 1, by omega, hi, HQ⟩, rfl⟩)
                  case measure =>
                    have h1 := hat.out
                    simp [intOf]
                    omega
            · obtain rfl : k = N := by omega
              have hk1 : ¬ (((64 * k : Nat) : Int) < (T : Int)) := by have := hTN.out; omega
              have hk2 : ¬ (64 * k < T) := by have := hTN.out; omega
              generalize hat : 64 * k = at_ at *
              clear hat
              have hfin : digF (chain F k) = R := by
                rw [hR.out, hN.out, hF.out]
                rfl
              replace hfin := hideit hfin
              clear hz9
              generalize chain F k = s1 at *
              have hz := zero24
              go_upto_region 21 with (first | (go_at_call 10; refine (hsum.out _ HS.out.2.2.1).mono ?_; rintro e w5 ⟨rfl, hw5⟩; obtain ⟨ob, hob⟩ : ∃ ob, ob = w5.heap.size := ⟨_, rfl⟩; have HN : RowAt ob 32 (yv fun _ => 0#8) (w5.alloc (.cells (row 32 (yv fun _ => 0#8)).toArray 24)) := (by rw [hob]; exact RowAt.new w5 32 _ 24); replace HN := hideit HN; have HS5 := hideit (HS.out.ext hw5); have hdo : d < ob := (by rw [hob]; exact HS5.out.2.1.2.2); clear hw5 HS) | (rw [← hob]; refine wpList_store_mid rfl 24 (.tmp 9) (.tmp 65) rfl _ 0 (row 32 (yv R)).toArray rfl rfl (by rw [row_size]; exact HN.out.there) (by rw [row_size]; exact info24) (row_one fun _ _ => rfl) ?_))
              have HX2 : L4 g' d T w F s1 ((w5.alloc (.cells (row 32 (yv fun _ => 0#8)).toArray 24)).setCells ob 0 (row 32 (yv R))) ∧ RowAt ob 32 (yv R) ((w5.alloc (.cells (row 32 (yv fun _ => 0#8)).toArray 24)).setCells ob 0 (row 32 (yv R))) :=
                ⟨(HS5.out.ext ((Below.refl _ _).alloc (Nat.le_refl _) _)).but (But.sets _ _ _ (But.refl _ _)) hdo, HN.out.cells⟩
              replace HX2 := hideit HX2
              clear HS5 HN hob hz
              generalize (w5.alloc (.cells (row 32 (yv fun _ => 0#8)).toArray 24)).setCells ob 0 (row 32 (yv R)) = Y at *
              simp only [Act.put]
              go_wp2
              go_loopw [10] (fun i wr => ∃ j : Nat, j ≤ 32 ∧ i = .int .i64 (j : Int) ∧ L4 g' d T w F s1 wr ∧ RowAt ob 32 (yv R) wr) (fun i _ => 32 - (intOf i).toNat)
              case atStart => exact ⟨0, by omega, rfl, HX2.out⟩
              case round =>
                clear HX2
                obtain ⟨j, hj, rfl, hS, hP⟩ := hrel
                have HS := hideit hS
                have HP := hideit hP
                by_cases hlt2 : j < 32
                · have e1 := hS.2.1.1 (j / 4) (by omega)
                  have e2 := hP.1 j hlt2
                  clear hS hP
                  simp only [wv] at e1
                  simp only [yv] at e2
                  have j0 : (0 : Int) ≤ (j : Int) := by omega
                  have j1 : (j : Int) < 32 := by omega
                  have b1 := (s1 (j / 4)).isLt
                  have hne1 : (((R j).toNat : Int) != ((s1 (j / 4)).toNat : Int) / 2 ^ (24 - 8 * (j % 4)) % 256) = false := by
                    rw [dig_fact, ← hfin.out]
                    unfold digF
                    simp
                  go_wp2
                  go_quiet (fail)
                  go_wp2
                  go_roundw
                  case rel =>
                    have HS6 := HS.out.ext (ext_drewN _ nq)
                    have HP6 := HP.out.carry (ext_drewN _ nq)
                    first | exact ⟨(j + 1 : Nat), by omega, by go_num, HS6, HP6⟩ | ((repeat apply Exists.intro); exact ⟨⟨j + 1, by omega, by go_num, HS6, HP6⟩, rfl⟩)
                  case measure => simp [intOf]; omega
                · obtain rfl : j = 32 := by omega
                  have hlv := lives_any wr (hC.out.ext hS.2.2.1)
                  replace hlv := hideit hlv
                  clear hS hP
                  go_wp2_with (go_at_call 9; refine hlv.out.mono ?_; rintro e w8 ⟨rfl, hw8⟩; have HE8 := hideit (Ext.trans HS.out.2.2.1 hw8); clear hw8)
                  go_ret
                  exact ⟨rfl, HE8.out⟩
    · have hq1 : (((n : Int) % 64) != 56) = true := by rw [bne_iff_ne]; omega
      go_upto_region 5 with (fail)
      refine wp_region_lit ?_
      refine wpList_run rfl (.slice (some ⟨g, 0, none⟩) n cp) (by simp [go_sem]) ?_
      simp only [Act.put, List.setIfInBounds_toArray, List.set_cons_zero, List.set_cons_succ]
      refine wpList_to rfl (.slice (some ⟨wr.heap.size, 0, none⟩) 1 1) (wr.alloc (.cells #[.int .u8 0] 5)) (by simp [go_sem]) ?_
      simp only [Act.put, List.setIfInBounds_toArray, List.set_cons_zero, List.set_cons_succ]
      refine wpList_grow (n := n) (base := w.heap.size) elem22 rfl (.tmp 24) (.tmp 25) rfl rfl (HS.out.alloc _).1 ⟨wr.heap.size, 0, none⟩ 1 1 (yv fun _ => 0#8) (yv F) rfl (lie1 wr _ (0#8) (by rfl)) (fun _ _ => rfl) (fun j hj => rfl) (fun j hj => by
        obtain rfl : j = 0 := by omega
        simp only [yv]; rw [hF.out]; have h1 := HT.out; have h2 := hTT.out; unfold fillF; rw [Nat.add_zero, if_neg (by omega), if_neg (by omega), if_pos (by omega)]) (by have := HT.out; omega) (by have := Below.size HS.out.2; simp; omega) ?_
      intro v3 w3 hO3 hg3
      have HS3 := hideit ((HS.out.alloc _).grow hg3 hO3)
      clear hO3 hg3 HS
      simp only [Act.put, List.setIfInBounds_toArray, List.set_cons_zero, List.set_cons_succ]
      go_wp2
      go_roundw
      case rel =>
        first | exact ⟨(n + 1 : Nat), by omega, by have := HT.out; omega, HS3.out⟩ | ((repeat apply Exists.intro); exact ⟨⟨n + 1, by omega, by have := HT.out; omega, HS3.out⟩, rfl⟩)
      case measure =>
        obtain ⟨g3, cp3, hv3, _⟩ := HS3.out.1.lies (by omega)
        subst hv3
        have := HT.out
        show T - (n + 1) < T - n
        omega
set_option maxRecDepth 20000 in
set_option maxHeartbeats 4000000 in
theorem walk_none  (w : World)  (hC : TabC w) :
    Calls Tryd.prog 8 #[.slice none 0 0] w fun e w' => e = .returned (.bool true) ∧ Below w.heap.size w w' := by
  replace hC := hideit hC
  skip
  obtain ⟨R, hR⟩ : ∃ R, R = shaF (fun _ => 0#8) 0 := ⟨_, rfl⟩
  obtain ⟨F, hF⟩ : ∃ F, F = fillF (fun _ => 0#8) 0 := ⟨_, rfl⟩
  have hsum : Hid (∀ X, Ext w X → Calls Tryd.prog 10 #[.slice none 0 0] X fun e w' => e = .returned (.agg (row 32 (yv R)).toArray) ∧ Below X.heap.size X w') := fun X hX => by
    rw [hR]; exact sumV _ 0 (fun _ => 0#8) X (.inl ⟨rfl, rfl⟩) (hC.out.ext hX) (by omega)
  replace hR := hideit hR
  replace hF := hideit hF
  have HO1 : SLB w F (.slice (some ⟨w.heap.size, 0, none⟩) 0 0) 0 (w.alloc (.cells #[] 5)) := ⟨own_empty w w.heap.size 5 (yv F) (Nat.le_refl _), (Below.refl _ _).alloc (Nat.le_refl _) _⟩
  replace HO1 := hideit HO1
  skip
  skip
  skip
  go_enter Tryd.func8, Tryd.ntmps8
  go_upto_region 3 with (fail)
  refine wp_region_lit ?_
  refine wpList_to rfl (.slice (some ⟨w.heap.size, 0, none⟩) 0 0) (w.alloc (.cells #[] 5)) (by simp [go_sem]) ?_
  simp only [Act.put, List.setIfInBounds_toArray, List.set_cons_zero, List.set_cons_succ]
  refine wpList_run rfl (.slice none 0 0) (by simp [go_sem]) ?_
  simp only [Act.put, List.setIfInBounds_toArray, List.set_cons_zero, List.set_cons_succ]
  refine wpList_grow_none (v := .slice (some ⟨w.heap.size, 0, none⟩) 0 0) (n := 0) (base := w.heap.size) elem22 rfl (.tmp 15) (.tmp 16) rfl rfl HO1.out.1 rfl ?_
  have HO2 : SLB w F (.slice (some ⟨w.heap.size, 0, none⟩) 0 0) 0 (w.alloc (.cells #[] 5)) := HO1.out
  generalize (Value.slice (some ⟨w.heap.size, 0, none⟩) 0 0) = v1 at *
  generalize w.alloc (.cells #[] 5) = w1 at *
  simp only [Act.put, List.setIfInBounds_toArray, List.set_cons_zero, List.set_cons_succ]
  replace HO2 := hideit HO2
  clear HO1
  refine wpList_to rfl (.slice (some ⟨w1.heap.size, 0, none⟩) 1 1) (w1.alloc (.cells #[.int .u8 128] 5)) (by simp [go_sem]) ?_
  simp only [Act.put, List.setIfInBounds_toArray, List.set_cons_zero, List.set_cons_succ]
  have hT : 64 * pieces 0 = 64 * ((0 + 8) / 64) + 64 := by unfold pieces; omega
  obtain ⟨T, hTT⟩ : ∃ T, T = 64 * pieces 0 := ⟨_, rfl⟩
  rw [← hTT] at hT
  replace hT := hideit hT
  replace hTT := hideit hTT
  refine wpList_grow (n := 0) (base := w.heap.size) elem22 rfl (.tmp 17) (.tmp 18) rfl rfl (HO2.out.alloc _).1 ⟨w1.heap.size, 0, none⟩ 1 1 (yv fun _ => 128#8) (yv F) rfl (lie1 w1 128 128#8 rfl) (fun _ _ => rfl) (fun j hj => rfl) (fun j hj => by
    obtain rfl : j = 0 := by omega
    simp only [yv]; rw [hF.out]; unfold fillF; rw [Nat.add_zero, if_neg (by omega), if_pos rfl]) (by omega) (by have := Below.size HO2.out.2; simp; omega) ?_
  intro v2 w2 hO2 hg2
  have HO3 := hideit ((HO2.out.alloc _).grow hg2 hO2)
  clear hO2 hg2 HO2
  simp only [Act.put, List.setIfInBounds_toArray, List.set_cons_zero, List.set_cons_succ]
  go_wp2
  go_loopw [3] (fun v wr => ∃ n : Nat, 0 + 1 ≤ n ∧ n + 8 ≤ T ∧ SLB w F v n wr) (fun v _ => T - restOf v)
  case atStart => exact ⟨0 + 1, by omega, by have := hT.out; omega, HO3.out⟩
  case round =>
    clear HO3
    obtain ⟨n, hn1, hn2, hS⟩ := hrel
    obtain ⟨g, cp, rfl, hgb, hcp, hmx, hRow⟩ := hS.1.lies (by omega)
    have HS := hideit hS
    have HT := hideit hT.out
    clear hS hRow
    have n0 : (0 : Int) ≤ (n : Int) := by omega
    by_cases hq : n % 64 = 56
    · have hq1 : (((n : Int) % 64) != 56) = false := by rw [bne_eq_false_iff_eq]; omega
      have HS1 : SLB w F (.slice (some ⟨g, 0, none⟩) n cp) (T - 8 + 0) wr := by
        have h1 := HT.out
        have h2 : n = T - 8 + 0 := by omega
        rw [← h2]
        exact HS.out
      replace HS1 := hideit HS1
      clear HS
      go_wp2
      go_loopw [3, 4] (fun v i wr => ∃ q : Nat, q ≤ 8 ∧ i = .int .i64 (7 - (q : Int)) ∧ SLB w F v (T - 8 + q) wr) (fun _ i _ => (intOf i + 1).toNat)
      case atStart => exact ⟨0, by omega, rfl, HS1.out⟩
      case round =>
        clear HS1
        obtain ⟨q, hq8, rfl, hS⟩ := hrel
        obtain ⟨g', cp', rfl, hgb', hcp', hmx', hRow⟩ := hS.1.lies (by have := HT.out; omega)
        have HS := hideit hS
        have HRow := hideit hRow
        clear hS hRow
        by_cases hlt : q < 8
        · have q0 : (0 : Int) ≤ (q : Int) := by omega
          have q1 : (q : Int) < 8 := by omega
          have q2 : (0 : Int) ≤ 7 - (q : Int) := by omega
          skip
          go_wp2_with (at_builtin; refine wpList_grow (n := T - 8 + q) (base := w.heap.size) elem22 rfl (.tmp 31) (.tmp 40) rfl rfl (HS.out.alloc _).1 ⟨wr.heap.size, 0, none⟩ 1 1 (yv fun _ => lenB 0 q) (yv F) rfl (lie1 wr _ (lenB 0 q) (by unfold lenB; simp)) (fun _ _ => rfl) (fun j hj => rfl) (fun j hj => by
            obtain rfl : j = 0 := by omega
            have h1 := HT.out
            simp only [yv]; rw [hF.out]; unfold fillF; rw [← hTT.out, Nat.add_zero, if_neg (by omega), if_neg (by omega), if_neg (by omega), show T - 8 + q - (T - 8) = q by omega]) (by have := HT.out; omega) (by have := Below.size HS.out.2; simp; omega) ?_; intro v3 w3 hO3 hg3; have HS3 := hideit ((HS.out.alloc _).grow hg3 hO3); clear hO3 hg3 HS)
          go_roundw
          case rel =>
            have hi : Value.int .i64 (7 - (q : Int) - 1) = .int .i64 (7 - ((q + 1 : Nat) : Int)) := by congr 1; omega
            first | exact ⟨(q + 1 : Nat), by omega, hi, HS3.out⟩ | ((repeat apply Exists.intro); exact ⟨⟨q + 1, by omega, hi, HS3.out⟩, rfl⟩)
          case measure => simp [intOf]; omega
        · obtain rfl : q = 8 := by omega
          have hTe : T - 8 + 8 = T := by have := HT.out; omega
          rw [hTe] at HS HRow
          obtain ⟨F0, hF0⟩ : ∃ F0, F0 = fT := ⟨_, rfl⟩
          have hrf := first_any
          rw [← hF0] at hrf
          replace hrf := hideit hrf
          replace hF0 := hideit hF0
          have hz8 := zero28
          go_upto_region 11 with (first | (go_at_call 14; refine (hrf.out _).mono ?_; rintro e w4 ⟨rfl, hw4⟩; obtain ⟨d, hd⟩ : ∃ d, d = w4.heap.size := ⟨_, rfl⟩; have HN : RowAt d 8 (wv fun _ => 0#32) (w4.alloc (.cells (row 8 (wv fun _ => 0#32)).toArray 28)) := (by rw [hd]; exact RowAt.new w4 8 (wv fun _ => 0#32) 28); replace HN := hideit HN; have HS4 := hideit (HS.out.ext hw4); have HRow4 := hideit (HRow.out.carry hw4); have hgd : g' < d := (by rw [hd]; exact Nat.lt_of_lt_of_le HRow.out.2.2 (Below.size hw4)); clear hw4 HS HRow) | (rw [← hd]; refine wpList_store_mid rfl 28 (.tmp 5) (.tmp 42) rfl _ 0 (row 8 (wv F0)).toArray rfl rfl (by rw [row_size]; exact HN.out.there) (by rw [row_size]; exact info28) (row_one fun _ _ => rfl) ?_))
          have HX : L4 g' d T w F (chain F 0) ((w4.alloc (.cells (row 8 (wv fun _ => 0#32)).toArray 28)).setCells d 0 (row 8 (wv F0))) := by
            have hE := HS4.out.2
            have hsz := Below.size hE
            refine ⟨(HRow4.out.alloc _).cellsOther (by omega) _ _, ?_, below_setCells _ (by omega) _ _ _ (Below.alloc hE hsz _), by omega, hgd⟩
            show RowAt d 8 (wv fT) _
            rw [← hF0.out]
            exact HN.out.cells
          replace HX := hideit HX
          clear HS4 HRow4 HN hd hz8 hrf hF0
          generalize (w4.alloc (.cells (row 8 (wv fun _ => 0#32)).toArray 28)).setCells d 0 (row 8 (wv F0)) = X at *
          simp only [Act.put]
          have hz9 := zero29
          obtain ⟨N, hN⟩ : ∃ N, N = pieces 0 := ⟨_, rfl⟩
          have hTN : T = 64 * N := by rw [hTT.out, hN]
          have hTb : T ≤ 140737488355328 := by have := HT.out; omega
          replace hN := hideit hN
          replace hTN := hideit hTN
          go_wp2
          go_loopw [6] (fun i wr => ∃ k : Nat, k ≤ N ∧ i = .int .i64 ((64 * k : Nat) : Int) ∧ L4 g' d T w F (chain F k) wr) (fun i _ => T - (intOf i).toNat)
          case atStart => exact ⟨0, by omega, rfl, HX.out⟩
          case round =>
            clear HX
            obtain ⟨k, hk, rfl, hS⟩ := hrel
            have HS := hideit hS
            clear hS
            by_cases hlt : k < N
            · have hk1 : ((64 * k : Nat) : Int) < (T : Int) := by have := hTN.out; omega
              have hk2 : 64 * k < T := by have := hTN.out; omega
              generalize hat : 64 * k = at_ at *
              replace hat := hideit hat
              go_upto_region 15 with (fail)
              obtain ⟨pb, hpb⟩ : ∃ pb, pb = wr.heap.size := ⟨_, rfl⟩
              have HP : RowAt pb 64 (yv fun _ => 0#8) (wr.alloc (.cells (row 64 (yv fun _ => 0#8)).toArray 29)) := by rw [hpb]; exact RowAt.new wr 64 _ 29
              have HSa := hideit (HS.out.ext ((Below.refl _ _).alloc (Nat.le_refl _) (.cells (row 64 (yv fun _ => 0#8)).toArray 29)))
              have hdp : d < pb := by rw [hpb]; exact HS.out.2.1.2.2
              rw [← hpb]
              replace HP := hideit HP
              clear hpb HS
              generalize wr.alloc (.cells (row 64 (yv fun _ => 0#8)).toArray 29) = Y at *
              go_wp2
              go_loopw [8] (fun i wr => ∃ j : Nat, j ≤ 64 ∧ i = .int .i64 (j : Int) ∧ L4 g' d T w F (chain F k) wr ∧ RowAt pb 64 (yv fun x => if x < j then F (64 * k + x) else 0#8) wr) (fun i _ => 64 - (intOf i).toNat)
              case atStart => exact ⟨0, by omega, rfl, HSa.out, HP.out.congr fun x _ => by simp only [yv]; rw [if_neg (by omega)]⟩
              case round =>
                clear HSa HP
                obtain ⟨j, hj, rfl, hS, hP⟩ := hrel
                have HS := hideit hS
                have HP := hideit hP
                by_cases hlt2 : j < 64
                · have hat' := hat.out
                  have hTN' := hTN.out
                  have e1 := hS.1.1 (at_ + j) (by omega)
                  have e2 := hP.1 j hlt2
                  have g2 := hP.2.1 j hlt2
                  simp only [yv] at e1
                  have a2 : at_ + j < T := by omega
                  clear hS hP hat' hTN'
                  have j0 : (0 : Int) ≤ (j : Int) := by omega
                  have j1 : (j : Int) < 64 := by omega
                  have a0 : (0 : Int) ≤ (at_ : Int) := by omega
                  have a1 : (at_ : Int) + (j : Int) < (T : Int) := by omega
                  have a3 : (T : Int) ≤ 140737488355328 := by omega
                  go_wp2
                  have HI : L4 g' d T w F (chain F k) (wr.setCell ⟨pb, j, none⟩ (.int .u8 ((F (at_ + j)).toNat : Int))) := HS.out.but (but_setCell _ _ _ _) hdp
                  have HJ : RowAt pb 64 (yv fun x => if x < j + 1 then F (64 * k + x) else 0#8) (wr.setCell ⟨pb, j, none⟩ (.int .u8 ((F (at_ + j)).toNat : Int))) := (HP.out.set j _).congr fun x _ => by
                    simp only [yv]
                    by_cases e : x = j
                    · subst e; rw [if_pos rfl, if_pos (by omega), hat.out]
                    · rw [if_neg e]
                      by_cases h : x < j
                      · rw [if_pos h, if_pos (by omega)]
                      · rw [if_neg h, if_neg (by omega)]
                  exact ⟨⟨j + 1, by omega, by go_num, HI, HJ⟩, by simp [intOf]; omega⟩
                · obtain rfl : j = 64 := by omega
                  obtain ⟨pp, hpp⟩ : ∃ pp, pp = fun x => F (64 * k + x) := ⟨_, rfl⟩
                  have HP2 := hideit (hP.congr (g' := yv pp) fun x hx => by simp only [yv]; rw [if_pos hx, hpp])
                  have hrb := block_any (chain F k) pp wr (hC.out.ext hS.2.2.1)
                  have hs2 : blockF (chain F k) pp = chain F (k + 1) := by rw [hpp]; rfl
                  rw [hs2] at hrb
                  clear hS hP HP hs2
                  replace hrb := hideit hrb
                  generalize hs1 : chain F (k + 1) = s1 at *
                  generalize hs0 : chain F k = s0 at *
                  replace hs1 := hideit hs1
                  clear hs0 hpp
                  go_upto_region 19 with (fail)
                  refine wp_region_lit ?_
                  refine wpList_load_mid rfl 28 (.tmp 5) rfl d 0 rfl (row 8 (wv s0)) _ HS.out.2.1.range Tryd.underlying28 rfl (by rw [row_length]; exact info28) ?_
                  refine wpList_load_mid rfl 29 (.tmp 7) rfl pb 0 rfl (row 64 (yv pp)) _ HP2.out.range Tryd.underlying29 rfl (by rw [row_length]; exact info29) ?_
                  simp only [Act.put, List.setIfInBounds_toArray, List.set_cons_zero, List.set_cons_succ]
                  refine wpList_call rfl (by simp [go_sem]) (hrb.out.mono ?_)
                  rintro e V ⟨rfl, hV⟩
                  refine ⟨_, rfl, ?_⟩
                  simp only [Act.put, List.setIfInBounds_toArray, List.set_cons_zero, List.set_cons_succ]
                  have HV := hideit (HS.out.ext hV)
                  clear hrb hV HS HP2
                  refine wpList_store_mid rfl 28 (.tmp 5) (.tmp 63) rfl d 0 (row 8 (wv s1)).toArray rfl rfl (by rw [row_size]; exact HV.out.2.1.there) (by rw [row_size]; exact info28) (row_one fun _ _ => rfl) ?_
                  have HV1 := hideit (HV.out.setS s1)
                  clear HV
                  generalize V.setCells d 0 (row 8 (wv s1)) = V1 at *
                  simp only [Act.put]
                  have a0 : (0 : Int) ≤ (at_ : Int) := by omega
                  have a3 : (at_ : Int) ≤ 140737488355328 := by omega
                  go_wp2
                  go_roundw
                  case rel =>
                    have HQ : L4 g' d T w F (chain F (k + 1)) V1 := by rw [hs1.out]; exact HV1.out
                    have hi : Value.int .i64 ((at_ : Int) + 64) = .int .i64 ((64 * (k + 1) : Nat) : Int) := by have := hat.out; congr 1; omega
                    first | exact ⟨(k + 1 : Nat), by omega, hi, HQ⟩ | ((repeat apply Exists.intro); exact ⟨⟨k + 1, by omega, hi, HQ⟩, rfl⟩)
                  case measure =>
                    have h1 := hat.out
                    simp [intOf]
                    omega
            · obtain rfl : k = N := by omega
              have hk1 : ¬ (((64 * k : Nat) : Int) < (T : Int)) := by have := hTN.out; omega
              have hk2 : ¬ (64 * k < T) := by have := hTN.out; omega
              generalize hat : 64 * k = at_ at *
              clear hat
              have hfin : digF (chain F k) = R := by
                rw [hR.out, hN.out, hF.out]
                rfl
              replace hfin := hideit hfin
              clear hz9
              generalize chain F k = s1 at *
              have hz := zero24
              go_upto_region 21 with (first | (go_at_call 10; refine (hsum.out _ HS.out.2.2.1).mono ?_; rintro e w5 ⟨rfl, hw5⟩; obtain ⟨ob, hob⟩ : ∃ ob, ob = w5.heap.size := ⟨_, rfl⟩; have HN : RowAt ob 32 (yv fun _ => 0#8) (w5.alloc (.cells (row 32 (yv fun _ => 0#8)).toArray 24)) := (by rw [hob]; exact RowAt.new w5 32 _ 24); replace HN := hideit HN; have HS5 := hideit (HS.out.ext hw5); have hdo : d < ob := (by rw [hob]; exact HS5.out.2.1.2.2); clear hw5 HS) | (rw [← hob]; refine wpList_store_mid rfl 24 (.tmp 9) (.tmp 65) rfl _ 0 (row 32 (yv R)).toArray rfl rfl (by rw [row_size]; exact HN.out.there) (by rw [row_size]; exact info24) (row_one fun _ _ => rfl) ?_))
              have HX2 : L4 g' d T w F s1 ((w5.alloc (.cells (row 32 (yv fun _ => 0#8)).toArray 24)).setCells ob 0 (row 32 (yv R))) ∧ RowAt ob 32 (yv R) ((w5.alloc (.cells (row 32 (yv fun _ => 0#8)).toArray 24)).setCells ob 0 (row 32 (yv R))) :=
                ⟨(HS5.out.ext ((Below.refl _ _).alloc (Nat.le_refl _) _)).but (But.sets _ _ _ (But.refl _ _)) hdo, HN.out.cells⟩
              replace HX2 := hideit HX2
              clear HS5 HN hob hz
              generalize (w5.alloc (.cells (row 32 (yv fun _ => 0#8)).toArray 24)).setCells ob 0 (row 32 (yv R)) = Y at *
              simp only [Act.put]
              go_wp2
              go_loopw [10] (fun i wr => ∃ j : Nat, j ≤ 32 ∧ i = .int .i64 (j : Int) ∧ L4 g' d T w F s1 wr ∧ RowAt ob 32 (yv R) wr) (fun i _ => 32 - (intOf i).toNat)
              case atStart => exact ⟨0, by omega, rfl, HX2.out⟩
              case round =>
                clear HX2
                obtain ⟨j, hj, rfl, hS, hP⟩ := hrel
                have HS := hideit hS
                have HP := hideit hP
                by_cases hlt2 : j < 32
                · have e1 := hS.2.1.1 (j / 4) (by omega)
                  have e2 := hP.1 j hlt2
                  clear hS hP
                  simp only [wv] at e1
                  simp only [yv] at e2
                  have j0 : (0 : Int) ≤ (j : Int) := by omega
                  have j1 : (j : Int) < 32 := by omega
                  have b1 := (s1 (j / 4)).isLt
                  have hne1 : (((R j).toNat : Int) != ((s1 (j / 4)).toNat : Int) / 2 ^ (24 - 8 * (j % 4)) % 256) = false := by
                    rw [dig_fact, ← hfin.out]
                    unfold digF
                    simp
                  go_wp2
                  go_quiet (fail)
                  go_wp2
                  go_roundw
                  case rel =>
                    have HS6 := HS.out.ext (ext_drewN _ nq)
                    have HP6 := HP.out.carry (ext_drewN _ nq)
                    first | exact ⟨(j + 1 : Nat), by omega, by go_num, HS6, HP6⟩ | ((repeat apply Exists.intro); exact ⟨⟨j + 1, by omega, by go_num, HS6, HP6⟩, rfl⟩)
                  case measure => simp [intOf]; omega
                · obtain rfl : j = 32 := by omega
                  have hlv := lives_any wr (hC.out.ext hS.2.2.1)
                  replace hlv := hideit hlv
                  clear hS hP
                  go_wp2_with (go_at_call 9; refine hlv.out.mono ?_; rintro e w8 ⟨rfl, hw8⟩; have HE8 := hideit (Ext.trans HS.out.2.2.1 hw8); clear hw8)
                  go_ret
                  exact ⟨rfl, HE8.out⟩
    · have hq1 : (((n : Int) % 64) != 56) = true := by rw [bne_iff_ne]; omega
      go_upto_region 5 with (fail)
      refine wp_region_lit ?_
      refine wpList_run rfl (.slice (some ⟨g, 0, none⟩) n cp) (by simp [go_sem]) ?_
      simp only [Act.put, List.setIfInBounds_toArray, List.set_cons_zero, List.set_cons_succ]
      refine wpList_to rfl (.slice (some ⟨wr.heap.size, 0, none⟩) 1 1) (wr.alloc (.cells #[.int .u8 0] 5)) (by simp [go_sem]) ?_
      simp only [Act.put, List.setIfInBounds_toArray, List.set_cons_zero, List.set_cons_succ]
      refine wpList_grow (n := n) (base := w.heap.size) elem22 rfl (.tmp 24) (.tmp 25) rfl rfl (HS.out.alloc _).1 ⟨wr.heap.size, 0, none⟩ 1 1 (yv fun _ => 0#8) (yv F) rfl (lie1 wr _ (0#8) (by rfl)) (fun _ _ => rfl) (fun j hj => rfl) (fun j hj => by
        obtain rfl : j = 0 := by omega
        simp only [yv]; rw [hF.out]; have h1 := HT.out; have h2 := hTT.out; unfold fillF; rw [Nat.add_zero, if_neg (by omega), if_neg (by omega), if_pos (by omega)]) (by have := HT.out; omega) (by have := Below.size HS.out.2; simp; omega) ?_
      intro v3 w3 hO3 hg3
      have HS3 := hideit ((HS.out.alloc _).grow hg3 hO3)
      clear hO3 hg3 HS
      simp only [Act.put, List.setIfInBounds_toArray, List.set_cons_zero, List.set_cons_succ]
      go_wp2
      go_roundw
      case rel =>
        first | exact ⟨(n + 1 : Nat), by omega, by have := HT.out; omega, HS3.out⟩ | ((repeat apply Exists.intro); exact ⟨⟨n + 1, by omega, by have := HT.out; omega, HS3.out⟩, rfl⟩)
      case measure =>
        obtain ⟨g3, cp3, hv3, _⟩ := HS3.out.1.lies (by omega)
        subst hv3
        have := HT.out
        show T - (n + 1) < T - n
        omega
set_option maxRecDepth 20000 in
set_option maxHeartbeats 400000 in
theorem walk_big (l cap : Nat) (a : Addr) (w : World) (hl : 1048576 < l) (hC : TabC w) :
    Calls Tryd.prog 8 #[.slice (some a) l cap] w fun e w' => e = .returned (.bool true) ∧ Below w.heap.size w w' := by
  have h0 : (1048576 : Int) < (l : Int) := by omega
  have hlv := lives_any w hC
  replace hlv := hideit hlv
  clear hC
  go_enter Tryd.func8, Tryd.ntmps8
  go_wp2_with (go_at_call 9; refine hlv.out.mono ?_; rintro e w8 ⟨rfl, hw8⟩)
  go_ret
  exact ⟨rfl, hw8⟩
theorem walk (v : Value) (w : World) (hA : BArg v w) (hC : TabC w) : Calls Tryd.prog 8 #[v] w fun e w' => e = .returned (.bool true) ∧ Below w.heap.size w w' := by
  rcases hA with rfl | ⟨a, l, cap, b, rfl, hlc, hb, _⟩
  · exact walk_none w hC
  · by_cases h : l ≤ 1048576
    · exact walk_some l cap b a w hb hlc h hC
    · exact walk_big l cap a w (by omega) hC

theorem contract (H : Type) (enc : TypeId × Value → H) (W : World) (base : Nat) (args : Array Value) (ds gs : List (DataW H)) (before : List MemPlace)
    (hval0 : ∀ (j : Nat) t v, Tryd.f8.params[j]? = some t → args[j]? = some v → Value.okWide Tryd.prog W .any base t v)
    (hW : DataW.Whole enc Tryd.prog Tryd.f8.params.toList Rows.shaStatesSpec.vars false W args.toList ds gs before) (hL : laidMetH Tryd.prog Rows.shaStatesRow.laid W) (hsz0 : (DataW.weightsEach Tryd.prog (Tryd.f8.params.toList ++ []) (ds ++ gs)).all (· ≤ reachBytes) = true) :
    Calls Tryd.prog 8 args W fun e W' => ∃ v, e = .returned v ∧ Rows.shaStatesSpec.post enc Tryd.prog Tryd.f8 false true false false W args v W' := by
  have hval := hval0
  have hsz := hsz0
  have hW' := hW
  obtain ⟨p, q, hA0, hV, rfl, hfz, hnd⟩ := hW
  have hA : DataW.TrodAll enc Tryd.prog W 0 (fun _ => true) true Tryd.f8.params.toList args.toList ds p := hA0
  rw [Tryd.params8] at hA hval hsz
  obtain ⟨v0, vs0, d0, ds0, p0, q0, hargs, rfl, rfl, h0, r0⟩ := trodAll_cons hA
  obtain ⟨rfl, rfl, rfl⟩ := trodAll_nil r0
  obtain rfl : args = #[v0] := by cases args; simp_all
  obtain ⟨rfl, rfl⟩ := trodVars_none hV
  have h0s : 0 < W.heap.size := by
    have hc := (table hL).cell gTab 0 (by decide)
    rcases Nat.lt_or_ge 0 W.heap.size with h | h
    · exact h
    · exfalso
      have : W.heap[0]? = none := Array.getElem?_eq_none h
      simp [World.cell?, this] at hc
  have hC : TabC W := tabC hL h0s
  have k0 := h0
  have lt0 : ∀ x ∈ p0, x.block < W.heap.size := by obtain ⟨m, hm⟩ := k0; exact DataW.trod_lt m _ _ _ hm
  have B0 := barg (hval 0 22 v0 rfl rfl) h0 hsz 0 rfl rfl
  clear hA0 hval0
  refine (walk v0 W B0 hC).mono fun e W' ⟨he, bel⟩ => ?_
  subst he
  exact ⟨_, rfl, _, _, _, [], _, [], hW', trodAll_mk1 (shut_bool Tryd.underlying4 _), (trodAll_cons_mk (Below.trod laidOut (by kernel_rfl) (of_decide_eq_true (by kernel_rfl)) k0 bel lt0) trodAll_mk0), rfl, bel.frame _, fun h => by cases h⟩

def wit : Array Value := #[.slice none 0 0]
def dat {H : Type} : List (DataW H) := [.nil]
def setTab : Obj → Obj
  | .cells _ t frozen => .cells (tabL.map fun z => Value.int .u32 z).toArray t frozen
  | o => o
theorem laid_met (os : Os) : laidMet Tryd.prog Rows.shaStatesRow.laid (({ World.holding Tryd.prog os ⟨#[], #[], []⟩ with heap := (World.holding Tryd.prog os ⟨#[], #[], []⟩).heap.modify 0 setTab } : World).forCall (fun _ _ => 0) ⟨#[], wit, []⟩).memory :=
  laidMet_of_run' 8 (by kernel_rfl) (by kernel_rfl)
theorem reads (os : Os) {H : Type} (enc : TypeId × Value → H) : ∃ places, DataW.whole enc Tryd.prog (({ World.holding Tryd.prog os ⟨#[], #[], []⟩ with heap := (World.holding Tryd.prog os ⟨#[], #[], []⟩).heap.modify 0 setTab } : World).forCall (fun _ _ => 0) ⟨#[], wit, []⟩).memory Tryd.f8.params.toList Rows.shaStatesSpec.vars false wit.toList 8 = some (dat, [], places) :=
  ⟨[], by kernel_rfl⟩

set_option maxRecDepth 100000 in
theorem lifted (os : Os) (started : os.Started) (H : Type) (enc : TypeId × Value → H) (F : Stop.Interp) :
    ReturnsInHanded {} Tryd.checked os 8 .any ((OpenSpec.ofChange Rows.shaStatesSpec).preRow enc Tryd.prog Tryd.f8 Rows.shaStatesRow.domain false Rows.shaStatesRow.laid) (((OpenSpec.ofChange Rows.shaStatesSpec).at F).post enc Tryd.prog Tryd.f8 false true false false) := by
  obtain ⟨places, hx⟩ := reads os enc
  refine returnsInHanded_of_row (C := Tryd.checked) (s := (OpenSpec.ofChange Rows.shaStatesSpec)) own started (by kernel_rfl) Tryd.func8
    (witness_row_at (enc := enc) (C := Tryd.checked) false ({ World.holding Tryd.prog os ⟨#[], #[], []⟩ with heap := (World.holding Tryd.prog os ⟨#[], #[], []⟩).heap.modify 0 setTab } : World) wit rfl (by kernel_rfl) (by kernel_rfl) (by kernel_rfl)
      (OpenSpec.preRow_of_cond 8 hx (by kernel_rfl) (fun k hk => by cases hk) (by kernel_rfl) (laid_met os))) ?_
  intro W base args ds gs before hval hW _ hcond hsz hL _ _
  exact contract H enc W base args ds gs before hval hW hL hsz

theorem said : Rows.ShaStatesSaid :=
  OpenClaim.holds_of_cond 8 Tryd.f8 rfl rfl rfl rfl rfl rfl rfl ⟨rfl, rfl, rfl, rfl, rfl⟩ rfl rfl rfl rfl rfl (by kernel_rfl) Tryd.func8 (by kernel_rfl)
    (of_decide_eq_true (by kernel_rfl)) (by unfold Func.isWrapper; first | (rw [if_pos (by decide +kernel)]; kernel_rfl) | (rw [if_neg (by decide +kernel)]; exact ⟨rfl, rfl⟩))
    (fun os started H enc _ F => by rw [OpenClaim.pre_eq_preRow]; exact lifted os started H enc F)

theorem plain (f : FuncId) (fn : Func) (hf : Tryd.pinned.checked.prog.funcNamed "casket/casketlaw04.ShaStates" = some f) (hfn : Tryd.pinned.checked.prog.funcs[f]? = some fn) :
    false = Tryd.pinned.checked.prog.looks [] ∧ ∀ (j : Nat) t, fn.params[j]? = some t → Tryd.pinned.checked.prog.wantsStandIn t = false := by
  obtain rfl : f = 8 := Option.some.inj ((show Tryd.prog.funcNamed "casket/casketlaw04.ShaStates" = some 8 by kernel_rfl).symm.trans hf) |>.symm
  obtain rfl : fn = Tryd.f8 := (Option.some.inj (Tryd.func8.symm.trans hfn)).symm
  refine ⟨by kernel_rfl, fun j t ht => ?_⟩
  rw [Tryd.params8] at ht
  have hm : t ∈ [22] := by simpa using Array.mem_of_getElem? ht
  have hall : ([22].all fun u => !Tryd.prog.wantsStandIn u) = true := by kernel_rfl
  exact (show Tryd.prog.wantsStandIn t = false by simpa using List.all_eq_true.1 hall t hm)

theorem card : Rows.ShaStatesCardSaid :=
  Claim7.holds_tied_plain_at .later [] _ _ _ _ said (fun _ h => by cases h) (by kernel_rfl) (fun _ h => by cases h) shaStates_row_tie rfl ⟨rfl, rfl⟩ (by kernel_rfl) rfl plain (by kernel_rfl)
end Go.Proofs.YtbejodcgigdjaaaDoor.shaStates
namespace Go.Proofs.YtbejodcgigdjaaaDoor
theorem shaStates_holds : Rows.ShaStatesCardSaid := shaStates.card
end Go.Proofs.YtbejodcgigdjaaaDoor
