/-
  The document's digest: of any bytes, in every world, of which nothing that was there turns. Bytes, nil or not, wherever they lie: their digest by the program and by the document, and as a string. Whether bytes are the same.
-/
import Derived.Test.YtfpfgbhdehbggaaGreatDoorQb1
import Derived.Test.YtfpfgbhdehbggaaGreatDoorQb8
import Derived.Test.YtfpfgbhdehbggaaGreatDoorQb6
import Derived.Laws.Bits64b
import Derived.Laws.BitsAllLaws
import Derived.LoopTactic
namespace Go.Proofs.YtfpfgbhdehbggaaGreatDoor
set_option maxRecDepth 20000
open Go.RowKit Go.BigFrame
def SLA (B : Nat) (w : World) (F : Nat → BitVec 8) (v : Value) (n : Nat) (X : World) : Prop := OwnB (B + 1) 5 v n (yv F) X ∧ RowAt B 32 (yv fun _ => 0#8) X ∧ Ext w X ∧ w.heap.size = B
theorem SLA.grow {B : Nat} {w X Y : World} {F : Nat → BitVec 8} {v v' : Value} {n n' : Nat} (h : SLA B w F v n X) (hg : X.grownBy Y v.ownBlock) (ho : OwnB (B + 1) 5 v' n' (yv F) Y) : SLA B w F v' n' Y := by
  obtain ⟨h1, h2, h3, h4⟩ := h
  refine ⟨ho, h2.grown hg fun e => ?_, Below.trans h3 (below_grown (Below.size h3) hg fun k hk => ?_), h4⟩
  · have := (h1.lt B e.symm).1
    omega
  · have := (h1.lt k hk).1
    omega
theorem SLA.alloc {B : Nat} {w X : World} {F : Nat → BitVec 8} {v : Value} {n : Nat} (h : SLA B w F v n X) (o : Obj) : SLA B w F v n (X.alloc o) :=
  ⟨h.1.alloc o, h.2.1.alloc o, Below.alloc h.2.2.1 (Below.size h.2.2.1) o, h.2.2.2⟩
theorem SLA.ext {B : Nat} {w X Y : World} {F : Nat → BitVec 8} {v : Value} {n : Nat} (h : SLA B w F v n X) (k : Ext X Y) : SLA B w F v n Y :=
  ⟨h.1.ext k, h.2.1.carry k, Ext.trans h.2.2.1 k, h.2.2.2⟩
theorem SLA.but {B c : Nat} {w X Y : World} {F : Nat → BitVec 8} {v : Value} {n : Nat} (h : SLA B w F v n X) (k : But c X Y) (hc : v.ownBlock ≠ some c) (hB : B < c) : SLA B w F v n Y :=
  ⟨h.1.but k hc, h.2.1.but k (by omega), Below.but h.2.2.1 k (by have := h.2.2.2; omega) (Below.size h.2.2.1), h.2.2.2⟩
def L3 (B g d T : Nat) (w : World) (F : Nat → BitVec 8) (s : Nat → BitVec 32) (X : World) : Prop :=
  RowAt g T (yv F) X ∧ RowAt d 8 (wv s) X ∧ RowAt B 32 (yv fun _ => 0#8) X ∧ Ext w X ∧ w.heap.size = B ∧ B < g ∧ g < d
theorem L3.ext {B g d T : Nat} {w X Y : World} {F : Nat → BitVec 8} {s : Nat → BitVec 32} (h : L3 B g d T w F s X) (k : Ext X Y) : L3 B g d T w F s Y :=
  ⟨h.1.carry k, h.2.1.carry k, h.2.2.1.carry k, Ext.trans h.2.2.2.1 k, h.2.2.2.2⟩
theorem L3.but {B g d T c : Nat} {w X Y : World} {F : Nat → BitVec 8} {s : Nat → BitVec 32} (h : L3 B g d T w F s X) (k : But c X Y) (hc : d < c) : L3 B g d T w F s Y := by
  obtain ⟨h1, h2, h3, h4, h5, h6, h7⟩ := h
  exact ⟨h1.but k (by omega), h2.but k (by omega), h3.but k (by omega), Ext.but h4 k (by omega), h5, h6, h7⟩
theorem L3.setS {B g d T : Nat} {w X : World} {F : Nat → BitVec 8} {s : Nat → BitVec 32} (h : L3 B g d T w F s X) (s' : Nat → BitVec 32) : L3 B g d T w F s' (X.setCells d 0 (row 8 (wv s'))) := by
  obtain ⟨h1, h2, h3, h4, h5, h6, h7⟩ := h
  exact ⟨h1.cellsOther (by omega) _ _, h2.cells, h3.cellsOther (by omega) _ _, below_setCells _ (by omega) _ _ _ h4, h5, h6, h7⟩
theorem lie1 (w : World) (x : Int) (c : BitVec 8) (h : x = (c.toNat : Int)) : LieAt ⟨w.heap.size, 0, none⟩ 1 (yv fun _ => c) (w.alloc (.cells #[.int .u8 x] 5)) :=
  lieNew w 1 _ 5 _ _ fun j hj => by
    obtain rfl : j = 0 := by omega
    rw [h]
    rfl
theorem elem22 : ElemIs Tryz.prog 25 5 := elem_is Tryz.underlying25 (by kernel_rfl) (by kernel_rfl) (by kernel_rfl)
set_option maxRecDepth 20000 in
set_option maxHeartbeats 4000000 in
theorem rsum_any (l cap : Nat) (b : Nat → BitVec 8) (a : Addr) (w : World) (hb : LieAt a l (yv b) w) (hl : l ≤ 140737488355000) :
    Calls Tryz.prog 56 #[.slice (some a) l cap] w fun e w' => e = .returned (.agg (row 32 (yv (shaF b l))).toArray) ∧ Below w.heap.size w w' := by
  have hz := zero24
  have HR0 := hideit (RowAt.new w 32 (yv fun _ => 0#8) 22)
  have HE0 : Ext w (w.alloc (.cells (row 32 (yv fun _ => 0#8)).toArray 22)) := (Below.refl _ _).alloc (Nat.le_refl _) _
  replace HE0 := hideit HE0
  replace hb := hideit hb
  obtain ⟨R, hR⟩ : ∃ R, R = shaF b l := ⟨_, rfl⟩
  obtain ⟨F, hF⟩ : ∃ F, F = fillF b l := ⟨_, rfl⟩
  rw [← hR]
  replace hR := hideit hR
  replace hF := hideit hF
  have HO1 : SLA w.heap.size w F (.slice (some ⟨w.heap.size + 1, 0, none⟩) 0 0) 0 ((w.alloc (.cells (row 32 (yv fun _ => 0#8)).toArray 22)).alloc (.cells #[] 5)) := by
    have := own_empty (w.alloc (.cells (row 32 (yv fun _ => 0#8)).toArray 22)) (w.heap.size + 1) 5 (yv F) (by simp)
    exact ⟨by simpa using this, HR0.out.alloc _, Below.alloc HE0.out (Below.size HE0.out) _, rfl⟩
  replace HO1 := hideit HO1
  go_enter Tryz.func56, Tryz.ntmps56
  go_upto_region 1 with (fail)
  refine wp_region_lit ?_
  refine wpList_to rfl (.slice (some ⟨w.heap.size + 1, 0, none⟩) 0 0) ((w.alloc (.cells (row 32 (yv fun _ => 0#8)).toArray 22)).alloc (.cells #[] 5)) (by simp [go_sem]) ?_
  simp only [zp0, zp1, zp2, zp3]
  refine wpList_run rfl (.slice (some a) l cap) (by simp [go_sem]) ?_
  simp only [zp0, zp1, zp2, zp3]
  refine wpList_grow (n := 0) (base := w.heap.size + 1) elem22 rfl (.tmp 12) (.tmp 13) rfl rfl HO1.out.1 a l cap (yv b) (yv F) rfl (hb.out.carry HO1.out.2.2.1) (fun _ _ => rfl) (fun j hj => by omega) (fun j hj => by simp only [yv]; rw [hF.out]; unfold fillF; rw [Nat.zero_add, if_pos hj]) (by omega) (by simp) ?_
  intro v1 w1 hO1 hg1
  have HO2 : SLA w.heap.size w F v1 l w1 := HO1.out.grow hg1 (by rw [Nat.zero_add] at hO1; exact hO1)
  simp only [zp0, zp1, zp2, zp3]
  replace HO2 := hideit HO2
  clear HR0 HE0 HO1
  refine wpList_to rfl (.slice (some ⟨w1.heap.size, 0, none⟩) 1 1) (w1.alloc (.cells #[.int .u8 128] 5)) (by simp [go_sem]) ?_
  simp only [zp0, zp1, zp2, zp3]
  have hT : 64 * pieces l = 64 * ((l + 8) / 64) + 64 := by unfold pieces; omega
  obtain ⟨T, hTT⟩ : ∃ T, T = 64 * pieces l := ⟨_, rfl⟩
  rw [← hTT] at hT
  replace hT := hideit hT
  replace hTT := hideit hTT
  refine wpList_grow (n := l) (base := w.heap.size + 1) elem22 rfl (.tmp 14) (.tmp 15) rfl rfl (HO2.out.alloc _).1 ⟨w1.heap.size, 0, none⟩ 1 1 (yv fun _ => 128#8) (yv F) rfl (lie1 w1 128 128#8 rfl) (fun _ _ => rfl) (fun j hj => rfl) (fun j hj => by
    obtain rfl : j = 0 := by omega
    simp only [yv]; rw [hF.out]; unfold fillF; rw [Nat.add_zero, if_neg (by omega), if_pos rfl]) (by omega) (by have := Below.size HO2.out.2.2.1; simp; have := HO2.out.2.1.2.2; omega) ?_
  intro v2 w2 hO2 hg2
  have HO3 := hideit ((HO2.out.alloc _).grow hg2 hO2)
  clear hO2 hg2 HO2
  simp only [zp0, zp1, zp2, zp3]
  go_wp2
  go_loopw [3] (fun v wr => ∃ n : Nat, l + 1 ≤ n ∧ n + 8 ≤ T ∧ SLA w.heap.size w F v n wr) (fun v _ => T - restOf v)
  case atStart => exact ⟨l + 1, by omega, by have := hT.out; omega, HO3.out⟩
  case round =>
    clear HO3
    obtain ⟨n, hn1, hn2, hS⟩ := hrel
    obtain ⟨g, cp, rfl, hgb, hcp, hmx, hRow⟩ := hS.1.lies (by omega)
    have HS := hideit hS
    have HT := hideit hT.out
    clear hS hRow
    have n0 : (0 : Int) ≤ (n : Int) := by omega
    by_cases hq : n % 64 = 56
    · have hq1 : (((n : Int) % 64) != 56) = false := by rw [bne_eq_false_iff_eq]; omega
      have HS1 : SLA w.heap.size w F (.slice (some ⟨g, 0, none⟩) n cp) (T - 8 + 0) wr := by
        have h1 := HT.out
        have h2 : n = T - 8 + 0 := by omega
        rw [← h2]
        exact HS.out
      replace HS1 := hideit HS1
      clear HS
      go_wp2
      go_loopw [3, 5] (fun v i wr => ∃ q : Nat, q ≤ 8 ∧ i = .int .i64 q ∧ SLA w.heap.size w F v (T - 8 + q) wr) (fun _ i _ => 8 - (intOf i).toNat)
      case atStart => exact ⟨0, by omega, rfl, HS1.out⟩
      case round =>
        clear HS1
        obtain ⟨q, hq8, rfl, hS⟩ := hrel
        obtain ⟨g', cp', rfl, hgb', hcp', hmx', hRow⟩ := hS.1.lies (by have := HT.out; omega)
        have HS := hideit hS
        have HRow := hideit hRow
        clear hS hRow
        by_cases hlt : q < 8
        · have q0 : (0 : Int) ≤ (q : Int) := by omega
          have q1 : (q : Int) < 8 := by omega
          have flen := lenB_fact l q
          go_wp2_with (at_builtin; refine wpList_grow (n := T - 8 + q) (base := w.heap.size + 1) elem22 rfl (.tmp 32) (.tmp 39) rfl rfl (HS.out.alloc _).1 ⟨wr.heap.size, 0, none⟩ 1 1 (yv fun _ => lenB l q) (yv F) rfl (lie1 wr _ (lenB l q) (by rfl)) (fun _ _ => rfl) (fun j hj => rfl) (fun j hj => by
            obtain rfl : j = 0 := by omega
            have h1 := HT.out
            simp only [yv]; rw [hF.out]; unfold fillF; rw [← hTT.out, Nat.add_zero, if_neg (by omega), if_neg (by omega), if_neg (by omega), show T - 8 + q - (T - 8) = q by omega]) (by have := HT.out; omega) (by have := Below.size HS.out.2.2.1; simp; have := HS.out.2.1.2.2; omega) ?_; intro v3 w3 hO3 hg3; have HS3 := hideit ((HS.out.alloc _).grow hg3 hO3); clear hO3 hg3 HS)
          go_roundw
          case rel =>
            first | exact ⟨(q + 1 : Nat), by omega, by go_num, HS3.out⟩ | ((repeat apply Exists.intro); exact ⟨⟨q + 1, by omega, by go_num, HS3.out⟩, rfl⟩)
          case measure => simp [intOf]; omega
        · obtain rfl : q = 8 := by omega
          have hTe : T - 8 + 8 = T := by have := HT.out; omega
          rw [hTe] at HS HRow
          obtain ⟨F0, hF0⟩ : ∃ F0, F0 = fT := ⟨_, rfl⟩
          have hrf := rfirst_any
          rw [← hF0] at hrf
          replace hrf := hideit hrf
          replace hF0 := hideit hF0
          have hz8 := zero28
          go_upto_region 10 with (first | (go_at_call 82; refine (hrf.out _).mono ?_; rintro e w4 ⟨rfl, hw4⟩; obtain ⟨d, hd⟩ : ∃ d, d = w4.heap.size := ⟨_, rfl⟩; have HN : RowAt d 8 (wv fun _ => 0#32) (w4.alloc (.cells (row 8 (wv fun _ => 0#32)).toArray 141)) := (by rw [hd]; exact RowAt.new w4 8 (wv fun _ => 0#32) 141); replace HN := hideit HN; have HS4 := hideit (HS.out.ext hw4); have HRow4 := hideit (HRow.out.carry hw4); have hgd : g' < d := (by rw [hd]; exact Nat.lt_of_lt_of_le HRow.out.2.2 (Below.size hw4)); clear hw4 HS HRow) | (rw [← hd]; refine wpList_store_mid rfl 141 (.tmp 6) (.tmp 41) rfl _ 0 (row 8 (wv F0)).toArray rfl rfl (by rw [row_size]; exact HN.out.there) (by rw [row_size]; exact info28) (row_one fun _ _ => rfl) ?_))
          have HX : L3 w.heap.size g' d T w F (chain F 0) ((w4.alloc (.cells (row 8 (wv fun _ => 0#32)).toArray 141)).setCells d 0 (row 8 (wv F0))) := by
            have hE := HS4.out.2.2.1
            have hsz := Below.size hE
            refine ⟨(HRow4.out.alloc _).cellsOther (by omega) _ _, ?_, (HS4.out.2.1.alloc _).cellsOther (by omega) _ _, below_setCells _ (by omega) _ _ _ (Below.alloc hE hsz _), rfl, by omega, hgd⟩
            show RowAt d 8 (wv fT) _
            rw [← hF0.out]
            exact HN.out.cells
          replace HX := hideit HX
          clear HS4 HRow4 HN hd hz8 hrf hF0
          generalize (w4.alloc (.cells (row 8 (wv fun _ => 0#32)).toArray 141)).setCells d 0 (row 8 (wv F0)) = X at *
          simp only [Act.put]
          have hz9 := zero29
          obtain ⟨N, hN⟩ : ∃ N, N = pieces l := ⟨_, rfl⟩
          have hTN : T = 64 * N := by rw [hTT.out, hN]
          have hTb : T ≤ 140737488355328 := by have := HT.out; omega
          replace hN := hideit hN
          replace hTN := hideit hTN
          go_wp2
          go_loopw [7] (fun i wr => ∃ k : Nat, k ≤ N ∧ i = .int .i64 ((64 * k : Nat) : Int) ∧ L3 w.heap.size g' d T w F (chain F k) wr) (fun i _ => T - (intOf i).toNat)
          case atStart => exact ⟨0, by omega, rfl, HX.out⟩
          case round =>
            clear HX
            obtain ⟨k, hk, rfl, hS⟩ := hrel
            have HS := hideit hS
            clear hS
            by_cases hlt : k < N
            · have hk1 : ((64 * k : Nat) : Int) < (T : Int) := by have := hTN.out; omega
              have hk2 : 64 * k < T := by have := hTN.out; omega
              generalize hat : 64 * k = at_ at *
              replace hat := hideit hat
              go_upto_region 14 with (fail)
              obtain ⟨pb, hpb⟩ : ∃ pb, pb = wr.heap.size := ⟨_, rfl⟩
              have HP : RowAt pb 64 (yv fun _ => 0#8) (wr.alloc (.cells (row 64 (yv fun _ => 0#8)).toArray 26)) := by rw [hpb]; exact RowAt.new wr 64 _ 26
              have HSa := hideit (HS.out.ext ((Below.refl _ _).alloc (Nat.le_refl _) (.cells (row 64 (yv fun _ => 0#8)).toArray 26)))
              have hdp : d < pb := by rw [hpb]; exact HS.out.2.1.2.2
              rw [← hpb]
              replace HP := hideit HP
              clear hpb HS
              generalize wr.alloc (.cells (row 64 (yv fun _ => 0#8)).toArray 26) = Y at *
              go_wp2
              go_loopw [9] (fun i wr => ∃ j : Nat, j ≤ 64 ∧ i = .int .i64 (j : Int) ∧ L3 w.heap.size g' d T w F (chain F k) wr ∧ RowAt pb 64 (yv fun x => if x < j then F (64 * k + x) else 0#8) wr) (fun i _ => 64 - (intOf i).toNat)
              case atStart => exact ⟨0, by omega, rfl, HSa.out, HP.out.congr fun x _ => by simp only [yv]; rw [if_neg (by omega)]⟩
              case round =>
                clear HSa HP
                obtain ⟨j, hj, rfl, hS, hP⟩ := hrel
                have HS := hideit hS
                have HP := hideit hP
                by_cases hlt2 : j < 64
                · have hat' := hat.out
                  have hTN' := hTN.out
                  have e1 := hS.1.1 (at_ + j) (by omega)
                  have e2 := hP.1 j hlt2
                  have g2 := hP.2.1 j hlt2
                  simp only [yv] at e1
                  have a2 : at_ + j < T := by omega
                  clear hS hP hat' hTN'
                  have j0 : (0 : Int) ≤ (j : Int) := by omega
                  have j1 : (j : Int) < 64 := by omega
                  have a0 : (0 : Int) ≤ (at_ : Int) := by omega
                  have a1 : (at_ : Int) + (j : Int) < (T : Int) := by omega
                  have a3 : (T : Int) ≤ 140737488355328 := by omega
                  go_wp2
                  have HI : L3 w.heap.size g' d T w F (chain F k) (wr.setCell ⟨pb, j, none⟩ (.int .u8 ((F (at_ + j)).toNat : Int))) := HS.out.but (but_setCell _ _ _ _) hdp
                  have HJ : RowAt pb 64 (yv fun x => if x < j + 1 then F (64 * k + x) else 0#8) (wr.setCell ⟨pb, j, none⟩ (.int .u8 ((F (at_ + j)).toNat : Int))) := (HP.out.set j _).congr fun x _ => by
                    simp only [yv]
                    by_cases e : x = j
                    · subst e; rw [if_pos rfl, if_pos (by omega), hat.out]
                    · rw [if_neg e]
                      by_cases h : x < j
                      · rw [if_pos h, if_pos (by omega)]
                      · rw [if_neg h, if_neg (by omega)]
                  exact ⟨⟨j + 1, by omega, by go_num, HI, HJ⟩, by simp [intOf]; omega⟩
                · obtain rfl : j = 64 := by omega
                  obtain ⟨pp, hpp⟩ : ∃ pp, pp = fun x => F (64 * k + x) := ⟨_, rfl⟩
                  have HP2 := hideit (hP.congr (g' := yv pp) fun x hx => by simp only [yv]; rw [if_pos hx, hpp])
                  have hrb := rblock_any (chain F k) pp wr
                  have hs2 : blockF (chain F k) pp = chain F (k + 1) := by rw [hpp]; rfl
                  rw [hs2] at hrb
                  clear hS hP HP hs2
                  replace hrb := hideit hrb
                  generalize hs1 : chain F (k + 1) = s1 at *
                  generalize hs0 : chain F k = s0 at *
                  replace hs1 := hideit hs1
                  clear hs0 hpp
                  go_upto_region 18 with (fail)
                  refine wp_region_lit ?_
                  refine wpList_load_mid rfl 141 (.tmp 6) rfl d 0 rfl (row 8 (wv s0)) _ HS.out.2.1.range Tryz.underlying141 rfl (by rw [row_length]; exact info28) ?_
                  refine wpList_load_mid rfl 26 (.tmp 8) rfl pb 0 rfl (row 64 (yv pp)) _ HP2.out.range Tryz.underlying26 rfl (by rw [row_length]; exact info29) ?_
                  simp only [zp0, zp1, zp2, zp3]
                  refine wpList_call rfl (by simp [go_sem]) (hrb.out.mono ?_)
                  rintro e V ⟨rfl, hV⟩
                  refine ⟨_, rfl, ?_⟩
                  simp only [zp0, zp1, zp2, zp3]
                  have HV := hideit (HS.out.ext hV)
                  clear hrb hV HS HP2
                  refine wpList_store_mid rfl 141 (.tmp 6) (.tmp 62) rfl d 0 (row 8 (wv s1)).toArray rfl rfl (by rw [row_size]; exact HV.out.2.1.there) (by rw [row_size]; exact info28) (row_one fun _ _ => rfl) ?_
                  have HV1 := hideit (HV.out.setS s1)
                  clear HV
                  generalize V.setCells d 0 (row 8 (wv s1)) = V1 at *
                  simp only [Act.put]
                  have a0 : (0 : Int) ≤ (at_ : Int) := by omega
                  have a3 : (at_ : Int) ≤ 140737488355328 := by omega
                  go_wp2
                  go_roundw
                  case rel =>
                    have HQ : L3 w.heap.size g' d T w F (chain F (k + 1)) V1 := by rw [hs1.out]; exact HV1.out
                    have hi : Value.int .i64 ((at_ : Int) + 64) = .int .i64 ((64 * (k + 1) : Nat) : Int) := by have := hat.out; congr 1; omega
                    first | exact ⟨(k + 1 : Nat), by omega, hi, HQ⟩ | ((repeat apply Exists.intro); exact ⟨⟨k + 1, by omega, hi, HQ⟩, rfl⟩)
                  case measure =>
                    have h1 := hat.out
                    simp [intOf]
                    omega
            · obtain rfl : k = N := by omega
              have hk1 : ¬ (((64 * k : Nat) : Int) < (T : Int)) := by have := hTN.out; omega
              have hk2 : ¬ (64 * k < T) := by have := hTN.out; omega
              generalize hat : 64 * k = at_ at *
              clear hat
              have hfin : digF (chain F k) = R := by
                rw [hR.out, hN.out, hF.out]
                rfl
              replace hfin := hideit hfin
              clear hz9
              generalize chain F k = s1 at *
              go_upto_region 20 with (fail)
              obtain ⟨ob, hob⟩ : ∃ ob, ob = wr.heap.size := ⟨_, rfl⟩
              have HP : RowAt ob 32 (yv fun _ => 0#8) (wr.alloc (.cells (row 32 (yv fun _ => 0#8)).toArray 22)) := by rw [hob]; exact RowAt.new wr 32 _ 22
              have HSa := hideit (HS.out.ext ((Below.refl _ _).alloc (Nat.le_refl _) (.cells (row 32 (yv fun _ => 0#8)).toArray 22)))
              have hdo : d < ob := by rw [hob]; exact HS.out.2.1.2.2
              rw [← hob]
              replace HP := hideit HP
              clear hob HS hz
              generalize wr.alloc (.cells (row 32 (yv fun _ => 0#8)).toArray 22) = Y at *
              go_wp2
              go_loopw [11] (fun i wr => ∃ j : Nat, j ≤ 32 ∧ i = .int .i64 (j : Int) ∧ L3 w.heap.size g' d T w F s1 wr ∧ RowAt ob 32 (yv fun x => if x < j then digF s1 x else 0#8) wr) (fun i _ => 32 - (intOf i).toNat)
              case atStart => exact ⟨0, by omega, rfl, HSa.out, HP.out.congr fun x _ => by simp only [yv]; rw [if_neg (by omega)]⟩
              case round =>
                clear HSa HP
                obtain ⟨j, hj, rfl, hS, hP⟩ := hrel
                have HS := hideit hS
                have HP := hideit hP
                by_cases hlt2 : j < 32
                · have e1 := hS.2.1.1 (j / 4) (by omega)
                  have e2 := hP.1 j hlt2
                  have g2 := hP.2.1 j hlt2
                  clear hS hP
                  simp only [wv] at e1
                  have j0 : (0 : Int) ≤ (j : Int) := by omega
                  have j1 : (j : Int) < 32 := by omega
                  have b1 := (s1 (j / 4)).isLt
                  go_wp2
                  rw [dig_fact]
                  refine ⟨⟨j + 1, by omega, by go_num, HS.out.but (but_setCell _ _ _ _) hdo, (HP.out.set j _).congr fun x _ => ?_⟩, by simp [intOf]; omega⟩
                  simp only [yv]
                  by_cases e : x = j
                  · subst e; rw [if_pos rfl, if_pos (by omega)]; rfl
                  · rw [if_neg e]
                    by_cases h : x < j
                    · rw [if_pos h, if_pos (by omega)]
                    · rw [if_neg h, if_neg (by omega)]
                · obtain rfl : j = 32 := by omega
                  have HP2 := hideit (hP.congr (g' := yv R) fun x hx => by simp only [yv]; rw [if_pos hx, hfin.out])
                  have HR0 := hideit hS.2.2.1
                  have hB := hideit hS.2.2.2.1
                  clear hS hP HS HP
                  go_wp2_with (first | (refine wpList_load_mid rfl 22 (.tmp 10) rfl _ 0 rfl (row 32 (yv R)) _ HP2.out.range Tryz.underlying22 rfl (by rw [row_length]; exact info24) ?_) | (refine wpList_store_mid rfl 22 (.tmp 2) (.tmp 79) rfl _ 0 (row 32 (yv R)).toArray rfl rfl (by rw [row_size]; exact HR0.out.there) (by rw [row_size]; exact info24) (row_one fun _ _ => rfl) ?_))
                  exact bodyPost_ret (ret_row Tryz.results56 rfl (HR0.out.cells (g' := yv R)) Tryz.underlying22 rfl info24) rfl ⟨rfl, below_setCells _ (Nat.le_refl _) _ _ _ hB.out⟩
    · have hq1 : (((n : Int) % 64) != 56) = true := by rw [bne_iff_ne]; omega
      go_upto_region 3 with (fail)
      refine wp_region_lit ?_
      refine wpList_run rfl (.slice (some ⟨g, 0, none⟩) n cp) (by simp [go_sem]) ?_
      simp only [zp0, zp1, zp2, zp3]
      refine wpList_to rfl (.slice (some ⟨wr.heap.size, 0, none⟩) 1 1) (wr.alloc (.cells #[.int .u8 0] 5)) (by simp [go_sem]) ?_
      simp only [zp0, zp1, zp2, zp3]
      refine wpList_grow (n := n) (base := w.heap.size + 1) elem22 rfl (.tmp 21) (.tmp 22) rfl rfl (HS.out.alloc _).1 ⟨wr.heap.size, 0, none⟩ 1 1 (yv fun _ => 0#8) (yv F) rfl (lie1 wr _ (0#8) (by rfl)) (fun _ _ => rfl) (fun j hj => rfl) (fun j hj => by
        obtain rfl : j = 0 := by omega
        simp only [yv]; rw [hF.out]; have h1 := HT.out; have h2 := hTT.out; unfold fillF; rw [Nat.add_zero, if_neg (by omega), if_neg (by omega), if_pos (by omega)]) (by have := HT.out; omega) (by have := Below.size HS.out.2.2.1; simp; have := HS.out.2.1.2.2; omega) ?_
      intro v3 w3 hO3 hg3
      have HS3 := hideit ((HS.out.alloc _).grow hg3 hO3)
      clear hO3 hg3 HS
      simp only [zp0, zp1, zp2, zp3]
      go_wp2
      go_roundw
      case rel =>
        first | exact ⟨(n + 1 : Nat), by omega, by have := HT.out; omega, HS3.out⟩ | ((repeat apply Exists.intro); exact ⟨⟨n + 1, by omega, by have := HT.out; omega, HS3.out⟩, rfl⟩)
      case measure =>
        obtain ⟨g3, cp3, hv3, _⟩ := HS3.out.1.lies (by omega)
        subst hv3
        have := HT.out
        show T - (n + 1) < T - n
        omega
set_option maxRecDepth 20000 in
set_option maxHeartbeats 4000000 in
theorem rsum_none  (w : World)  :
    Calls Tryz.prog 56 #[.slice none 0 0] w fun e w' => e = .returned (.agg (row 32 (yv (shaF (fun _ => 0#8) 0))).toArray) ∧ Below w.heap.size w w' := by
  have hz := zero24
  have HR0 := hideit (RowAt.new w 32 (yv fun _ => 0#8) 22)
  have HE0 : Ext w (w.alloc (.cells (row 32 (yv fun _ => 0#8)).toArray 22)) := (Below.refl _ _).alloc (Nat.le_refl _) _
  replace HE0 := hideit HE0
  obtain ⟨R, hR⟩ : ∃ R, R = shaF (fun _ => 0#8) 0 := ⟨_, rfl⟩
  obtain ⟨F, hF⟩ : ∃ F, F = fillF (fun _ => 0#8) 0 := ⟨_, rfl⟩
  rw [← hR]
  replace hR := hideit hR
  replace hF := hideit hF
  have HO1 : SLA w.heap.size w F (.slice (some ⟨w.heap.size + 1, 0, none⟩) 0 0) 0 ((w.alloc (.cells (row 32 (yv fun _ => 0#8)).toArray 22)).alloc (.cells #[] 5)) := by
    have := own_empty (w.alloc (.cells (row 32 (yv fun _ => 0#8)).toArray 22)) (w.heap.size + 1) 5 (yv F) (by simp)
    exact ⟨by simpa using this, HR0.out.alloc _, Below.alloc HE0.out (Below.size HE0.out) _, rfl⟩
  replace HO1 := hideit HO1
  go_enter Tryz.func56, Tryz.ntmps56
  go_upto_region 1 with (fail)
  refine wp_region_lit ?_
  refine wpList_to rfl (.slice (some ⟨w.heap.size + 1, 0, none⟩) 0 0) ((w.alloc (.cells (row 32 (yv fun _ => 0#8)).toArray 22)).alloc (.cells #[] 5)) (by simp [go_sem]) ?_
  simp only [zp0, zp1, zp2, zp3]
  refine wpList_run rfl (.slice none 0 0) (by simp [go_sem]) ?_
  simp only [zp0, zp1, zp2, zp3]
  refine wpList_grow_none (n := 0) (base := w.heap.size + 1) elem22 rfl (.tmp 12) (.tmp 13) rfl rfl HO1.out.1 rfl ?_
  have HO2 : SLA w.heap.size w F (.slice (some ⟨w.heap.size + 1, 0, none⟩) 0 0) 0 ((w.alloc (.cells (row 32 (yv fun _ => 0#8)).toArray 22)).alloc (.cells #[] 5)) := HO1.out
  generalize (Value.slice (some ⟨w.heap.size + 1, 0, none⟩) 0 0) = v1 at *
  generalize (w.alloc (.cells (row 32 (yv fun _ => 0#8)).toArray 22)).alloc (.cells #[] 5) = w1 at *
  simp only [zp0, zp1, zp2, zp3]
  replace HO2 := hideit HO2
  clear HR0 HE0 HO1
  refine wpList_to rfl (.slice (some ⟨w1.heap.size, 0, none⟩) 1 1) (w1.alloc (.cells #[.int .u8 128] 5)) (by simp [go_sem]) ?_
  simp only [zp0, zp1, zp2, zp3]
  have hT : 64 * pieces 0 = 64 * ((0 + 8) / 64) + 64 := by unfold pieces; omega
  obtain ⟨T, hTT⟩ : ∃ T, T = 64 * pieces 0 := ⟨_, rfl⟩
  rw [← hTT] at hT
  replace hT := hideit hT
  replace hTT := hideit hTT
  refine wpList_grow (n := 0) (base := w.heap.size + 1) elem22 rfl (.tmp 14) (.tmp 15) rfl rfl (HO2.out.alloc _).1 ⟨w1.heap.size, 0, none⟩ 1 1 (yv fun _ => 128#8) (yv F) rfl (lie1 w1 128 128#8 rfl) (fun _ _ => rfl) (fun j hj => rfl) (fun j hj => by
    obtain rfl : j = 0 := by omega
    simp only [yv]; rw [hF.out]; unfold fillF; rw [Nat.add_zero, if_neg (by omega), if_pos rfl]) (by omega) (by have := Below.size HO2.out.2.2.1; simp; have := HO2.out.2.1.2.2; omega) ?_
  intro v2 w2 hO2 hg2
  have HO3 := hideit ((HO2.out.alloc _).grow hg2 hO2)
  clear hO2 hg2 HO2
  simp only [zp0, zp1, zp2, zp3]
  go_wp2
  go_loopw [3] (fun v wr => ∃ n : Nat, 0 + 1 ≤ n ∧ n + 8 ≤ T ∧ SLA w.heap.size w F v n wr) (fun v _ => T - restOf v)
  case atStart => exact ⟨0 + 1, by omega, by have := hT.out; omega, HO3.out⟩
  case round =>
    clear HO3
    obtain ⟨n, hn1, hn2, hS⟩ := hrel
    obtain ⟨g, cp, rfl, hgb, hcp, hmx, hRow⟩ := hS.1.lies (by omega)
    have HS := hideit hS
    have HT := hideit hT.out
    clear hS hRow
    have n0 : (0 : Int) ≤ (n : Int) := by omega
    by_cases hq : n % 64 = 56
    · have hq1 : (((n : Int) % 64) != 56) = false := by rw [bne_eq_false_iff_eq]; omega
      have HS1 : SLA w.heap.size w F (.slice (some ⟨g, 0, none⟩) n cp) (T - 8 + 0) wr := by
        have h1 := HT.out
        have h2 : n = T - 8 + 0 := by omega
        rw [← h2]
        exact HS.out
      replace HS1 := hideit HS1
      clear HS
      go_wp2
      go_loopw [3, 5] (fun v i wr => ∃ q : Nat, q ≤ 8 ∧ i = .int .i64 q ∧ SLA w.heap.size w F v (T - 8 + q) wr) (fun _ i _ => 8 - (intOf i).toNat)
      case atStart => exact ⟨0, by omega, rfl, HS1.out⟩
      case round =>
        clear HS1
        obtain ⟨q, hq8, rfl, hS⟩ := hrel
        obtain ⟨g', cp', rfl, hgb', hcp', hmx', hRow⟩ := hS.1.lies (by have := HT.out; omega)
        have HS := hideit hS
        have HRow := hideit hRow
        clear hS hRow
        by_cases hlt : q < 8
        · have q0 : (0 : Int) ≤ (q : Int) := by omega
          have q1 : (q : Int) < 8 := by omega
          go_wp2_with (at_builtin; refine wpList_grow (n := T - 8 + q) (base := w.heap.size + 1) elem22 rfl (.tmp 32) (.tmp 39) rfl rfl (HS.out.alloc _).1 ⟨wr.heap.size, 0, none⟩ 1 1 (yv fun _ => lenB 0 q) (yv F) rfl (lie1 wr _ (lenB 0 q) (by unfold lenB; simp)) (fun _ _ => rfl) (fun j hj => rfl) (fun j hj => by
            obtain rfl : j = 0 := by omega
            have h1 := HT.out
            simp only [yv]; rw [hF.out]; unfold fillF; rw [← hTT.out, Nat.add_zero, if_neg (by omega), if_neg (by omega), if_neg (by omega), show T - 8 + q - (T - 8) = q by omega]) (by have := HT.out; omega) (by have := Below.size HS.out.2.2.1; simp; have := HS.out.2.1.2.2; omega) ?_; intro v3 w3 hO3 hg3; have HS3 := hideit ((HS.out.alloc _).grow hg3 hO3); clear hO3 hg3 HS)
          go_roundw
          case rel =>
            first | exact ⟨(q + 1 : Nat), by omega, by go_num, HS3.out⟩ | ((repeat apply Exists.intro); exact ⟨⟨q + 1, by omega, by go_num, HS3.out⟩, rfl⟩)
          case measure => simp [intOf]; omega
        · obtain rfl : q = 8 := by omega
          have hTe : T - 8 + 8 = T := by have := HT.out; omega
          rw [hTe] at HS HRow
          obtain ⟨F0, hF0⟩ : ∃ F0, F0 = fT := ⟨_, rfl⟩
          have hrf := rfirst_any
          rw [← hF0] at hrf
          replace hrf := hideit hrf
          replace hF0 := hideit hF0
          have hz8 := zero28
          go_upto_region 10 with (first | (go_at_call 82; refine (hrf.out _).mono ?_; rintro e w4 ⟨rfl, hw4⟩; obtain ⟨d, hd⟩ : ∃ d, d = w4.heap.size := ⟨_, rfl⟩; have HN : RowAt d 8 (wv fun _ => 0#32) (w4.alloc (.cells (row 8 (wv fun _ => 0#32)).toArray 141)) := (by rw [hd]; exact RowAt.new w4 8 (wv fun _ => 0#32) 141); replace HN := hideit HN; have HS4 := hideit (HS.out.ext hw4); have HRow4 := hideit (HRow.out.carry hw4); have hgd : g' < d := (by rw [hd]; exact Nat.lt_of_lt_of_le HRow.out.2.2 (Below.size hw4)); clear hw4 HS HRow) | (rw [← hd]; refine wpList_store_mid rfl 141 (.tmp 6) (.tmp 41) rfl _ 0 (row 8 (wv F0)).toArray rfl rfl (by rw [row_size]; exact HN.out.there) (by rw [row_size]; exact info28) (row_one fun _ _ => rfl) ?_))
          have HX : L3 w.heap.size g' d T w F (chain F 0) ((w4.alloc (.cells (row 8 (wv fun _ => 0#32)).toArray 141)).setCells d 0 (row 8 (wv F0))) := by
            have hE := HS4.out.2.2.1
            have hsz := Below.size hE
            refine ⟨(HRow4.out.alloc _).cellsOther (by omega) _ _, ?_, (HS4.out.2.1.alloc _).cellsOther (by omega) _ _, below_setCells _ (by omega) _ _ _ (Below.alloc hE hsz _), rfl, by omega, hgd⟩
            show RowAt d 8 (wv fT) _
            rw [← hF0.out]
            exact HN.out.cells
          replace HX := hideit HX
          clear HS4 HRow4 HN hd hz8 hrf hF0
          generalize (w4.alloc (.cells (row 8 (wv fun _ => 0#32)).toArray 141)).setCells d 0 (row 8 (wv F0)) = X at *
          simp only [Act.put]
          have hz9 := zero29
          obtain ⟨N, hN⟩ : ∃ N, N = pieces 0 := ⟨_, rfl⟩
          have hTN : T = 64 * N := by rw [hTT.out, hN]
          have hTb : T ≤ 140737488355328 := by have := HT.out; omega
          replace hN := hideit hN
          replace hTN := hideit hTN
          go_wp2
          go_loopw [7] (fun i wr => ∃ k : Nat, k ≤ N ∧ i = .int .i64 ((64 * k : Nat) : Int) ∧ L3 w.heap.size g' d T w F (chain F k) wr) (fun i _ => T - (intOf i).toNat)
          case atStart => exact ⟨0, by omega, rfl, HX.out⟩
          case round =>
            clear HX
            obtain ⟨k, hk, rfl, hS⟩ := hrel
            have HS := hideit hS
            clear hS
            by_cases hlt : k < N
            · have hk1 : ((64 * k : Nat) : Int) < (T : Int) := by have := hTN.out; omega
              have hk2 : 64 * k < T := by have := hTN.out; omega
              generalize hat : 64 * k = at_ at *
              replace hat := hideit hat
              go_upto_region 14 with (fail)
              obtain ⟨pb, hpb⟩ : ∃ pb, pb = wr.heap.size := ⟨_, rfl⟩
              have HP : RowAt pb 64 (yv fun _ => 0#8) (wr.alloc (.cells (row 64 (yv fun _ => 0#8)).toArray 26)) := by rw [hpb]; exact RowAt.new wr 64 _ 26
              have HSa := hideit (HS.out.ext ((Below.refl _ _).alloc (Nat.le_refl _) (.cells (row 64 (yv fun _ => 0#8)).toArray 26)))
              have hdp : d < pb := by rw [hpb]; exact HS.out.2.1.2.2
              rw [← hpb]
              replace HP := hideit HP
              clear hpb HS
              generalize wr.alloc (.cells (row 64 (yv fun _ => 0#8)).toArray 26) = Y at *
              go_wp2
              go_loopw [9] (fun i wr => ∃ j : Nat, j ≤ 64 ∧ i = .int .i64 (j : Int) ∧ L3 w.heap.size g' d T w F (chain F k) wr ∧ RowAt pb 64 (yv fun x => if x < j then F (64 * k + x) else 0#8) wr) (fun i _ => 64 - (intOf i).toNat)
              case atStart => exact ⟨0, by omega, rfl, HSa.out, HP.out.congr fun x _ => by simp only [yv]; rw [if_neg (by omega)]⟩
              case round =>
                clear HSa HP
                obtain ⟨j, hj, rfl, hS, hP⟩ := hrel
                have HS := hideit hS
                have HP := hideit hP
                by_cases hlt2 : j < 64
                · have hat' := hat.out
                  have hTN' := hTN.out
                  have e1 := hS.1.1 (at_ + j) (by omega)
                  have e2 := hP.1 j hlt2
                  have g2 := hP.2.1 j hlt2
                  simp only [yv] at e1
                  have a2 : at_ + j < T := by omega
                  clear hS hP hat' hTN'
                  have j0 : (0 : Int) ≤ (j : Int) := by omega
                  have j1 : (j : Int) < 64 := by omega
                  have a0 : (0 : Int) ≤ (at_ : Int) := by omega
                  have a1 : (at_ : Int) + (j : Int) < (T : Int) := by omega
                  have a3 : (T : Int) ≤ 140737488355328 := by omega
                  go_wp2
                  have HI : L3 w.heap.size g' d T w F (chain F k) (wr.setCell ⟨pb, j, none⟩ (.int .u8 ((F (at_ + j)).toNat : Int))) := HS.out.but (but_setCell _ _ _ _) hdp
                  have HJ : RowAt pb 64 (yv fun x => if x < j + 1 then F (64 * k + x) else 0#8) (wr.setCell ⟨pb, j, none⟩ (.int .u8 ((F (at_ + j)).toNat : Int))) := (HP.out.set j _).congr fun x _ => by
                    simp only [yv]
                    by_cases e : x = j
                    · subst e; rw [if_pos rfl, if_pos (by omega), hat.out]
                    · rw [if_neg e]
                      by_cases h : x < j
                      · rw [if_pos h, if_pos (by omega)]
                      · rw [if_neg h, if_neg (by omega)]
                  exact ⟨⟨j + 1, by omega, by go_num, HI, HJ⟩, by simp [intOf]; omega⟩
                · obtain rfl : j = 64 := by omega
                  obtain ⟨pp, hpp⟩ : ∃ pp, pp = fun x => F (64 * k + x) := ⟨_, rfl⟩
                  have HP2 := hideit (hP.congr (g' := yv pp) fun x hx => by simp only [yv]; rw [if_pos hx, hpp])
                  have hrb := rblock_any (chain F k) pp wr
                  have hs2 : blockF (chain F k) pp = chain F (k + 1) := by rw [hpp]; rfl
                  rw [hs2] at hrb
                  clear hS hP HP hs2
                  replace hrb := hideit hrb
                  generalize hs1 : chain F (k + 1) = s1 at *
                  generalize hs0 : chain F k = s0 at *
                  replace hs1 := hideit hs1
                  clear hs0 hpp
                  go_upto_region 18 with (fail)
                  refine wp_region_lit ?_
                  refine wpList_load_mid rfl 141 (.tmp 6) rfl d 0 rfl (row 8 (wv s0)) _ HS.out.2.1.range Tryz.underlying141 rfl (by rw [row_length]; exact info28) ?_
                  refine wpList_load_mid rfl 26 (.tmp 8) rfl pb 0 rfl (row 64 (yv pp)) _ HP2.out.range Tryz.underlying26 rfl (by rw [row_length]; exact info29) ?_
                  simp only [zp0, zp1, zp2, zp3]
                  refine wpList_call rfl (by simp [go_sem]) (hrb.out.mono ?_)
                  rintro e V ⟨rfl, hV⟩
                  refine ⟨_, rfl, ?_⟩
                  simp only [zp0, zp1, zp2, zp3]
                  have HV := hideit (HS.out.ext hV)
                  clear hrb hV HS HP2
                  refine wpList_store_mid rfl 141 (.tmp 6) (.tmp 62) rfl d 0 (row 8 (wv s1)).toArray rfl rfl (by rw [row_size]; exact HV.out.2.1.there) (by rw [row_size]; exact info28) (row_one fun _ _ => rfl) ?_
                  have HV1 := hideit (HV.out.setS s1)
                  clear HV
                  generalize V.setCells d 0 (row 8 (wv s1)) = V1 at *
                  simp only [Act.put]
                  have a0 : (0 : Int) ≤ (at_ : Int) := by omega
                  have a3 : (at_ : Int) ≤ 140737488355328 := by omega
                  go_wp2
                  go_roundw
                  case rel =>
                    have HQ : L3 w.heap.size g' d T w F (chain F (k + 1)) V1 := by rw [hs1.out]; exact HV1.out
                    have hi : Value.int .i64 ((at_ : Int) + 64) = .int .i64 ((64 * (k + 1) : Nat) : Int) := by have := hat.out; congr 1; omega
                    first | exact ⟨(k + 1 : Nat), by omega, hi, HQ⟩ | ((repeat apply Exists.intro); exact ⟨⟨k + 1, by omega, hi, HQ⟩, rfl⟩)
                  case measure =>
                    have h1 := hat.out
                    simp [intOf]
                    omega
            · obtain rfl : k = N := by omega
              have hk1 : ¬ (((64 * k : Nat) : Int) < (T : Int)) := by have := hTN.out; omega
              have hk2 : ¬ (64 * k < T) := by have := hTN.out; omega
              generalize hat : 64 * k = at_ at *
              clear hat
              have hfin : digF (chain F k) = R := by
                rw [hR.out, hN.out, hF.out]
                rfl
              replace hfin := hideit hfin
              clear hz9
              generalize chain F k = s1 at *
              go_upto_region 20 with (fail)
              obtain ⟨ob, hob⟩ : ∃ ob, ob = wr.heap.size := ⟨_, rfl⟩
              have HP : RowAt ob 32 (yv fun _ => 0#8) (wr.alloc (.cells (row 32 (yv fun _ => 0#8)).toArray 22)) := by rw [hob]; exact RowAt.new wr 32 _ 22
              have HSa := hideit (HS.out.ext ((Below.refl _ _).alloc (Nat.le_refl _) (.cells (row 32 (yv fun _ => 0#8)).toArray 22)))
              have hdo : d < ob := by rw [hob]; exact HS.out.2.1.2.2
              rw [← hob]
              replace HP := hideit HP
              clear hob HS hz
              generalize wr.alloc (.cells (row 32 (yv fun _ => 0#8)).toArray 22) = Y at *
              go_wp2
              go_loopw [11] (fun i wr => ∃ j : Nat, j ≤ 32 ∧ i = .int .i64 (j : Int) ∧ L3 w.heap.size g' d T w F s1 wr ∧ RowAt ob 32 (yv fun x => if x < j then digF s1 x else 0#8) wr) (fun i _ => 32 - (intOf i).toNat)
              case atStart => exact ⟨0, by omega, rfl, HSa.out, HP.out.congr fun x _ => by simp only [yv]; rw [if_neg (by omega)]⟩
              case round =>
                clear HSa HP
                obtain ⟨j, hj, rfl, hS, hP⟩ := hrel
                have HS := hideit hS
                have HP := hideit hP
                by_cases hlt2 : j < 32
                · have e1 := hS.2.1.1 (j / 4) (by omega)
                  have e2 := hP.1 j hlt2
                  have g2 := hP.2.1 j hlt2
                  clear hS hP
                  simp only [wv] at e1
                  have j0 : (0 : Int) ≤ (j : Int) := by omega
                  have j1 : (j : Int) < 32 := by omega
                  have b1 := (s1 (j / 4)).isLt
                  go_wp2
                  rw [dig_fact]
                  refine ⟨⟨j + 1, by omega, by go_num, HS.out.but (but_setCell _ _ _ _) hdo, (HP.out.set j _).congr fun x _ => ?_⟩, by simp [intOf]; omega⟩
                  simp only [yv]
                  by_cases e : x = j
                  · subst e; rw [if_pos rfl, if_pos (by omega)]; rfl
                  · rw [if_neg e]
                    by_cases h : x < j
                    · rw [if_pos h, if_pos (by omega)]
                    · rw [if_neg h, if_neg (by omega)]
                · obtain rfl : j = 32 := by omega
                  have HP2 := hideit (hP.congr (g' := yv R) fun x hx => by simp only [yv]; rw [if_pos hx, hfin.out])
                  have HR0 := hideit hS.2.2.1
                  have hB := hideit hS.2.2.2.1
                  clear hS hP HS HP
                  go_wp2_with (first | (refine wpList_load_mid rfl 22 (.tmp 10) rfl _ 0 rfl (row 32 (yv R)) _ HP2.out.range Tryz.underlying22 rfl (by rw [row_length]; exact info24) ?_) | (refine wpList_store_mid rfl 22 (.tmp 2) (.tmp 79) rfl _ 0 (row 32 (yv R)).toArray rfl rfl (by rw [row_size]; exact HR0.out.there) (by rw [row_size]; exact info24) (row_one fun _ _ => rfl) ?_))
                  exact bodyPost_ret (ret_row Tryz.results56 rfl (HR0.out.cells (g' := yv R)) Tryz.underlying22 rfl info24) rfl ⟨rfl, below_setCells _ (Nat.le_refl _) _ _ _ hB.out⟩
    · have hq1 : (((n : Int) % 64) != 56) = true := by rw [bne_iff_ne]; omega
      go_upto_region 3 with (fail)
      refine wp_region_lit ?_
      refine wpList_run rfl (.slice (some ⟨g, 0, none⟩) n cp) (by simp [go_sem]) ?_
      simp only [zp0, zp1, zp2, zp3]
      refine wpList_to rfl (.slice (some ⟨wr.heap.size, 0, none⟩) 1 1) (wr.alloc (.cells #[.int .u8 0] 5)) (by simp [go_sem]) ?_
      simp only [zp0, zp1, zp2, zp3]
      refine wpList_grow (n := n) (base := w.heap.size + 1) elem22 rfl (.tmp 21) (.tmp 22) rfl rfl (HS.out.alloc _).1 ⟨wr.heap.size, 0, none⟩ 1 1 (yv fun _ => 0#8) (yv F) rfl (lie1 wr _ (0#8) (by rfl)) (fun _ _ => rfl) (fun j hj => rfl) (fun j hj => by
        obtain rfl : j = 0 := by omega
        simp only [yv]; rw [hF.out]; have h1 := HT.out; have h2 := hTT.out; unfold fillF; rw [Nat.add_zero, if_neg (by omega), if_neg (by omega), if_pos (by omega)]) (by have := HT.out; omega) (by have := Below.size HS.out.2.2.1; simp; have := HS.out.2.1.2.2; omega) ?_
      intro v3 w3 hO3 hg3
      have HS3 := hideit ((HS.out.alloc _).grow hg3 hO3)
      clear hO3 hg3 HS
      simp only [zp0, zp1, zp2, zp3]
      go_wp2
      go_roundw
      case rel =>
        first | exact ⟨(n + 1 : Nat), by omega, by have := HT.out; omega, HS3.out⟩ | ((repeat apply Exists.intro); exact ⟨⟨n + 1, by omega, by have := HT.out; omega, HS3.out⟩, rfl⟩)
      case measure =>
        obtain ⟨g3, cp3, hv3, _⟩ := HS3.out.1.lies (by omega)
        subst hv3
        have := HT.out
        show T - (n + 1) < T - n
        omega
end Go.Proofs.YtfpfgbhdehbggaaGreatDoor
namespace Go.Proofs.YtfpfgbhdehbggaaGreatDoor
set_option maxRecDepth 20000
open Go.RowKit Go.BigFrame
def BV (v : Value) (l : Nat) (b : Nat → BitVec 8) (w : World) : Prop := (v = .slice none 0 0 ∧ l = 0) ∨ ∃ a cap, v = .slice (some a) l cap ∧ l ≤ cap ∧ LieAt a l (yv b) w
theorem BV.ext {v : Value} {l : Nat} {b : Nat → BitVec 8} {w X : World} (h : BV v l b w) (k : Ext w X) : BV v l b X := by
  rcases h with h | ⟨a, cap, h1, h2, h3⟩
  · exact .inl h
  · exact .inr ⟨a, cap, h1, h2, h3.carry k⟩
theorem BArg.bv {v : Value} {w : World} (h : BArg v w) : ∃ l b, BV v l b w ∧ l ≤ 140737488351232 := by
  rcases h with rfl | ⟨a, l, cap, b, rfl, hl, hb, hm⟩
  · exact ⟨0, fun _ => 0#8, .inl ⟨rfl, rfl⟩, by omega⟩
  · exact ⟨l, b, .inr ⟨a, cap, rfl, hl, hb⟩, hm⟩
theorem OwnB.bv {base : Nat} {v : Value} {l : Nat} {b : Nat → BitVec 8} {w : World} (h : OwnB base 5 v l (yv b) w) : BV v l b w := by
  rcases Nat.eq_zero_or_pos l with h0 | h0
  · subst h0
    rcases h.2 with ⟨rfl, _⟩ | ⟨g, cap, cur, rfl, _, hg, hc, _⟩
    · exact .inl ⟨rfl, rfl⟩
    · exact .inr ⟨_, cap, rfl, hc, fun j hj => by omega, (Array.getElem?_eq_some_iff.1 hg).1⟩
  · obtain ⟨g, cap, rfl, _, hc, _, hR⟩ := h.lies h0
    refine .inr ⟨_, cap, rfl, hc, fun j hj => ?_, hR.2.2⟩
    have hadd : (⟨g, 0, none⟩ : Addr).add j = ⟨g, j, none⟩ := by unfold Addr.add; split <;> simp_all
    rw [hadd]
    exact hR.1 j hj
theorem rsumV (v : Value) (l : Nat) (b : Nat → BitVec 8) (w : World) (h : BV v l b w) (hl : l ≤ 140737488355000) : Calls Tryz.prog 56 #[v] w fun e w' => e = .returned (.agg (row 32 (yv (shaF b l))).toArray) ∧ Below w.heap.size w w' := by
  rcases h with ⟨rfl, rfl⟩ | ⟨a, cap, rfl, h2, h3⟩
  · have := rsum_none w
    rwa [shaF_congr (fun _ => 0#8) b 0 (fun j hj => by omega)] at this
  · exact rsum_any l cap b a w h3 hl
theorem loadLie {P : Program} {a : Addr} {n : Nat} {g : Nat → Value} {w : World} (h : LieAt a n g w) : (loadCells a n).run P w = .ok (row n g).toArray w := by
  have := run_loadCells_list (P := P) w a (row n g) (fun j v hv => by
    obtain ⟨hj, rfl⟩ := row_some hv
    exact h.1 j hj)
  rwa [row_length] at this
theorem convV (v : Value) (l : Nat) (b : Nat → BitVec 8) (w : World) (h : BV v l b w) : (convert 25 9 v).run Tryz.prog w = .ok (.string (bstr l fun j => ((b j).toNat : Int))) w := by
  rcases h with ⟨rfl, rfl⟩ | ⟨a, cap, rfl, h2, h3⟩
  · rw [run_convert_bytes_string w 25 9 5 _ _ _ Tryz.underlying25 Tryz.underlying5 Tryz.underlying9]
    rfl
  · rw [run_convert_bytes_string w 25 9 5 _ _ _ Tryz.underlying25 Tryz.underlying5 Tryz.underlying9]
    refine run_bytesToString w _ l cap ((List.range l).map fun j => ((b j).toNat : Int)) ?_
    rw [loadLie h3, List.map_map]
    rfl
end Go.Proofs.YtfpfgbhdehbggaaGreatDoor
namespace Go.Proofs.YtfpfgbhdehbggaaGreatDoor
set_option maxRecDepth 20000
open Go.RowKit Go.BigFrame
def atF (l : Nat) (D : Nat → BitVec 8) (i : Nat) : BitVec 8 := if i < l then D i else 0#8
theorem or_nat (a b : Nat) (ha : a < 2 ^ 62) (hb : b < 2 ^ 62) : bits .or .i64 (a : Int) (b : Int) = ((a ||| b : Nat) : Int) := by
  have h1 : (BitVec.ofInt 64 (a : Int)).toNat = a := by rw [BitVec.ofInt_natCast, BitVec.toNat_ofNat]; exact Nat.mod_eq_of_lt (by omega)
  have h2 : (BitVec.ofInt 64 (b : Int)).toNat = b := by rw [BitVec.ofInt_natCast, BitVec.toNat_ofNat]; exact Nat.mod_eq_of_lt (by omega)
  have h3 : a ||| b < 2 ^ 62 := Nat.or_lt_two_pow ha hb
  show IntKind.i64.wrap ((BitVec.ofInt 64 (a : Int) ||| BitVec.ofInt 64 (b : Int)).toNat : Int) = _
  rw [BitVec.toNat_or, h1, h2, IntKind.wrap_i64]
  omega
theorem xor_nat (a b : Nat) (ha : a < 2 ^ 62) (hb : b < 2 ^ 62) : bits .xor .i64 (a : Int) (b : Int) = ((a ^^^ b : Nat) : Int) := by
  have h1 : (BitVec.ofInt 64 (a : Int)).toNat = a := by rw [BitVec.ofInt_natCast, BitVec.toNat_ofNat]; exact Nat.mod_eq_of_lt (by omega)
  have h2 : (BitVec.ofInt 64 (b : Int)).toNat = b := by rw [BitVec.ofInt_natCast, BitVec.toNat_ofNat]; exact Nat.mod_eq_of_lt (by omega)
  have h3 : a ^^^ b < 2 ^ 62 := Nat.xor_lt_two_pow ha hb
  show IntKind.i64.wrap ((BitVec.ofInt 64 (a : Int) ^^^ BitVec.ofInt 64 (b : Int)).toNat : Int) = _
  rw [BitVec.toNat_xor, h1, h2, IntKind.wrap_i64]
  omega
set_option maxRecDepth 20000 in
theorem byteAt_any (v : Value) (l : Nat) (D : Nat → BitVec 8) (i : Nat) (w : World) (h : BV v l D w) :
    Calls Tryz.prog 50 #[v, .int .i64 (i : Int)] w fun e w' => e = .returned (.int .u8 ((atF l D i).toNat : Int)) ∧ w' = w := by
  rcases h with ⟨rfl, rfl⟩ | ⟨a, cap, rfl, hc, hl⟩
  · have i0 : (0 : Int) ≤ (i : Int) := by omega
    go_enter Tryz.func50, Tryz.ntmps50
    go_wp2
    go_ret
    exact ⟨rfl, rfl⟩
  · by_cases hi : i < l
    · have i1 : ¬ (l : Int) ≤ (i : Int) := by omega
      have i2 : (i : Int) < (l : Int) := by omega
      have hcell := hl.1 i hi
      unfold atF
      rw [if_pos hi]
      go_enter Tryz.func50, Tryz.ntmps50
      go_wp2
      go_ret
      exact ⟨rfl, rfl⟩
    · have i1 : (l : Int) ≤ (i : Int) := by omega
      unfold atF
      rw [if_neg hi]
      go_enter Tryz.func50, Tryz.ntmps50
      go_wp2
      go_ret
      exact ⟨rfl, rfl⟩
def xE8 (a b : BitVec 8) : BitVec 8 := a ^^^ b
theorem xor8' (a b : BitVec 8) : bits .xor .u8 (a.toNat : Int) (b.toNat : Int) = ((xE8 a b).toNat : Int) := by
  rw [u8_xor_nat _ _ a.isLt b.isLt, xE8, BitVec.toNat_xor]
theorem xE8_zero (a b : BitVec 8) : (xE8 a b).toNat = 0 ↔ a = b := by
  unfold xE8
  constructor
  · intro h
    have h1 : a ^^^ b = 0#8 := BitVec.eq_of_toNat_eq (by rw [h]; rfl)
    have h2 : a ^^^ (a ^^^ b) = a ^^^ 0#8 := by rw [h1]
    rw [← BitVec.xor_assoc, BitVec.xor_self, BitVec.zero_xor, BitVec.xor_zero] at h2
    exact h2.symm
  · rintro rfl
    rw [BitVec.xor_self]; rfl
theorem or_zero (a b : Nat) : a ||| b = 0 ↔ a = 0 ∧ b = 0 := by
  constructor
  · intro h
    have ha : a ≤ a ||| b := Nat.left_le_or
    have hb : b ≤ a ||| b := Nat.right_le_or
    omega
  · rintro ⟨rfl, rfl⟩; rfl
theorem xor_zero (a b : Nat) : a ^^^ b = 0 ↔ a = b := by
  constructor
  · intro h
    have h2 : a ^^^ (a ^^^ b) = a ^^^ 0 := by rw [h]
    rw [← Nat.xor_assoc, Nat.xor_self, Nat.zero_xor, Nat.xor_zero] at h2
    exact h2.symm
  · rintro rfl; exact Nat.xor_self _
set_option maxRecDepth 20000 in
set_option maxHeartbeats 1000000 in
theorem equal_any (v1 v2 : Value) (l1 l2 : Nat) (D1 D2 : Nat → BitVec 8) (w : World) (h1 : BV v1 l1 D1 w) (h2 : BV v2 l2 D2 w) (hb1 : l1 ≤ 140737488351232) (hb2 : l2 ≤ 140737488351232) (r : Bool) (hr : r = true ↔ l1 = l2 ∧ ∀ j, j < l1 → D1 j = D2 j) :
    Calls Tryz.prog 24 #[v1, v2] w fun e w' => e = .returned (.bool r) ∧ w' = w := by
  obtain ⟨a1, p1, e1⟩ : ∃ a p, v1 = .slice a l1 p := by
    rcases h1 with ⟨h, h0⟩ | ⟨a, cap, h, _⟩
    · exact ⟨none, 0, by rw [h, h0]⟩
    · exact ⟨_, cap, h⟩
  obtain ⟨a2, p2, e2⟩ : ∃ a p, v2 = .slice a l2 p := by
    rcases h2 with ⟨h, h0⟩ | ⟨a, cap, h, _⟩
    · exact ⟨none, 0, by rw [h, h0]⟩
    · exact ⟨_, cap, h⟩
  subst e1 e2
  have hy1 := hideit (fun i : Nat => byteAt_any _ l1 D1 i w h1)
  have hy2 := hideit (fun i : Nat => byteAt_any _ l2 D2 i w h2)
  clear h1 h2
  have hx := xor_nat l1 l2 (by omega) (by omega)
  have hxl : l1 ^^^ l2 < 2 ^ 62 := Nat.xor_lt_two_pow (by omega) (by omega)
  have hxz := hideit (xor_zero l1 l2)
  replace hr := hideit hr
  generalize l1 ^^^ l2 = X0 at *
  rcases Nat.lt_or_ge l1 l2 with hc | hc
  · have k1 : (l1 : Int) < (l2 : Int) := by omega
    have k2 : ¬ (l2 : Int) < (l1 : Int) := by omega
    have k3 : ¬ (l2 : Int) ≤ (l1 : Int) := by omega
    have k4 : (l1 : Int) ≤ (l2 : Int) := by omega
    go_enter Tryz.func24, Tryz.ntmps24
    go_wp2
    go_loop [5, 17] (fun x i => ∃ n X : Nat, n ≤ l2 ∧ i = .int .i64 n ∧ x = .int .i64 X ∧ X < 2 ^ 62 ∧ (X = 0 ↔ l1 = l2 ∧ ∀ j, j < n → atF l1 D1 j = atF l2 D2 j)) (fun _ i => l2 - (intOf i).toNat)
    case atStart => exact ⟨0, X0, Nat.zero_le _, rfl, rfl, hxl, hxz.out.trans ⟨fun h => ⟨h, fun j hj => absurd hj (by omega)⟩, fun h => h.1⟩⟩
    case round =>
      obtain ⟨n, X, hn, rfl, rfl, hX, hz⟩ := hrel
      by_cases hlt : n < l2
      · have j1 : (n : Int) < (l2 : Int) := by omega
        replace hz := hideit hz
        have hx8 := xor8' (atF l1 D1 n) (atF l2 D2 n)
        have hz8 := hideit (xE8_zero (atF l1 D1 n) (atF l2 D2 n))
        have hlt8 : (xE8 (atF l1 D1 n) (atF l2 D2 n)).toNat < 256 := (xE8 (atF l1 D1 n) (atF l2 D2 n)).isLt
        generalize (xE8 (atF l1 D1 n) (atF l2 D2 n)).toNat = y at *
        have ho := or_nat X y hX (by omega)
        have hol : X ||| y < 2 ^ 62 := Nat.or_lt_two_pow hX (by omega)
        have hoz := hideit (or_zero X y)
        generalize X ||| y = Z at *
        go_wp2_with (go_at_call 50; first | (refine (hy1.out n).mono ?_; rintro e w1 ⟨rfl, rfl⟩; clear hy1) | (refine (hy2.out n).mono ?_; rintro e w1 ⟨rfl, rfl⟩))
        go_round
        case rel =>
          refine ⟨n + 1, Z, by omega, by go_num, rfl, hol, ?_⟩
          rw [hoz.out, hz.out, hz8.out]
          constructor
          · rintro ⟨⟨h1, h2⟩, h3⟩
            refine ⟨h1, fun j hj => ?_⟩
            rcases Nat.lt_or_ge j n with h | h
            · exact h2 j h
            · rw [show j = n by omega]; exact h3
          · rintro ⟨h1, h2⟩
            exact ⟨⟨h1, fun j hj => h2 j (by omega)⟩, h2 n (by omega)⟩
        case measure => simp [intOf]; omega
      · have j1 : ¬ (n : Int) < (l2 : Int) := by omega
        have hv : ((X : Int) == 0) = r := by
          have : (X = 0 ↔ r = true) := hz.trans (Iff.trans ⟨fun ⟨a, b⟩ => ⟨a, fun j hj => by have := b j (by omega); unfold atF at this; rwa [if_pos hj, if_pos (by omega)] at this⟩, fun ⟨a, b⟩ => ⟨a, fun j hj => by unfold atF; subst a; by_cases h : j < l1 <;> simp [h]; exact b j h⟩⟩ hr.out.symm)
          cases r <;> simp_all <;> omega
        clear hz hr
        go_wp2
        go_ret
        exact ⟨rfl, rfl⟩
  · have k1 : ¬ (l1 : Int) < (l2 : Int) := by omega
    have k3 : (l2 : Int) ≤ (l1 : Int) := by omega
    go_enter Tryz.func24, Tryz.ntmps24
    go_wp2
    go_loop [5, 17] (fun x i => ∃ n X : Nat, n ≤ l1 ∧ i = .int .i64 n ∧ x = .int .i64 X ∧ X < 2 ^ 62 ∧ (X = 0 ↔ l1 = l2 ∧ ∀ j, j < n → atF l1 D1 j = atF l2 D2 j)) (fun _ i => l1 - (intOf i).toNat)
    case atStart => exact ⟨0, X0, Nat.zero_le _, rfl, rfl, hxl, hxz.out.trans ⟨fun h => ⟨h, fun j hj => absurd hj (by omega)⟩, fun h => h.1⟩⟩
    case round =>
      obtain ⟨n, X, hn, rfl, rfl, hX, hz⟩ := hrel
      by_cases hlt : n < l1
      · have j1 : (n : Int) < (l1 : Int) := by omega
        replace hz := hideit hz
        have hx8 := xor8' (atF l1 D1 n) (atF l2 D2 n)
        have hz8 := hideit (xE8_zero (atF l1 D1 n) (atF l2 D2 n))
        have hlt8 : (xE8 (atF l1 D1 n) (atF l2 D2 n)).toNat < 256 := (xE8 (atF l1 D1 n) (atF l2 D2 n)).isLt
        generalize (xE8 (atF l1 D1 n) (atF l2 D2 n)).toNat = y at *
        have ho := or_nat X y hX (by omega)
        have hol : X ||| y < 2 ^ 62 := Nat.or_lt_two_pow hX (by omega)
        have hoz := hideit (or_zero X y)
        generalize X ||| y = Z at *
        go_wp2_with (go_at_call 50; first | (refine (hy1.out n).mono ?_; rintro e w1 ⟨rfl, rfl⟩; clear hy1) | (refine (hy2.out n).mono ?_; rintro e w1 ⟨rfl, rfl⟩))
        go_round
        case rel =>
          refine ⟨n + 1, Z, by omega, by go_num, rfl, hol, ?_⟩
          rw [hoz.out, hz.out, hz8.out]
          constructor
          · rintro ⟨⟨h1, h2⟩, h3⟩
            refine ⟨h1, fun j hj => ?_⟩
            rcases Nat.lt_or_ge j n with h | h
            · exact h2 j h
            · rw [show j = n by omega]; exact h3
          · rintro ⟨h1, h2⟩
            exact ⟨⟨h1, fun j hj => h2 j (by omega)⟩, h2 n (by omega)⟩
        case measure => simp [intOf]; omega
      · have j1 : ¬ (n : Int) < (l1 : Int) := by omega
        have hv : ((X : Int) == 0) = r := by
          have : (X = 0 ↔ r = true) := hz.trans (Iff.trans ⟨fun ⟨a, b⟩ => ⟨a, fun j hj => by have := b j (by omega); unfold atF at this; rwa [if_pos hj, if_pos (by omega)] at this⟩, fun ⟨a, b⟩ => ⟨a, fun j hj => by unfold atF; subst a; by_cases h : j < l1 <;> simp [h]; exact b j h⟩⟩ hr.out.symm)
          cases r <;> simp_all <;> omega
        clear hz hr
        go_wp2
        go_ret
        exact ⟨rfl, rfl⟩
end Go.Proofs.YtfpfgbhdehbggaaGreatDoor
