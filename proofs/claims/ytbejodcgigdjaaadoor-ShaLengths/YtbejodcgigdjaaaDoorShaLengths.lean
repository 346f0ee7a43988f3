/-
  For every integer and every byte the law ShaLengths returns true, and its arguments read behind the call as they read before; the package-level table of constants is laid as the program text lays it. No other condition.
-/
import Derived.Test.YtbejodcgigdjaaaDoorCards
import Derived.Test.YtbejodcgigdjaaaDoorTie
import Derived.WalkKit
import Derived.ProofKit
import Derived.OpenShut
import Derived.ShutString
import Derived.ChangeOld
import Derived.Below
import Derived.Deep.DeepHandedRow
import Derived.Lib.LaidTab
import Derived.Test.YtbejodcgigdjaaaDoorBV
import Derived.OwnWalk
namespace Go.Proofs.YtbejodcgigdjaaaDoor.shaLengths
open Go.ChangeShapes Go.WideShapes Go.ChangeAt Go.RowKit
set_option linter.unusedVariables false

theorem own : ownKnob Tryd.prog.godebug = none := by kernel_rfl
theorem laidOut : laidOutB Tryd.prog = true := by kernel_rfl
theorem gTab : Tryd.prog.globalNamed "casket/sha.constants" = some 0 := by kernel_rfl
theorem gTabType : (Tryd.prog.globals[0]?).map (·.type) = some 42 := by kernel_rfl
theorem cellsG : Tryd.prog.cellsOf 42 = 64 := by kernel_rfl
theorem cellsE : Tryd.prog.cellsOf 27 = 1 := by kernel_rfl
def tabL : List Int := [1116352408, 1899447441, 3049323471, 3921009573, 961987163, 1508970993, 2453635748, 2870763221, 3624381080, 310598401, 607225278, 1426881987, 1925078388, 2162078206, 2614888103, 3248222580, 3835390401, 4022224774, 264347078, 604807628, 770255983, 1249150122, 1555081692, 1996064986, 2554220882, 2821834349, 2952996808, 3210313671, 3336571891, 3584528711, 113926993, 338241895, 666307205, 773529912, 1294757372, 1396182291, 1695183700, 1986661051, 2177026350, 2456956037, 2730485921, 2820302411, 3259730800, 3345764771, 3516065817, 3600352804, 4094571909, 275423344, 430227734, 506948616, 659060556, 883997877, 958139571, 1322822218, 1537002063, 1747873779, 1955562222, 2024104815, 2227730452, 2361852424, 2428436474, 2756734187, 3204031479, 3329325298]
theorem table {W : World} (h : laidMetH Tryd.prog Rows.shaLengthsRow.laid W) : Lib.TabIs Tryd.prog W "casket/sha.constants" .u32 tabL :=
  Lib.tabIs_of_head (rest := []) gTab gTabType Tryd.underlying42 Tryd.underlying27 cellsE cellsG h
theorem tab_kT : ∀ j, j < 64 → tabL.getD j 0 = ((kT j).toNat : Int) := by decide +kernel
theorem tabC {W : World} (h : laidMetH Tryd.prog Rows.shaLengthsRow.laid W) (h0 : 0 < W.heap.size) : TabC W :=
  ⟨fun j hj => by
    rw [← tab_kT j hj]
    exact (table h).cell gTab j hj, h0⟩

open Go.BigFrame
theorem tmod_lt (n : Int) : -300 < n.tmod 300 ∧ n.tmod 300 < 300 := by
  have h := Int.natAbs_tmod n 300
  have h2 := Nat.mod_lt n.natAbs (show 0 < (300 : Int).natAbs by decide)
  rw [← h] at h2
  have h3 : (300 : Int).natAbs = 300 := rfl
  omega
theorem made_row (k : Nat) : (madeCells (Value.int .u8 0).cells (k * 1)).toList = row k (yv fun _ => 0#8) := by
  apply List.ext_getElem?
  intro i
  rw [Nat.mul_one]
  by_cases h : i < k
  · rw [row_get k _ i h]
    simp [madeCells, Value.cells, h, Nat.mod_one, yv]
  · rw [List.getElem?_eq_none (by simp [madeCells]; omega), List.getElem?_eq_none (by rw [row_length]; omega)]
theorem own_row {base : Nat} {e : TypeId} {b n cap : Nat} {g : Nat → Value} {w : World} (h : w.ownsRow base e 1 (.slice (some ⟨b, 0, none⟩) n cap) n (row n g)) : RowAt b n g w := by
  rcases h.2 with ⟨h1, _⟩ | ⟨b', cap', cur, h1, _, hg, _⟩
  · cases h1
  · injection h1 with h1 h2 h3
    injection h1 with h1
    injection h1 with h1
    subst h1
    refine ⟨fun j hj => ?_, fun j hj => ?_, (Array.getElem?_eq_some_iff.1 hg).1⟩
    · have h1 := World.ownsRow.cells h (g := b) rfl j (g j) (row_get n g j hj)
      have hadd : (⟨b, 0, none⟩ : Addr).add j = ⟨b, j, none⟩ := by unfold Addr.add; split <;> simp_all
      rwa [hadd] at h1
    · simp [World.frozen?, hg]
theorem lie_row {b n : Nat} {g : Nat → Value} {w : World} (h : RowAt b n g w) : LieAt ⟨b, 0, none⟩ n g w := ⟨fun j hj => by
  have hadd : (⟨b, 0, none⟩ : Addr).add j = ⟨b, j, none⟩ := by unfold Addr.add; split <;> simp_all
  rw [hadd]
  exact h.1 j hj, h.2.2⟩
theorem cutS (g q p : Nat) (h : p < q) (X : World) : (Instr.slice 22 (.slice (some ⟨g, 0, none⟩) q q) (some (.int .i64 (p : Int))) (some (.int .i64 ((p : Int) + 1))) none).run Tryd.prog X = .ok (.slice (some ⟨g, p, none⟩) 1 (q - p)) X := by
  have h2 : Tryd.prog.elem 22 = 5 := by kernel_rfl
  rw [run_slice_lh X 22 (some ⟨g, 0, none⟩) q q (by rw [h2]; exact Tryd.underlying22) .i64 .i64 (p : Int) ((p : Int) + 1) (by omega) (by omega) (by omega)]
  rw [h2, sz5]
  simp only [Result.andThen_ok, sliced, Int.toNat_natCast, Nat.mul_one]
  rw [if_neg (by omega), show ((p : Int) + 1).toNat - p = 1 by omega]
  simp only [Option.map_some]
  unfold Addr.add
  split
  · rename_i h0; subst h0; rfl
  · simp
set_option maxRecDepth 20000 in
set_option maxHeartbeats 2000000 in
theorem walk (n : Int) (hn : (Lit.int .i64 n).wf = true) (b : BitVec 8) (w : World) (hC : TabC w) : Calls Tryd.prog 6 #[.int .i64 n, .int .u8 (b.toNat : Int)] w fun e w' => e = .returned (.bool true) ∧ Below w.heap.size w w' := by
  replace hC := hideit hC
  have ht := tmod_lt n
  obtain ⟨t1, t2⟩ := ht
  clear hn
  by_cases hneg : n.tmod 300 < 0
  · go_enter Tryd.func6, Tryd.ntmps6
    go_upto_region 4 with (fail)
    obtain ⟨K, hK⟩ : ∃ K : Nat, -n.tmod 300 = (K : Int) := ⟨(-n.tmod 300).toNat, by omega⟩
    rw [hK]
    have hK3 : (K : Int) < 300 := by omega
    have hK4 : (0 : Int) ≤ (K : Int) := by omega
    refine wp_region_lit ?_
    refine wpList_run rfl (.int .i64 (K : Int)) (by simp [go_sem]) ?_
    simp only [Act.put, List.setIfInBounds_toArray, List.set_cons_zero, List.set_cons_succ]
    obtain ⟨ti, hi1, hi2, hi3, hi4⟩ := info_parts (P := Tryd.prog) (e := 5) (z := .int .u8 0) (size := 1) (bytes := 1) (by kernel_rfl)
    refine wpList_make_full w rfl (.tmp 16) (.tmp 16) 22 rfl w.heap.size 5 ti (.int .u8 0) 1 Tryd.underlying22 hi1 hi2 hi3 .i64 .i64 (K : Int) (K : Int) K rfl rfl rfl rfl (by rw [hi4]; omega) (by unfold maxLen; omega) (Nat.le_refl _) ?_
    intro w1 hO hg1
    rw [made_row K] at hO
    have HR : RowAt w.heap.size K (yv fun j => if j < 0 then b else 0#8) w1 := (own_row hO).congr fun j _ => by simp only [yv]; rw [if_neg (by omega)]
    have HE : Ext w w1 := ⟨hg1.os, hg1.tape, hg1.output, hg1.size, fun k hk => hg1.block k hk (by simp)⟩
    replace HR := hideit HR
    replace HE := hideit HE
    clear hO hg1 hi1 hi2 hi3 hi4 hK t1 t2 hneg
    simp only [Act.put, List.setIfInBounds_toArray, List.set_cons_zero, List.set_cons_succ]
    generalize hgg : w.heap.size = g at *
    replace hgg := hideit hgg
    go_wp2
    go_loopw [7] (fun i wr => ∃ q : Nat, q ≤ K ∧ i = .int .i64 (q : Int) ∧ RowAt g K (yv fun j => if j < q then b else 0#8) wr ∧ Ext w wr) (fun i _ => K - (intOf i).toNat)
    case atStart => exact ⟨0, by omega, rfl, HR.out, HE.out⟩
    case round =>
      clear HR HE
      obtain ⟨q, hq, rfl, hR, hE⟩ := hrel
      have HR := hideit hR
      have HE := hideit hE
      by_cases hlt : q < K
      · have e1 := hR.1 q hlt
        have g1 := hR.2.1 q hlt
        clear hR hE
        have q0 : (0 : Int) ≤ (q : Int) := by omega
        have q1 : (q : Int) < (K : Int) := by omega
        go_wp2
        refine ⟨⟨q + 1, by omega, by go_num, (HR.out.set q _).congr fun j _ => ?_, Below.setCell HE.out (by show w.heap.size ≤ g; have := hgg.out; omega) _⟩, by simp [intOf]; omega⟩
        simp only [yv]
        by_cases e : j = q
        · subst e; rw [if_pos rfl, if_pos (by omega)]
        · rw [if_neg e]
          by_cases h : j < q
          · rw [if_pos h, if_pos (by omega)]
          · rw [if_neg h, if_neg (by omega)]
      · obtain rfl : q = K := by omega
        have HR1 := hideit (hR.congr (g' := yv fun _ => b) fun j hj => by simp only [yv]; rw [if_pos hj])
        have hlv := fun (X : World) (hX : Ext w X) => lives_any X (hC.out.ext hX)
        replace hlv := hideit hlv
        have hq1 : ¬ ((q : Int) < (q : Int)) := by omega
        clear hR hE HR
        go_upto_region 10 with (go_at_call 16; refine (new_any _).mono ?_; rintro e w2 ⟨c, hc, rfl, hH, hE2⟩; have HH := hideit hH; have HE2 := hideit (Ext.trans HE.out hE2); have HR2 := hideit (HR1.out.carry hE2); have hgc : g < c := Nat.lt_of_lt_of_le HR1.out.2.2 hc; clear hH hE2 HE HR1 hc)
        go_upto_region 12 with (go_at_call 9; refine (hlv.out _ HE2.out).mono ?_; rintro e w3 ⟨rfl, hw3⟩; have HE3 := hideit (Ext.trans HE2.out hw3); have HR3 := hideit (HR2.out.carry hw3); have HH3 := hideit (RowAt.carry HH.out hw3); clear hw3 HE2 HR2 HH)
        have HO : HashOf c (fun _ => b) 0 w3 := by
          unfold HashOf
          rw [pend_zero]
          exact HH3.out
        replace HO := hideit HO
        clear HH3 hlv
        go_wp2
        go_loopw [9] (fun i wr => ∃ p : Nat, p ≤ q ∧ i = .int .i64 (p : Int) ∧ HashOf c (fun _ => b) p wr ∧ RowAt g q (yv fun _ => b) wr ∧ Ext w wr) (fun i _ => q - (intOf i).toNat)
        case atStart => exact ⟨0, by omega, rfl, HO.out, HR3.out, HE3.out⟩
        case round =>
          clear HO HR3 HE3
          obtain ⟨p, hp, rfl, hO, hR, hE⟩ := hrel
          have HO := hideit hO
          have HR := hideit hR
          have HE := hideit hE
          clear hO hR hE
          by_cases hlt2 : p < q
          · have p0 : (0 : Int) ≤ (p : Int) := by omega
            have p1 : (p : Int) < (q : Int) := by omega
            have p2 : p < q := hlt2
            have hcut : ∀ X, (Instr.slice 22 (.slice (some ⟨g, 0, none⟩) q q) (some (.int .i64 (p : Int))) (some (.int .i64 ((p : Int) + 1))) none).run Tryd.prog X = .ok (.slice (some ⟨g, p, none⟩) 1 (q - p)) X := cutS g q p hlt2
            have hwq := write_any c p 1 (q - p) (fun _ => b) (fun _ => b) ⟨g, p, none⟩ wr HO.out (hC.out.ext HE.out) ⟨fun j hj => by
              obtain rfl : j = 0 := by omega
              exact HR.out.1 p hlt2, HR.out.2.2⟩ (by omega) (by show g ≠ c; omega) (by omega) (by omega)
            replace hwq := hideit hwq
            go_wp2_with (go_at_call 18; refine hwq.out.mono ?_; rintro e w4 ⟨rfl, h4, hB4⟩; have HO4 := hideit h4; have HR4 := hideit (HR.out.but hB4 (by omega)); have HE4 := hideit (Ext.but HE.out hB4 (by have := hgg.out; omega)); clear h4 hB4 HO HR HE)
            refine ⟨⟨p + 1, by omega, by go_num, HO4.out.congr fun j _ => by unfold catF; split <;> rfl, HR4.out, HE4.out⟩, by simp [intOf]; omega⟩
          · obtain rfl : p = q := by omega
            have hq2 : ¬ ((p : Int) < (p : Int)) := by omega
            obtain ⟨R, hRR⟩ : ∃ R, R = shaF (fun _ => b) p := ⟨_, rfl⟩
            have hbv : ∀ X, Ext wr X → BV (.slice (some ⟨g, 0, none⟩) p p) p (fun _ => b) X := fun X hX => .inr ⟨⟨g, 0, none⟩, p, rfl, Nat.le_refl _, lie_row (HR.out.carry hX)⟩
            have hs1 : ∀ X, Ext wr X → Calls Tryd.prog 10 #[.slice (some ⟨g, 0, none⟩) p p] X fun e w' => e = .returned (.agg (row 32 (yv R)).toArray) ∧ Below X.heap.size X w' := fun X hX => by
              rw [hRR]; exact sumV _ p _ X (hbv X hX) ((hC.out.ext HE.out).ext hX) (by omega)
            have hs2 : ∀ X, Ext wr X → Calls Tryd.prog 11 #[.slice (some ⟨g, 0, none⟩) p p] X fun e w' => e = .returned (.agg (row 32 (yv R)).toArray) ∧ Below X.heap.size X w' := fun X hX => by
              rw [hRR]; exact rsumV _ p _ X (hbv X hX) (by omega)
            have hs3 : ∀ X, Ext wr X → Calls Tryd.prog 19 #[.pointer (some ⟨c, 0, none⟩)] X fun e w' => e = .returned (.agg (row 32 (yv R)).toArray) ∧ Below X.heap.size X w' := fun X hX => by
              rw [hRR]; exact sum_any c p _ X (RowAt.carry HO.out hX) ((hC.out.ext HE.out).ext hX) (by omega)
            replace hs1 := hideit hs1
            replace hs2 := hideit hs2
            replace hs3 := hideit hs3
            have hq := eq24 R
            clear hRR hbv HO HR
            have HX := hideit (Ext.refl wr)
            go_upto_region 16 with (fail)
            refine wp_region_lit ?_
            refine wpList_run rfl (.slice (some ⟨g, 0, none⟩) p p) (by simp [go_sem]) ?_
            simp only [Act.put, List.setIfInBounds_toArray, List.set_cons_zero, List.set_cons_succ]
            refine wpList_call rfl (by simp [go_sem]) ((hs1.out _ HX.out).mono ?_)
            rintro e w5 ⟨rfl, hw5⟩
            refine ⟨_, rfl, ?_⟩
            simp only [Act.put, List.setIfInBounds_toArray, List.set_cons_zero, List.set_cons_succ]
            have HX5 := hideit (Ext.trans HX.out hw5)
            refine wpList_run rfl (.slice (some ⟨g, 0, none⟩) p p) (by simp [go_sem]) ?_
            simp only [Act.put, List.setIfInBounds_toArray, List.set_cons_zero, List.set_cons_succ]
            refine wpList_call rfl (by simp [go_sem]) ((hs2.out _ HX5.out).mono ?_)
            rintro e w6 ⟨rfl, hw6⟩
            refine ⟨_, rfl, ?_⟩
            simp only [Act.put, List.setIfInBounds_toArray, List.set_cons_zero, List.set_cons_succ]
            have HX6 := hideit (Ext.trans HX5.out hw6)
            clear HX HX5 hw5 hw6
            go_wp2_with (first | (go_at_call 19; refine (hs3.out _ HX6.out).mono ?_; rintro e w7 ⟨rfl, hw7⟩; have HX7 := hideit (Ext.trans HX6.out hw7); clear hw7) | (go_at_call 11; refine (hs2.out _ HX7.out).mono ?_; rintro e w8 ⟨rfl, hw8⟩; have HX8 := hideit (Ext.trans HX7.out hw8); clear hw8))
            go_ret
            exact ⟨rfl, Ext.trans HE.out HX8.out⟩
  · go_enter Tryd.func6, Tryd.ntmps6
    go_upto_region 4 with (fail)
    obtain ⟨K, hK⟩ : ∃ K : Nat, n.tmod 300 = (K : Int) := ⟨(n.tmod 300).toNat, by omega⟩
    rw [hK]
    have hK3 : (K : Int) < 300 := by omega
    have hK4 : (0 : Int) ≤ (K : Int) := by omega
    refine wp_region_lit ?_
    refine wpList_run rfl (.int .i64 (K : Int)) (by simp [go_sem]) ?_
    simp only [Act.put, List.setIfInBounds_toArray, List.set_cons_zero, List.set_cons_succ]
    obtain ⟨ti, hi1, hi2, hi3, hi4⟩ := info_parts (P := Tryd.prog) (e := 5) (z := .int .u8 0) (size := 1) (bytes := 1) (by kernel_rfl)
    refine wpList_make_full w rfl (.tmp 16) (.tmp 16) 22 rfl w.heap.size 5 ti (.int .u8 0) 1 Tryd.underlying22 hi1 hi2 hi3 .i64 .i64 (K : Int) (K : Int) K rfl rfl rfl rfl (by rw [hi4]; omega) (by unfold maxLen; omega) (Nat.le_refl _) ?_
    intro w1 hO hg1
    rw [made_row K] at hO
    have HR : RowAt w.heap.size K (yv fun j => if j < 0 then b else 0#8) w1 := (own_row hO).congr fun j _ => by simp only [yv]; rw [if_neg (by omega)]
    have HE : Ext w w1 := ⟨hg1.os, hg1.tape, hg1.output, hg1.size, fun k hk => hg1.block k hk (by simp)⟩
    replace HR := hideit HR
    replace HE := hideit HE
    clear hO hg1 hi1 hi2 hi3 hi4 hK t1 t2 hneg
    simp only [Act.put, List.setIfInBounds_toArray, List.set_cons_zero, List.set_cons_succ]
    generalize hgg : w.heap.size = g at *
    replace hgg := hideit hgg
    go_wp2
    go_loopw [7] (fun i wr => ∃ q : Nat, q ≤ K ∧ i = .int .i64 (q : Int) ∧ RowAt g K (yv fun j => if j < q then b else 0#8) wr ∧ Ext w wr) (fun i _ => K - (intOf i).toNat)
    case atStart => exact ⟨0, by omega, rfl, HR.out, HE.out⟩
    case round =>
      clear HR HE
      obtain ⟨q, hq, rfl, hR, hE⟩ := hrel
      have HR := hideit hR
      have HE := hideit hE
      by_cases hlt : q < K
      · have e1 := hR.1 q hlt
        have g1 := hR.2.1 q hlt
        clear hR hE
        have q0 : (0 : Int) ≤ (q : Int) := by omega
        have q1 : (q : Int) < (K : Int) := by omega
        go_wp2
        refine ⟨⟨q + 1, by omega, by go_num, (HR.out.set q _).congr fun j _ => ?_, Below.setCell HE.out (by show w.heap.size ≤ g; have := hgg.out; omega) _⟩, by simp [intOf]; omega⟩
        simp only [yv]
        by_cases e : j = q
        · subst e; rw [if_pos rfl, if_pos (by omega)]
        · rw [if_neg e]
          by_cases h : j < q
          · rw [if_pos h, if_pos (by omega)]
          · rw [if_neg h, if_neg (by omega)]
      · obtain rfl : q = K := by omega
        have HR1 := hideit (hR.congr (g' := yv fun _ => b) fun j hj => by simp only [yv]; rw [if_pos hj])
        have hlv := fun (X : World) (hX : Ext w X) => lives_any X (hC.out.ext hX)
        replace hlv := hideit hlv
        have hq1 : ¬ ((q : Int) < (q : Int)) := by omega
        clear hR hE HR
        go_upto_region 10 with (go_at_call 16; refine (new_any _).mono ?_; rintro e w2 ⟨c, hc, rfl, hH, hE2⟩; have HH := hideit hH; have HE2 := hideit (Ext.trans HE.out hE2); have HR2 := hideit (HR1.out.carry hE2); have hgc : g < c := Nat.lt_of_lt_of_le HR1.out.2.2 hc; clear hH hE2 HE HR1 hc)
        go_upto_region 12 with (go_at_call 9; refine (hlv.out _ HE2.out).mono ?_; rintro e w3 ⟨rfl, hw3⟩; have HE3 := hideit (Ext.trans HE2.out hw3); have HR3 := hideit (HR2.out.carry hw3); have HH3 := hideit (RowAt.carry HH.out hw3); clear hw3 HE2 HR2 HH)
        have HO : HashOf c (fun _ => b) 0 w3 := by
          unfold HashOf
          rw [pend_zero]
          exact HH3.out
        replace HO := hideit HO
        clear HH3 hlv
        go_wp2
        go_loopw [9] (fun i wr => ∃ p : Nat, p ≤ q ∧ i = .int .i64 (p : Int) ∧ HashOf c (fun _ => b) p wr ∧ RowAt g q (yv fun _ => b) wr ∧ Ext w wr) (fun i _ => q - (intOf i).toNat)
        case atStart => exact ⟨0, by omega, rfl, HO.out, HR3.out, HE3.out⟩
        case round =>
          clear HO HR3 HE3
          obtain ⟨p, hp, rfl, hO, hR, hE⟩ := hrel
          have HO := hideit hO
          have HR := hideit hR
          have HE := hideit hE
          clear hO hR hE
          by_cases hlt2 : p < q
          · have p0 : (0 : Int) ≤ (p : Int) := by omega
            have p1 : (p : Int) < (q : Int) := by omega
            have p2 : p < q := hlt2
            have hcut : ∀ X, (Instr.slice 22 (.slice (some ⟨g, 0, none⟩) q q) (some (.int .i64 (p : Int))) (some (.int .i64 ((p : Int) + 1))) none).run Tryd.prog X = .ok (.slice (some ⟨g, p, none⟩) 1 (q - p)) X := cutS g q p hlt2
            have hwq := write_any c p 1 (q - p) (fun _ => b) (fun _ => b) ⟨g, p, none⟩ wr HO.out (hC.out.ext HE.out) ⟨fun j hj => by
              obtain rfl : j = 0 := by omega
              exact HR.out.1 p hlt2, HR.out.2.2⟩ (by omega) (by show g ≠ c; omega) (by omega) (by omega)
            replace hwq := hideit hwq
            go_wp2_with (go_at_call 18; refine hwq.out.mono ?_; rintro e w4 ⟨rfl, h4, hB4⟩; have HO4 := hideit h4; have HR4 := hideit (HR.out.but hB4 (by omega)); have HE4 := hideit (Ext.but HE.out hB4 (by have := hgg.out; omega)); clear h4 hB4 HO HR HE)
            refine ⟨⟨p + 1, by omega, by go_num, HO4.out.congr fun j _ => by unfold catF; split <;> rfl, HR4.out, HE4.out⟩, by simp [intOf]; omega⟩
          · obtain rfl : p = q := by omega
            have hq2 : ¬ ((p : Int) < (p : Int)) := by omega
            obtain ⟨R, hRR⟩ : ∃ R, R = shaF (fun _ => b) p := ⟨_, rfl⟩
            have hbv : ∀ X, Ext wr X → BV (.slice (some ⟨g, 0, none⟩) p p) p (fun _ => b) X := fun X hX => .inr ⟨⟨g, 0, none⟩, p, rfl, Nat.le_refl _, lie_row (HR.out.carry hX)⟩
            have hs1 : ∀ X, Ext wr X → Calls Tryd.prog 10 #[.slice (some ⟨g, 0, none⟩) p p] X fun e w' => e = .returned (.agg (row 32 (yv R)).toArray) ∧ Below X.heap.size X w' := fun X hX => by
              rw [hRR]; exact sumV _ p _ X (hbv X hX) ((hC.out.ext HE.out).ext hX) (by omega)
            have hs2 : ∀ X, Ext wr X → Calls Tryd.prog 11 #[.slice (some ⟨g, 0, none⟩) p p] X fun e w' => e = .returned (.agg (row 32 (yv R)).toArray) ∧ Below X.heap.size X w' := fun X hX => by
              rw [hRR]; exact rsumV _ p _ X (hbv X hX) (by omega)
            have hs3 : ∀ X, Ext wr X → Calls Tryd.prog 19 #[.pointer (some ⟨c, 0, none⟩)] X fun e w' => e = .returned (.agg (row 32 (yv R)).toArray) ∧ Below X.heap.size X w' := fun X hX => by
              rw [hRR]; exact sum_any c p _ X (RowAt.carry HO.out hX) ((hC.out.ext HE.out).ext hX) (by omega)
            replace hs1 := hideit hs1
            replace hs2 := hideit hs2
            replace hs3 := hideit hs3
            have hq := eq24 R
            clear hRR hbv HO HR
            have HX := hideit (Ext.refl wr)
            go_upto_region 16 with (fail)
            refine wp_region_lit ?_
            refine wpList_run rfl (.slice (some ⟨g, 0, none⟩) p p) (by simp [go_sem]) ?_
            simp only [Act.put, List.setIfInBounds_toArray, List.set_cons_zero, List.set_cons_succ]
            refine wpList_call rfl (by simp [go_sem]) ((hs1.out _ HX.out).mono ?_)
            rintro e w5 ⟨rfl, hw5⟩
            refine ⟨_, rfl, ?_⟩
            simp only [Act.put, List.setIfInBounds_toArray, List.set_cons_zero, List.set_cons_succ]
            have HX5 := hideit (Ext.trans HX.out hw5)
            refine wpList_run rfl (.slice (some ⟨g, 0, none⟩) p p) (by simp [go_sem]) ?_
            simp only [Act.put, List.setIfInBounds_toArray, List.set_cons_zero, List.set_cons_succ]
            refine wpList_call rfl (by simp [go_sem]) ((hs2.out _ HX5.out).mono ?_)
            rintro e w6 ⟨rfl, hw6⟩
            refine ⟨_, rfl, ?_⟩
            simp only [Act.put, List.setIfInBounds_toArray, List.set_cons_zero, List.set_cons_succ]
            have HX6 := hideit (Ext.trans HX5.out hw6)
            clear HX HX5 hw5 hw6
            go_wp2_with (first | (go_at_call 19; refine (hs3.out _ HX6.out).mono ?_; rintro e w7 ⟨rfl, hw7⟩; have HX7 := hideit (Ext.trans HX6.out hw7); clear hw7) | (go_at_call 11; refine (hs2.out _ HX7.out).mono ?_; rintro e w8 ⟨rfl, hw8⟩; have HX8 := hideit (Ext.trans HX7.out hw8); clear hw8))
            go_ret
            exact ⟨rfl, Ext.trans HE.out HX8.out⟩

theorem contract (H : Type) (enc : TypeId × Value → H) (W : World) (base : Nat) (args : Array Value) (ds gs : List (DataW H)) (before : List MemPlace)
    (hval0 : ∀ (j : Nat) t v, Tryd.f6.params[j]? = some t → args[j]? = some v → Value.okWide Tryd.prog W .any base t v)
    (hW : DataW.Whole enc Tryd.prog Tryd.f6.params.toList Rows.shaLengthsSpec.vars false W args.toList ds gs before) (hL : laidMetH Tryd.prog Rows.shaLengthsRow.laid W) :
    Calls Tryd.prog 6 args W fun e W' => ∃ v, e = .returned v ∧ Rows.shaLengthsSpec.post enc Tryd.prog Tryd.f6 false true false false W args v W' := by
  have hval := hval0
  have hW' := hW
  obtain ⟨p, q, hA0, hV, rfl, hfz, hnd⟩ := hW
  have hA : DataW.TrodAll enc Tryd.prog W 0 (fun _ => true) true Tryd.f6.params.toList args.toList ds p := hA0
  rw [Tryd.params6] at hA hval
  obtain ⟨v0, vs0, d0, ds0, p0, q0, hargs, rfl, rfl, h0, r0⟩ := trodAll_cons hA
  obtain ⟨v1, vs1, d1, ds1, p1, q1, rfl, rfl, rfl, h1, r1⟩ := trodAll_cons r0
  obtain ⟨rfl, rfl, rfl⟩ := trodAll_nil r1
  obtain rfl : args = #[v0, v1] := by cases args; simp_all
  obtain ⟨rfl, rfl⟩ := trodVars_none hV
  have h0s : 0 < W.heap.size := by
    have hc := (table hL).cell gTab 0 (by decide)
    rcases Nat.lt_or_ge 0 W.heap.size with h | h
    · exact h
    · exfalso
      have : W.heap[0]? = none := Array.getElem?_eq_none h
      simp [World.cell?, this] at hc
  have hC : TabC W := tabC hL h0s
  have k0 := h0
  have lt0 : ∀ x ∈ p0, x.block < W.heap.size := by obtain ⟨m, hm⟩ := k0; exact DataW.trod_lt m _ _ _ hm
  have k1 := h1
  have lt1 : ∀ x ∈ p1, x.block < W.heap.size := by obtain ⟨m, hm⟩ := k1; exact DataW.trod_lt m _ _ _ hm
  obtain ⟨a0, rfl, rfl, rfl, w0⟩ := open_int Tryd.underlying3 (hval 0 3 v0 rfl rfl) h0
  obtain ⟨n1, rfl, rfl, rfl, w1⟩ := open_int Tryd.underlying5 (hval 1 5 v1 rfl rfl) h1
  obtain ⟨a1, rfl⟩ := of_wf8 w1
  clear hA0 hval0
  refine (walk a0 w0 a1 W  hC).mono fun e W' ⟨he, bel⟩ => ?_
  subst he
  exact ⟨_, rfl, _, _, _, [], _, [], hW', trodAll_mk1 (shut_bool Tryd.underlying4 _), (trodAll_cons_mk (Below.trod laidOut (by kernel_rfl) (of_decide_eq_true (by kernel_rfl)) k0 bel lt0) (trodAll_cons_mk (Below.trod laidOut (by kernel_rfl) (of_decide_eq_true (by kernel_rfl)) k1 bel lt1) trodAll_mk0)), rfl, bel.frame _, fun h => by cases h⟩

def wit : Array Value := #[.int .i64 0, .int .u8 0]
def dat {H : Type} : List (DataW H) := [.lit (.int .i64 0), .lit (.int .u8 0)]
def setTab : Obj → Obj
  | .cells _ t frozen => .cells (tabL.map fun z => Value.int .u32 z).toArray t frozen
  | o => o
theorem laid_met (os : Os) : laidMet Tryd.prog Rows.shaLengthsRow.laid (({ World.holding Tryd.prog os ⟨#[], #[], []⟩ with heap := (World.holding Tryd.prog os ⟨#[], #[], []⟩).heap.modify 0 setTab } : World).forCall (fun _ _ => 0) ⟨#[], wit, []⟩).memory :=
  laidMet_of_run' 8 (by kernel_rfl) (by kernel_rfl)
theorem reads (os : Os) {H : Type} (enc : TypeId × Value → H) : ∃ places, DataW.whole enc Tryd.prog (({ World.holding Tryd.prog os ⟨#[], #[], []⟩ with heap := (World.holding Tryd.prog os ⟨#[], #[], []⟩).heap.modify 0 setTab } : World).forCall (fun _ _ => 0) ⟨#[], wit, []⟩).memory Tryd.f6.params.toList Rows.shaLengthsSpec.vars false wit.toList 8 = some (dat, [], places) :=
  ⟨[], by kernel_rfl⟩

set_option maxRecDepth 100000 in
theorem lifted (os : Os) (started : os.Started) (H : Type) (enc : TypeId × Value → H) (F : Stop.Interp) :
    ReturnsInHanded {} Tryd.checked os 6 .any ((OpenSpec.ofChange Rows.shaLengthsSpec).preRow enc Tryd.prog Tryd.f6 Rows.shaLengthsRow.domain false Rows.shaLengthsRow.laid) (((OpenSpec.ofChange Rows.shaLengthsSpec).at F).post enc Tryd.prog Tryd.f6 false true false false) := by
  obtain ⟨places, hx⟩ := reads os enc
  refine returnsInHanded_of_row (C := Tryd.checked) (s := (OpenSpec.ofChange Rows.shaLengthsSpec)) own started (by kernel_rfl) Tryd.func6
    (witness_row_at (enc := enc) (C := Tryd.checked) false ({ World.holding Tryd.prog os ⟨#[], #[], []⟩ with heap := (World.holding Tryd.prog os ⟨#[], #[], []⟩).heap.modify 0 setTab } : World) wit rfl (by kernel_rfl) (by kernel_rfl) (by kernel_rfl)
      (OpenSpec.preRow_of_cond 8 hx (by kernel_rfl) (fun k hk => by cases hk) (by kernel_rfl) (laid_met os))) ?_
  intro W base args ds gs before hval hW _ hcond hsz hL _ _
  exact contract H enc W base args ds gs before hval hW hL

theorem said : Rows.ShaLengthsSaid :=
  OpenClaim.holds_of_cond 6 Tryd.f6 rfl rfl rfl rfl rfl rfl rfl ⟨rfl, rfl, rfl, rfl, rfl⟩ rfl rfl rfl rfl rfl (by kernel_rfl) Tryd.func6 (by kernel_rfl)
    (of_decide_eq_true (by kernel_rfl)) (by unfold Func.isWrapper; first | (rw [if_pos (by decide +kernel)]; kernel_rfl) | (rw [if_neg (by decide +kernel)]; exact ⟨rfl, rfl⟩))
    (fun os started H enc _ F => by rw [OpenClaim.pre_eq_preRow]; exact lifted os started H enc F)

theorem plain (f : FuncId) (fn : Func) (hf : Tryd.pinned.checked.prog.funcNamed "casket/casketlaw04.ShaLengths" = some f) (hfn : Tryd.pinned.checked.prog.funcs[f]? = some fn) :
    false = Tryd.pinned.checked.prog.looks [] ∧ ∀ (j : Nat) t, fn.params[j]? = some t → Tryd.pinned.checked.prog.wantsStandIn t = false := by
  obtain rfl : f = 6 := Option.some.inj ((show Tryd.prog.funcNamed "casket/casketlaw04.ShaLengths" = some 6 by kernel_rfl).symm.trans hf) |>.symm
  obtain rfl : fn = Tryd.f6 := (Option.some.inj (Tryd.func6.symm.trans hfn)).symm
  refine ⟨by kernel_rfl, fun j t ht => ?_⟩
  rw [Tryd.params6] at ht
  have hm : t ∈ [3, 5] := by simpa using Array.mem_of_getElem? ht
  have hall : ([3, 5].all fun u => !Tryd.prog.wantsStandIn u) = true := by kernel_rfl
  exact (show Tryd.prog.wantsStandIn t = false by simpa using List.all_eq_true.1 hall t hm)

theorem card : Rows.ShaLengthsCardSaid :=
  Claim7.holds_tied_plain_at .later [] _ _ _ _ said (fun _ h => by cases h) (by kernel_rfl) (fun _ h => by cases h) shaLengths_row_tie rfl ⟨rfl, rfl⟩ (by kernel_rfl) rfl plain (by kernel_rfl)
end Go.Proofs.YtbejodcgigdjaaaDoor.shaLengths
namespace Go.Proofs.YtbejodcgigdjaaaDoor
theorem shaLengths_holds : Rows.ShaLengthsCardSaid := shaLengths.card
end Go.Proofs.YtbejodcgigdjaaaDoor
