/-
  Two pages mixed: the document's answer.
-/
import Derived.Test.YtfbmeclpcgdmhaaDoorSt8
namespace Go.Proofs.YtfbmeclpcgdmhaaDoor
open Go.RowKit Go.BigFrame
set_option maxRecDepth 20000 in
set_option maxHeartbeats 9000000 in
theorem rpages_core (x y r z g : Nat → BitVec 64) (F H : Nat → Nat → BitVec 64) (hr : Hid (r = xrF x y)) (hF0 : Hid (F 0 = r)) (Fs : Hid (∀ k, F (k + 1) = putF (F k) (plcR k) (stK (fun i => F k (plcR k i)) 8) 16)) (hH0 : Hid (H 0 = F 8)) (Hs : Hid (∀ k, H (k + 1) = putF (H k) (plcC k) (stK (fun i => H k (plcC k i)) 8) 16)) (hzz : Hid (z = H 8)) (hg : Hid (g = xrF z r)) (w0 : World) :
    Calls Tryd.prog 13 #[.agg (row 128 (wv x)).toArray, .agg (row 128 (wv y)).toArray] w0 fun e w' => e = .returned (.agg (row 128 (wv g)).toArray) ∧ Ext w0 w' := by
  have hz46 := zero46
  have hE0 := hideit (Ext.refl w0)
  go_enter Tryd.func13, Tryd.ntmps13
  go_upto_region 0 with (fail)
  refine wp_region_lit ?_
  have A1 := hideit (RowAt.new w0 128 (wv x) 31)
  have M3 : Ext w0 (w0.alloc (.cells (row 128 (wv x)).toArray 31)) := (Below.refl _ _).alloc (Nat.le_refl _) _
  have hE1 := hideit (Ext.trans hE0.out M3)
  clear M3 hE0
  refine wpList_to rfl (.pointer (some ⟨w0.heap.size, 0, none⟩)) (w0.alloc (.cells (row 128 (wv x)).toArray 31)) (by simp [go_sem]) ?_
  simp only [Act.put, List.setIfInBounds_toArray, List.set_cons_zero, List.set_cons_succ]
  generalize w0.alloc (.cells (row 128 (wv x)).toArray 31) = w1 at *
  generalize w0.heap.size = a at A1 ⊢
  have B2 := hideit (RowAt.new w1 128 (wv y) 31)
  have M3 : Ext w1 (w1.alloc (.cells (row 128 (wv y)).toArray 31)) := (Below.refl _ _).alloc (Nat.le_refl _) _
  have A2 := hideit (A1.out.carry M3)
  have hE2 := hideit (Ext.trans hE1.out M3)
  clear M3 hE1 A1
  refine wpList_to rfl (.pointer (some ⟨w1.heap.size, 0, none⟩)) (w1.alloc (.cells (row 128 (wv y)).toArray 31)) (by simp [go_sem]) ?_
  simp only [Act.put, List.setIfInBounds_toArray, List.set_cons_zero, List.set_cons_succ]
  generalize w1.alloc (.cells (row 128 (wv y)).toArray 31) = w2 at *
  generalize w1.heap.size = b at *
  have R3 := hideit (RowAt.new w2 128 (wv fun _ => 0#64) 31)
  have M3 : Ext w2 (w2.alloc (.cells (row 128 (wv fun _ => 0#64)).toArray 31)) := (Below.refl _ _).alloc (Nat.le_refl _) _
  have hdw : Hid (w0.heap.size ≤ w2.heap.size) := hideit (Below.size hE2.out)
  have A3 := hideit (A2.out.carry M3)
  have B3 := hideit (B2.out.carry M3)
  have hE3 := hideit (Ext.trans hE2.out M3)
  clear M3 hE2 A2 B2
  refine wpList_to rfl (.pointer (some ⟨w2.heap.size, 0, none⟩)) (w2.alloc (.cells (row 128 (wv fun _ => 0#64)).toArray 31)) (by simp [go_sem, zero31p]) ?_
  simp only [Act.put, List.setIfInBounds_toArray, List.set_cons_zero, List.set_cons_succ]
  generalize w2.alloc (.cells (row 128 (wv fun _ => 0#64)).toArray 31) = w3 at *
  generalize w2.heap.size = d at *
  go_upto_region 1 with (fail)
  refine wp_region_lit ?_
  have Q4 := hideit (RowAt.new w3 128 (wv fun _ => 0#64) 31)
  have M3 : Ext w3 (w3.alloc (.cells (row 128 (wv fun _ => 0#64)).toArray 31)) := (Below.refl _ _).alloc (Nat.le_refl _) _
  have hq1 : Hid (a < w3.heap.size) := hideit A3.out.2.2
  have hq2 : Hid (b < w3.heap.size) := hideit B3.out.2.2
  have hq3 : Hid (d < w3.heap.size) := hideit R3.out.2.2
  have hqw : Hid (w0.heap.size ≤ w3.heap.size) := hideit (Below.size hE3.out)
  have A4 := hideit (A3.out.carry M3)
  have B4 := hideit (B3.out.carry M3)
  have R4 := hideit (R3.out.carry M3)
  have hE4 := hideit (Ext.trans hE3.out M3)
  clear M3 hE3 A3 B3 R3
  refine wpList_to rfl (.pointer (some ⟨w3.heap.size, 0, none⟩)) (w3.alloc (.cells (row 128 (wv fun _ => 0#64)).toArray 31)) (by simp [go_sem, zero31p]) ?_
  simp only [Act.put, List.setIfInBounds_toArray, List.set_cons_zero, List.set_cons_succ]
  generalize w3.alloc (.cells (row 128 (wv fun _ => 0#64)).toArray 31) = w4 at *
  generalize w3.heap.size = q at *
  go_wp2
  go_loopw [6] (fun iv X => ∃ i : Nat, i ≤ 128 ∧ iv = .int .i64 i ∧ RowAt a 128 (wv x) X ∧ RowAt b 128 (wv y) X ∧ RowAt q 128 (wv (upW r i)) X ∧ RowAt d 128 (wv fun _ => 0#64) X ∧ Ext w0 X) (fun iv _ => 128 - (intOf iv).toNat)
  case atStart => exact ⟨0, by omega, rfl, A4.out, B4.out, Q4.out.congr (fun j _ => by simp only [wv, upW]; rw [if_neg (Nat.not_lt_zero _)]), R4.out, hE4.out⟩
  case round =>
    clear A4 B4 Q4 R4 hE4
    obtain ⟨i, hi, rfl, hA, hB, hQ, hR, hE⟩ := hrel
    have A5 := hideit hA
    have B5 := hideit hB
    have Q5 := hideit hQ
    have R5 := hideit hR
    have hE5 := hideit hE
    clear hA hB hQ hR hE
    by_cases hlt : i < 128
    · have i0 : (0 : Int) ≤ (i : Int) := by omega
      have i1 : (i : Int) < 128 := by omega
      go_upto_region 5 with (fail)
      have hne := kept_ne wr.drew
      have e1 : ∀ q : Kept (Ext wr.drew), q.w.cell? ⟨a, i, none⟩ = some (.int .u64 ((x i).toNat : Int)) := fun q => (A5.out.kept i hlt q).trans rfl
      have e2 : ∀ q : Kept (Ext wr.drew), q.w.cell? ⟨b, i, none⟩ = some (.int .u64 ((y i).toNat : Int)) := fun q => (B5.out.kept i hlt q).trans rfl
      have f1 := xW_fact (x i) (y i)
      refine wp_region_late 8 (by kernel_rfl) (by kernel_rfl) (by decide) ?_
      simp only [List.take_succ_cons, List.take_zero, List.drop_succ_cons, List.drop_zero]
      refine wpStrong_run 8 rfl ?_
      simp only [List.take_succ_cons, List.take_zero, List.drop_succ_cons, List.drop_zero]
      repeat (go_big_quiet_step (fail))
      refine wpQuiet_nil ?_
      refine wpStrong_nil ?_
      intro X hX
      have hwX : Ext wr X := Ext.trans (Below.refl _ _).drew hX
      clear hX hne e1 e2
      have hri : Hid (xW (x i) (y i) = r i) := hideit (by rw [hr.out]; rfl)
      rw [hri.out] at f1 ⊢
      clear f1
      have A6 := hideit (A5.out.carry hwX)
      have B6 := hideit (B5.out.carry hwX)
      have Q6 := hideit (Q5.out.carry hwX)
      have R6 := hideit (R5.out.carry hwX)
      have hE6 := hideit (Ext.trans hE5.out hwX)
      clear A5 B5 Q5 R5 hE5 hwX
      have e3 := Q6.out.1 i hlt
      have g3 := Q6.out.2.1 i hlt
      simp only [wv] at e3
      go_wp2
      exact ⟨⟨i + 1, by omega, by go_num, A6.out.other _ _ (by show q ≠ a; have := hq1.out; omega), B6.out.other _ _ (by show q ≠ b; have := hq2.out; omega), (Q6.out.set i (.int .u64 ((r i).toNat : Int))).congr (fun j _ => by
        simp only [wv]
        rw [← upW_set r i j]
        split <;> rfl), R6.out.other _ _ (by show q ≠ d; have := hq3.out; omega), Below.setCell hE6.out (by show w0.heap.size ≤ q; exact hqw.out) _⟩, by simp [intOf]; omega⟩
    · obtain rfl : i = 128 := by omega
      have i1 : ¬ ((128 : Nat) : Int) < 128 := by decide
      have Q6 : Hid (RowAt q 128 (wv r) wr) := hideit (Q5.out.congr fun j hj => by simp only [wv, upW]; rw [if_pos hj])
      clear A5 B5 Q5 hr hlt hi
      go_upto_region 6 with (fail)
      refine wp_region_lit ?_
      generalize wr = w6 at *
      have R6 := R5
      have hE6 := hE5
      clear R5 hE5
      refine wpList_load_mid rfl 31 (.tmp 5) rfl q 0 rfl (row 128 (wv r)) _ Q6.out.range Tryd.underlying31 rfl (by rw [row_length]; exact infoPg) ?_
      simp only [Act.put, List.setIfInBounds_toArray, List.set_cons_zero, List.set_cons_succ]
      have hv1 : Hid (q < w6.heap.size) := hideit Q6.out.2.2
      have hv2 : Hid (d < w6.heap.size) := hideit R6.out.2.2
      have hvw : Hid (w0.heap.size ≤ w6.heap.size) := hideit (Below.size hE6.out)
      have M1 := hideit (RowAt.new w6 128 (wv fun _ => 0#64) 31)
      have M3 : Ext w6 ((w6.alloc (.cells (row 128 (wv fun _ => 0#64)).toArray 31)).setCells w6.heap.size 0 (row 128 (wv r))) := below_setCells w6.heap.size (Nat.le_refl _) _ 0 _ ((Below.refl _ _).alloc (Nat.le_refl _) _)
      have Z7 := hideit (M1.out.cells (g' := wv r))
      refine wpList_to rfl (.pointer (some ⟨w6.heap.size, 0, none⟩)) (w6.alloc (.cells (row 128 (wv fun _ => 0#64)).toArray 31)) (by simp [go_sem, zero31p]) ?_
      simp only [Act.put, List.setIfInBounds_toArray, List.set_cons_zero, List.set_cons_succ]
      refine wpList_store_mid rfl 31 (.tmp 7) (.tmp 30) rfl w6.heap.size 0 (row 128 (wv r)).toArray rfl rfl (by rw [row_size]; exact M1.out.there) (by rw [row_size]; exact infoPg) (row_one fun _ _ => rfl) ?_
      rw [show (row 128 (wv r)).toArray.toList = row 128 (wv r) from rfl]
      have Q7 := hideit (Q6.out.carry M3)
      have R7 := hideit (R6.out.carry M3)
      have hE7 := hideit (Ext.trans hE6.out M3)
      clear M3 hE6 Q6 R6
      generalize (w6.alloc (.cells (row 128 (wv fun _ => 0#64)).toArray 31)).setCells w6.heap.size 0 (row 128 (wv r)) = w7 at *
      generalize w6.heap.size = v at *
      clear M1
      simp only [Act.put]
      go_wp2
      go_loopw [8] (fun iv X => ∃ k : Nat, k ≤ 8 ∧ iv = .int .i64 k ∧ RowAt v 128 (wv (F k)) X ∧ RowAt q 128 (wv r) X ∧ RowAt d 128 (wv fun _ => 0#64) X ∧ Ext w0 X) (fun iv _ => 8 - (intOf iv).toNat)
      case atStart => exact ⟨0, by omega, rfl, by rw [hF0.out]; exact Z7.out, Q7.out, R7.out, hE7.out⟩
      case round =>
        clear Z7 Q7 R7 hE7
        obtain ⟨k, hk, rfl, hZ, hQ, hR, hE⟩ := hrel
        have Z8 := hideit hZ
        have Q8 := hideit hQ
        have R8 := hideit hR
        have hE8 := hideit hE
        clear hZ hQ hR hE
        by_cases hlt : k < 8
        · have k0 : (0 : Int) ≤ (k : Int) := by omega
          have k1 : (k : Int) < 8 := by omega
          have kf : IntKind.i64.wrap (16 * (k : Int)) = 16 * (k : Int) := by rw [IntKind.wrap_i64]; omega
          obtain ⟨P, hP⟩ : ∃ P : Nat → BitVec 64, P = fun i => F k (plcR k i) := ⟨_, rfl⟩
          obtain ⟨V, hV⟩ : ∃ V, V = F k := ⟨_, rfl⟩
          rw [← hV] at Z8
          have hPe : Hid (∀ i, V (plcR k i) = P i) := hideit fun i => by rw [hV, hP]
          have hFk : Hid (F (k + 1) = putF V (plcR k) (stK P 8) 16) := hideit (by rw [hV, hP]; exact Fs.out k)
          clear hP hV
          have C9 := hideit (RowAt.new wr 16 (wv fun _ => 0#64) 32)
          have X9 : Ext wr (wr.alloc (.cells (row 16 (wv fun _ => 0#64)).toArray 32)) := (Below.refl _ _).alloc (Nat.le_refl _) _
          have Z9 := hideit (Z8.out.carry X9)
          have Q9 := hideit (Q8.out.carry X9)
          have R9 := hideit (R8.out.carry X9)
          have hE9 := hideit (Ext.trans hE8.out X9)
          have hc1 : Hid (v < wr.heap.size) := hideit Z8.out.2.2
          have hc2 : Hid (q < wr.heap.size) := hideit Q8.out.2.2
          have hc3 : Hid (d < wr.heap.size) := hideit R8.out.2.2
          have hcw : Hid (w0.heap.size ≤ wr.heap.size) := hideit (Below.size hE8.out)
          clear Z8 Q8 R8 hE8 X9
          go_upto_region 10 with (fail)
          refine wp_region_lit ?_
          refine wpList_to rfl (.pointer (some ⟨wr.heap.size, 0, none⟩)) (wr.alloc (.cells (row 16 (wv fun _ => 0#64)).toArray 32)) (by simp [go_sem, hz46]) ?_
          simp only [Act.put, List.setIfInBounds_toArray, List.set_cons_zero, List.set_cons_succ]
          generalize wr.alloc (.cells (row 16 (wv fun _ => 0#64)).toArray 32) = w9 at *
          generalize wr.heap.size = c at *
          go_wp2
          go_loopw [10] (fun iv X => ∃ m : Nat, m ≤ 16 ∧ iv = .int .i64 m ∧ RowAt c 16 (wv (upW P m)) X ∧ RowAt v 128 (wv V) X ∧ RowAt q 128 (wv r) X ∧ RowAt d 128 (wv fun _ => 0#64) X ∧ Ext w0 X) (fun iv _ => 16 - (intOf iv).toNat)
          case atStart => exact ⟨0, by omega, rfl, C9.out.congr (fun j _ => by simp only [wv, upW]; rw [if_neg (Nat.not_lt_zero _)]), Z9.out, Q9.out, R9.out, hE9.out⟩
          case round =>
            clear C9 Z9 Q9 R9 hE9
            obtain ⟨m, hm, rfl, hC, hZ, hQ, hR, hE⟩ := hrel
            have C10 := hideit hC
            have Z10 := hideit hZ
            have Q10 := hideit hQ
            have R10 := hideit hR
            have hE10 := hideit hE
            clear hC hZ hQ hR hE
            by_cases hlm : m < 16
            · have m0 : (0 : Int) ≤ (m : Int) := by omega
              have m1 : (m : Int) < 16 := by omega
              have hpl := plcR_lt k m hlt hlm
              have e1 : wr.cell? ⟨v, plcR k m, none⟩ = some (.int .u64 ((P m).toNat : Int)) := (Z10.out.1 _ hpl).trans (by simp only [wv]; rw [hPe.out])
              obtain ⟨Z, hZe⟩ : ∃ Z, Z = plcR k m := ⟨_, rfl⟩
              rw [← hZe] at e1 hpl
              have f5 : IntKind.i64.wrap (16 * (k : Int) + (m : Int)) = (Z : Int) := by rw [hZe]; unfold plcR; rw [IntKind.wrap_i64]; omega
              clear hZe
              have z0 : (0 : Int) ≤ (Z : Int) := by omega
              have z1 : (Z : Int) < 128 := by omega
              have e2 := C10.out.1 m hlm
              have g2 := C10.out.2.1 m hlm
              simp only [wv] at e2
              go_upto_region 14 with (fail)
              refine wp_region_lit ?_
              refine wpList_run rfl (.int .i64 (m : Int)) (by simp [go_sem]) ?_
              simp only [Act.put, List.setIfInBounds_toArray, List.set_cons_zero, List.set_cons_succ]
              refine wpList_run rfl (.int .i64 (k : Int)) (by simp [go_sem]) ?_
              simp only [Act.put, List.setIfInBounds_toArray, List.set_cons_zero, List.set_cons_succ]
              refine wpList_run rfl (.int .i64 (16 * (k : Int))) (by simp [go_sem, kf]) ?_
              simp only [Act.put, List.setIfInBounds_toArray, List.set_cons_zero, List.set_cons_succ]
              refine wpList_run rfl (.int .i64 (m : Int)) (by simp [go_sem]) ?_
              simp only [Act.put, List.setIfInBounds_toArray, List.set_cons_zero, List.set_cons_succ]
              refine wpList_run rfl (.int .i64 (Z : Int)) (by simp [go_sem, f5]) ?_
              simp only [Act.put, List.setIfInBounds_toArray, List.set_cons_zero, List.set_cons_succ]
              refine wpList_run rfl (.pointer (some ⟨v, Z, none⟩)) (by simp [go_sem, z0, z1]) ?_
              simp only [Act.put, List.setIfInBounds_toArray, List.set_cons_zero, List.set_cons_succ]
              refine wpList_run rfl (.int .u64 ((P m).toNat : Int)) (by simp [go_sem, e1]) ?_
              simp only [Act.put, List.setIfInBounds_toArray, List.set_cons_zero, List.set_cons_succ]
              refine wpList_run rfl (.pointer (some ⟨c, m, none⟩)) (by simp [go_sem, m0, m1]) ?_
              simp only [Act.put, List.setIfInBounds_toArray, List.set_cons_zero, List.set_cons_succ]
              go_wp2
              exact ⟨⟨m + 1, by omega, by go_num, (C10.out.set m (.int .u64 ((P m).toNat : Int))).congr (fun j _ => by
                simp only [wv]
                rw [← upW_set P m j]
                split <;> rfl), Z10.out.other _ _ (by show c ≠ v; have := hc1.out; omega), Q10.out.other _ _ (by show c ≠ q; have := hc2.out; omega), R10.out.other _ _ (by show c ≠ d; have := hc3.out; omega), Below.setCell hE10.out (by show w0.heap.size ≤ c; exact hcw.out) _⟩, by simp [intOf]; omega⟩
            · obtain rfl : m = 16 := by omega
              have m1 : ¬ ((16 : Nat) : Int) < 16 := by decide
              have C11 : Hid (RowAt c 16 (wv P) wr) := hideit (C10.out.congr fun j hj => by simp only [wv, upW]; rw [if_pos hj])
              have kc := hideit (rStir_any P wr)
              clear C10 hlm hm
              go_upto_region 15 with (fail)
              refine wp_region_lit ?_
              refine wpList_load_mid rfl 32 (.tmp 9) rfl c 0 rfl (row 16 (wv P)) _ C11.out.range Tryd.underlying32 rfl (by rw [row_length]; exact info46) ?_
              simp only [Act.put, List.setIfInBounds_toArray, List.set_cons_zero, List.set_cons_succ]
              refine wpList_call rfl (by simp [go_sem]; exact ⟨rfl, rfl⟩) ?_
              refine (kc.out).mono ?_
              rintro e w12 ⟨rfl, hX⟩
              refine ⟨_, rfl, ?_⟩
              simp only [Act.put, List.setIfInBounds_toArray, List.set_cons_zero, List.set_cons_succ]
              obtain ⟨s, hs⟩ : ∃ s, s = stK P 8 := ⟨_, rfl⟩
              have hFs2 : Hid (F (k + 1) = putF V (plcR k) s 16) := hideit (by rw [hs]; exact hFk.out)
              rw [← hs]
              clear hs hFk
              have C12 := hideit (C11.out.carry hX)
              have Z12 := hideit (Z10.out.carry hX)
              have Q12 := hideit (Q10.out.carry hX)
              have R12 := hideit (R10.out.carry hX)
              have hE12 := hideit (Ext.trans hE10.out hX)
              clear C11 Z10 Q10 R10 hE10 hX kc hPe
              refine wpList_store_mid rfl 32 (.tmp 9) (.tmp 48) rfl c 0 (row 16 (wv s)).toArray rfl rfl (by rw [row_size]; exact C12.out.there) (by rw [row_size]; exact info46) (row_one fun _ _ => rfl) ?_
              rw [show (row 16 (wv s)).toArray.toList = row 16 (wv s) from rfl]
              have C13 := hideit (C12.out.cells (g' := wv s))
              have Z13 := hideit (Z12.out.cellsOther (c := c) (by have := hc1.out; omega) (row 16 (wv s)) 0)
              have Q13 := hideit (Q12.out.cellsOther (c := c) (by have := hc2.out; omega) (row 16 (wv s)) 0)
              have R13 := hideit (R12.out.cellsOther (c := c) (by have := hc3.out; omega) (row 16 (wv s)) 0)
              have hE13 := hideit (below_setCells c hcw.out (row 16 (wv s)) 0 _ hE12.out)
              clear C12 Z12 Q12 R12 hE12
              generalize w12.setCells c 0 (row 16 (wv s)) = w13 at *
              simp only [Act.put]
              go_wp2
              go_loopw [11] (fun iv X => ∃ n : Nat, n ≤ 16 ∧ iv = .int .i64 n ∧ RowAt c 16 (wv s) X ∧ RowAt v 128 (wv (putF V (plcR k) s n)) X ∧ RowAt q 128 (wv r) X ∧ RowAt d 128 (wv fun _ => 0#64) X ∧ Ext w0 X) (fun iv _ => 16 - (intOf iv).toNat)
              case atStart => exact ⟨0, by omega, rfl, C13.out, Z13.out, Q13.out, R13.out, hE13.out⟩
              case round =>
                clear C13 Z13 Q13 R13 hE13
                obtain ⟨n, hn, rfl, hC, hZ, hQ, hR, hE⟩ := hrel
                have C14 := hideit hC
                have Z14 := hideit hZ
                have Q14 := hideit hQ
                have R14 := hideit hR
                have hE14 := hideit hE
                clear hC hZ hQ hR hE
                by_cases hln : n < 16
                · have n0 : (0 : Int) ≤ (n : Int) := by omega
                  have n1 : (n : Int) < 16 := by omega
                  have hpl := plcR_lt k n hlt hln
                  have e1 : wr.cell? ⟨c, n, none⟩ = some (.int .u64 ((s n).toNat : Int)) := C14.out.1 n hln
                  have hsc : Hid (∀ j, (if j = plcR k n then s n else putF V (plcR k) s n j) = putF V (plcR k) s (n + 1) j) := hideit fun j => rfl
                  obtain ⟨Z, hZe⟩ : ∃ Z, Z = plcR k n := ⟨_, rfl⟩
                  rw [← hZe] at hsc hpl
                  have f5 : IntKind.i64.wrap (16 * (k : Int) + (n : Int)) = (Z : Int) := by rw [hZe]; unfold plcR; rw [IntKind.wrap_i64]; omega
                  clear hZe
                  have z0 : (0 : Int) ≤ (Z : Int) := by omega
                  have z1 : (Z : Int) < 128 := by omega
                  have e2 := Z14.out.1 Z hpl
                  have g2 := Z14.out.2.1 Z hpl
                  simp only [wv] at e2
                  go_upto_region 19 with (fail)
                  refine wp_region_lit ?_
                  refine wpList_run rfl (.int .i64 (k : Int)) (by simp [go_sem]) ?_
                  simp only [Act.put, List.setIfInBounds_toArray, List.set_cons_zero, List.set_cons_succ]
                  refine wpList_run rfl (.int .i64 (16 * (k : Int))) (by simp [go_sem, kf]) ?_
                  simp only [Act.put, List.setIfInBounds_toArray, List.set_cons_zero, List.set_cons_succ]
                  refine wpList_run rfl (.int .i64 (n : Int)) (by simp [go_sem]) ?_
                  simp only [Act.put, List.setIfInBounds_toArray, List.set_cons_zero, List.set_cons_succ]
                  refine wpList_run rfl (.int .i64 (Z : Int)) (by simp [go_sem, f5]) ?_
                  simp only [Act.put, List.setIfInBounds_toArray, List.set_cons_zero, List.set_cons_succ]
                  refine wpList_run rfl (.int .i64 (n : Int)) (by simp [go_sem]) ?_
                  simp only [Act.put, List.setIfInBounds_toArray, List.set_cons_zero, List.set_cons_succ]
                  refine wpList_run rfl (.pointer (some ⟨c, n, none⟩)) (by simp [go_sem, n0, n1]) ?_
                  simp only [Act.put, List.setIfInBounds_toArray, List.set_cons_zero, List.set_cons_succ]
                  refine wpList_run rfl (.int .u64 ((s n).toNat : Int)) (by simp [go_sem, e1]) ?_
                  simp only [Act.put, List.setIfInBounds_toArray, List.set_cons_zero, List.set_cons_succ]
                  refine wpList_run rfl (.pointer (some ⟨v, Z, none⟩)) (by simp [go_sem, z0, z1]) ?_
                  simp only [Act.put, List.setIfInBounds_toArray, List.set_cons_zero, List.set_cons_succ]
                  go_wp2
                  exact ⟨⟨n + 1, by omega, by go_num, C14.out.other _ _ (by show v ≠ c; have := hc1.out; omega), (Z14.out.set Z (.int .u64 ((s n).toNat : Int))).congr (fun j _ => by
                    simp only [wv]
                    rw [← hsc.out j]
                    split <;> rfl), Q14.out.other _ _ (by show v ≠ q; have := hv1.out; omega), R14.out.other _ _ (by show v ≠ d; have := hv2.out; omega), Below.setCell hE14.out (by show w0.heap.size ≤ v; exact hvw.out) _⟩, by simp [intOf]; omega⟩
                · obtain rfl : n = 16 := by omega
                  have n1 : ¬ ((16 : Nat) : Int) < 16 := by decide
                  rw [← hFs2.out] at Z14
                  go_wp2
                  exact ⟨⟨k + 1, by omega, by go_num, Z14.out, Q14.out, R14.out, hE14.out⟩, by simp [intOf]; omega⟩
        · obtain rfl : k = 8 := by omega
          have k1 : ¬ ((8 : Nat) : Int) < 8 := by decide
          clear hlt hk
          have Z7 : Hid (RowAt v 128 (wv (H 0)) wr) := hideit (by rw [hH0.out]; exact Z8.out)
          have Q7 := Q8
          have R7 := R8
          have hE7 := hE8
          clear Z8 Q8 R8 hE8
          go_wp2
          go_loopw [12] (fun iv X => ∃ k : Nat, k ≤ 8 ∧ iv = .int .i64 k ∧ RowAt v 128 (wv (H k)) X ∧ RowAt q 128 (wv r) X ∧ RowAt d 128 (wv fun _ => 0#64) X ∧ Ext w0 X) (fun iv _ => 8 - (intOf iv).toNat)
          case atStart => exact ⟨0, by omega, rfl, Z7.out, Q7.out, R7.out, hE7.out⟩
          case round =>
            clear Z7 Q7 R7 hE7
            obtain ⟨k, hk, rfl, hZ, hQ, hR, hE⟩ := hrel
            have Z8 := hideit hZ
            have Q8 := hideit hQ
            have R8 := hideit hR
            have hE8 := hideit hE
            clear hZ hQ hR hE
            by_cases hlt : k < 8
            · have k0 : (0 : Int) ≤ (k : Int) := by omega
              have k1 : (k : Int) < 8 := by omega
              have kf : IntKind.i64.wrap (2 * (k : Int)) = 2 * (k : Int) := by rw [IntKind.wrap_i64]; omega
              obtain ⟨P, hP⟩ : ∃ P : Nat → BitVec 64, P = fun i => H k (plcC k i) := ⟨_, rfl⟩
              obtain ⟨V, hV⟩ : ∃ V, V = H k := ⟨_, rfl⟩
              rw [← hV] at Z8
              have hPe : Hid (∀ i, V (plcC k i) = P i) := hideit fun i => by rw [hV, hP]
              have hFk : Hid (H (k + 1) = putF V (plcC k) (stK P 8) 16) := hideit (by rw [hV, hP]; exact Hs.out k)
              clear hP hV
              have C9 := hideit (RowAt.new wr 16 (wv fun _ => 0#64) 32)
              have X9 : Ext wr (wr.alloc (.cells (row 16 (wv fun _ => 0#64)).toArray 32)) := (Below.refl _ _).alloc (Nat.le_refl _) _
              have Z9 := hideit (Z8.out.carry X9)
              have Q9 := hideit (Q8.out.carry X9)
              have R9 := hideit (R8.out.carry X9)
              have hE9 := hideit (Ext.trans hE8.out X9)
              have hc1 : Hid (v < wr.heap.size) := hideit Z8.out.2.2
              have hc2 : Hid (q < wr.heap.size) := hideit Q8.out.2.2
              have hc3 : Hid (d < wr.heap.size) := hideit R8.out.2.2
              have hcw : Hid (w0.heap.size ≤ wr.heap.size) := hideit (Below.size hE8.out)
              clear Z8 Q8 R8 hE8 X9
              go_upto_region 23 with (fail)
              refine wp_region_lit ?_
              refine wpList_to rfl (.pointer (some ⟨wr.heap.size, 0, none⟩)) (wr.alloc (.cells (row 16 (wv fun _ => 0#64)).toArray 32)) (by simp [go_sem, hz46]) ?_
              simp only [Act.put, List.setIfInBounds_toArray, List.set_cons_zero, List.set_cons_succ]
              generalize wr.alloc (.cells (row 16 (wv fun _ => 0#64)).toArray 32) = w9 at *
              generalize wr.heap.size = c at *
              go_wp2
              go_loopw [14] (fun iv X => ∃ m : Nat, m ≤ 16 ∧ iv = .int .i64 m ∧ RowAt c 16 (wv (upW P m)) X ∧ RowAt v 128 (wv V) X ∧ RowAt q 128 (wv r) X ∧ RowAt d 128 (wv fun _ => 0#64) X ∧ Ext w0 X) (fun iv _ => 16 - (intOf iv).toNat)
              case atStart => exact ⟨0, by omega, rfl, C9.out.congr (fun j _ => by simp only [wv, upW]; rw [if_neg (Nat.not_lt_zero _)]), Z9.out, Q9.out, R9.out, hE9.out⟩
              case round =>
                clear C9 Z9 Q9 R9 hE9
                obtain ⟨m, hm, rfl, hC, hZ, hQ, hR, hE⟩ := hrel
                have C10 := hideit hC
                have Z10 := hideit hZ
                have Q10 := hideit hQ
                have R10 := hideit hR
                have hE10 := hideit hE
                clear hC hZ hQ hR hE
                by_cases hlm : m < 16
                · have m0 : (0 : Int) ≤ (m : Int) := by omega
                  have m1 : (m : Int) < 16 := by omega
                  have hpl := plcC_lt k m hlt hlm
                  have e1 : wr.cell? ⟨v, plcC k m, none⟩ = some (.int .u64 ((P m).toNat : Int)) := (Z10.out.1 _ hpl).trans (by simp only [wv]; rw [hPe.out])
                  obtain ⟨Z, hZe⟩ : ∃ Z, Z = plcC k m := ⟨_, rfl⟩
                  rw [← hZe] at e1 hpl
                  obtain ⟨h, hh⟩ : ∃ h, h = m / 2 := ⟨_, rfl⟩
                  obtain ⟨o, ho⟩ : ∃ o, o = m % 2 := ⟨_, rfl⟩
                  have f0 : ((m : Int)).tdiv 2 = (h : Int) := by rw [hh, Int.tdiv_eq_ediv_of_nonneg (by omega)]; omega
                  have fh : IntKind.i64.wrap (h : Int) = (h : Int) := by rw [IntKind.wrap_i64]; omega
                  have f2 : IntKind.i64.wrap (16 * (h : Int)) = 16 * (h : Int) := by rw [IntKind.wrap_i64]; omega
                  have f3 : IntKind.i64.wrap (16 * (h : Int) + 2 * (k : Int)) = 16 * (h : Int) + 2 * (k : Int) := by rw [IntKind.wrap_i64]; omega
                  have f4 : ((m : Int)).tmod 2 = (o : Int) := by rw [ho, Int.tmod_eq_emod_of_nonneg (by omega)]; omega
                  have f5 : IntKind.i64.wrap (16 * (h : Int) + 2 * (k : Int) + (o : Int)) = (Z : Int) := by rw [hZe, hh, ho]; unfold plcC; rw [IntKind.wrap_i64]; omega
                  clear hZe hh ho
                  have z0 : (0 : Int) ≤ (Z : Int) := by omega
                  have z1 : (Z : Int) < 128 := by omega
                  have e2 := C10.out.1 m hlm
                  have g2 := C10.out.2.1 m hlm
                  simp only [wv] at e2
                  go_upto_region 27 with (fail)
                  refine wp_region_lit ?_
                  refine wpList_run rfl (.int .i64 (m : Int)) (by simp [go_sem]) ?_
                  simp only [Act.put, List.setIfInBounds_toArray, List.set_cons_zero, List.set_cons_succ]
                  refine wpList_run rfl (.int .i64 (m : Int)) (by simp [go_sem]) ?_
                  simp only [Act.put, List.setIfInBounds_toArray, List.set_cons_zero, List.set_cons_succ]
                  refine wpList_run rfl (.int .i64 (h : Int)) (by simp [go_sem, f0, fh]) ?_
                  simp only [Act.put, List.setIfInBounds_toArray, List.set_cons_zero, List.set_cons_succ]
                  refine wpList_run rfl (.int .i64 (16 * (h : Int))) (by simp [go_sem, f2]) ?_
                  simp only [Act.put, List.setIfInBounds_toArray, List.set_cons_zero, List.set_cons_succ]
                  refine wpList_run rfl (.int .i64 (k : Int)) (by simp [go_sem]) ?_
                  simp only [Act.put, List.setIfInBounds_toArray, List.set_cons_zero, List.set_cons_succ]
                  refine wpList_run rfl (.int .i64 (2 * (k : Int))) (by simp [go_sem, kf]) ?_
                  simp only [Act.put, List.setIfInBounds_toArray, List.set_cons_zero, List.set_cons_succ]
                  refine wpList_run rfl (.int .i64 (16 * (h : Int) + 2 * (k : Int))) (by simp [go_sem, f3]) ?_
                  simp only [Act.put, List.setIfInBounds_toArray, List.set_cons_zero, List.set_cons_succ]
                  refine wpList_run rfl (.int .i64 (m : Int)) (by simp [go_sem]) ?_
                  simp only [Act.put, List.setIfInBounds_toArray, List.set_cons_zero, List.set_cons_succ]
                  refine wpList_run rfl (.int .i64 (o : Int)) (by simp [go_sem, f4]) ?_
                  simp only [Act.put, List.setIfInBounds_toArray, List.set_cons_zero, List.set_cons_succ]
                  refine wpList_run rfl (.int .i64 (Z : Int)) (by simp [go_sem, f5]) ?_
                  simp only [Act.put, List.setIfInBounds_toArray, List.set_cons_zero, List.set_cons_succ]
                  refine wpList_run rfl (.pointer (some ⟨v, Z, none⟩)) (by simp [go_sem, z0, z1]) ?_
                  simp only [Act.put, List.setIfInBounds_toArray, List.set_cons_zero, List.set_cons_succ]
                  refine wpList_run rfl (.int .u64 ((P m).toNat : Int)) (by simp [go_sem, e1]) ?_
                  simp only [Act.put, List.setIfInBounds_toArray, List.set_cons_zero, List.set_cons_succ]
                  refine wpList_run rfl (.pointer (some ⟨c, m, none⟩)) (by simp [go_sem, m0, m1]) ?_
                  simp only [Act.put, List.setIfInBounds_toArray, List.set_cons_zero, List.set_cons_succ]
                  go_wp2
                  exact ⟨⟨m + 1, by omega, by go_num, (C10.out.set m (.int .u64 ((P m).toNat : Int))).congr (fun j _ => by
                    simp only [wv]
                    rw [← upW_set P m j]
                    split <;> rfl), Z10.out.other _ _ (by show c ≠ v; have := hc1.out; omega), Q10.out.other _ _ (by show c ≠ q; have := hc2.out; omega), R10.out.other _ _ (by show c ≠ d; have := hc3.out; omega), Below.setCell hE10.out (by show w0.heap.size ≤ c; exact hcw.out) _⟩, by simp [intOf]; omega⟩
                · obtain rfl : m = 16 := by omega
                  have m1 : ¬ ((16 : Nat) : Int) < 16 := by decide
                  have C11 : Hid (RowAt c 16 (wv P) wr) := hideit (C10.out.congr fun j hj => by simp only [wv, upW]; rw [if_pos hj])
                  have kc := hideit (rStir_any P wr)
                  clear C10 hlm hm
                  go_upto_region 28 with (fail)
                  refine wp_region_lit ?_
                  refine wpList_load_mid rfl 32 (.tmp 13) rfl c 0 rfl (row 16 (wv P)) _ C11.out.range Tryd.underlying32 rfl (by rw [row_length]; exact info46) ?_
                  simp only [Act.put, List.setIfInBounds_toArray, List.set_cons_zero, List.set_cons_succ]
                  refine wpList_call rfl (by simp [go_sem]; exact ⟨rfl, rfl⟩) ?_
                  refine (kc.out).mono ?_
                  rintro e w12 ⟨rfl, hX⟩
                  refine ⟨_, rfl, ?_⟩
                  simp only [Act.put, List.setIfInBounds_toArray, List.set_cons_zero, List.set_cons_succ]
                  obtain ⟨s, hs⟩ : ∃ s, s = stK P 8 := ⟨_, rfl⟩
                  have hFs2 : Hid (H (k + 1) = putF V (plcC k) s 16) := hideit (by rw [hs]; exact hFk.out)
                  rw [← hs]
                  clear hs hFk
                  have C12 := hideit (C11.out.carry hX)
                  have Z12 := hideit (Z10.out.carry hX)
                  have Q12 := hideit (Q10.out.carry hX)
                  have R12 := hideit (R10.out.carry hX)
                  have hE12 := hideit (Ext.trans hE10.out hX)
                  clear C11 Z10 Q10 R10 hE10 hX kc hPe
                  refine wpList_store_mid rfl 32 (.tmp 13) (.tmp 83) rfl c 0 (row 16 (wv s)).toArray rfl rfl (by rw [row_size]; exact C12.out.there) (by rw [row_size]; exact info46) (row_one fun _ _ => rfl) ?_
                  rw [show (row 16 (wv s)).toArray.toList = row 16 (wv s) from rfl]
                  have C13 := hideit (C12.out.cells (g' := wv s))
                  have Z13 := hideit (Z12.out.cellsOther (c := c) (by have := hc1.out; omega) (row 16 (wv s)) 0)
                  have Q13 := hideit (Q12.out.cellsOther (c := c) (by have := hc2.out; omega) (row 16 (wv s)) 0)
                  have R13 := hideit (R12.out.cellsOther (c := c) (by have := hc3.out; omega) (row 16 (wv s)) 0)
                  have hE13 := hideit (below_setCells c hcw.out (row 16 (wv s)) 0 _ hE12.out)
                  clear C12 Z12 Q12 R12 hE12
                  generalize w12.setCells c 0 (row 16 (wv s)) = w13 at *
                  simp only [Act.put]
                  go_wp2
                  go_loopw [15] (fun iv X => ∃ n : Nat, n ≤ 16 ∧ iv = .int .i64 n ∧ RowAt c 16 (wv s) X ∧ RowAt v 128 (wv (putF V (plcC k) s n)) X ∧ RowAt q 128 (wv r) X ∧ RowAt d 128 (wv fun _ => 0#64) X ∧ Ext w0 X) (fun iv _ => 16 - (intOf iv).toNat)
                  case atStart => exact ⟨0, by omega, rfl, C13.out, Z13.out, Q13.out, R13.out, hE13.out⟩
                  case round =>
                    clear C13 Z13 Q13 R13 hE13
                    obtain ⟨n, hn, rfl, hC, hZ, hQ, hR, hE⟩ := hrel
                    have C14 := hideit hC
                    have Z14 := hideit hZ
                    have Q14 := hideit hQ
                    have R14 := hideit hR
                    have hE14 := hideit hE
                    clear hC hZ hQ hR hE
                    by_cases hln : n < 16
                    · have n0 : (0 : Int) ≤ (n : Int) := by omega
                      have n1 : (n : Int) < 16 := by omega
                      have hpl := plcC_lt k n hlt hln
                      have e1 : wr.cell? ⟨c, n, none⟩ = some (.int .u64 ((s n).toNat : Int)) := C14.out.1 n hln
                      have hsc : Hid (∀ j, (if j = plcC k n then s n else putF V (plcC k) s n j) = putF V (plcC k) s (n + 1) j) := hideit fun j => rfl
                      obtain ⟨Z, hZe⟩ : ∃ Z, Z = plcC k n := ⟨_, rfl⟩
                      rw [← hZe] at hsc hpl
                      obtain ⟨h, hh⟩ : ∃ h, h = n / 2 := ⟨_, rfl⟩
                      obtain ⟨o, ho⟩ : ∃ o, o = n % 2 := ⟨_, rfl⟩
                      have f0 : ((n : Int)).tdiv 2 = (h : Int) := by rw [hh, Int.tdiv_eq_ediv_of_nonneg (by omega)]; omega
                      have fh : IntKind.i64.wrap (h : Int) = (h : Int) := by rw [IntKind.wrap_i64]; omega
                      have f2 : IntKind.i64.wrap (16 * (h : Int)) = 16 * (h : Int) := by rw [IntKind.wrap_i64]; omega
                      have f3 : IntKind.i64.wrap (16 * (h : Int) + 2 * (k : Int)) = 16 * (h : Int) + 2 * (k : Int) := by rw [IntKind.wrap_i64]; omega
                      have f4 : ((n : Int)).tmod 2 = (o : Int) := by rw [ho, Int.tmod_eq_emod_of_nonneg (by omega)]; omega
                      have f5 : IntKind.i64.wrap (16 * (h : Int) + 2 * (k : Int) + (o : Int)) = (Z : Int) := by rw [hZe, hh, ho]; unfold plcC; rw [IntKind.wrap_i64]; omega
                      clear hZe hh ho
                      have z0 : (0 : Int) ≤ (Z : Int) := by omega
                      have z1 : (Z : Int) < 128 := by omega
                      have e2 := Z14.out.1 Z hpl
                      have g2 := Z14.out.2.1 Z hpl
                      simp only [wv] at e2
                      go_upto_region 32 with (fail)
                      refine wp_region_lit ?_
                      refine wpList_run rfl (.int .i64 (n : Int)) (by simp [go_sem]) ?_
                      simp only [Act.put, List.setIfInBounds_toArray, List.set_cons_zero, List.set_cons_succ]
                      refine wpList_run rfl (.int .i64 (h : Int)) (by simp [go_sem, f0, fh]) ?_
                      simp only [Act.put, List.setIfInBounds_toArray, List.set_cons_zero, List.set_cons_succ]
                      refine wpList_run rfl (.int .i64 (16 * (h : Int))) (by simp [go_sem, f2]) ?_
                      simp only [Act.put, List.setIfInBounds_toArray, List.set_cons_zero, List.set_cons_succ]
                      refine wpList_run rfl (.int .i64 (k : Int)) (by simp [go_sem]) ?_
                      simp only [Act.put, List.setIfInBounds_toArray, List.set_cons_zero, List.set_cons_succ]
                      refine wpList_run rfl (.int .i64 (2 * (k : Int))) (by simp [go_sem, kf]) ?_
                      simp only [Act.put, List.setIfInBounds_toArray, List.set_cons_zero, List.set_cons_succ]
                      refine wpList_run rfl (.int .i64 (16 * (h : Int) + 2 * (k : Int))) (by simp [go_sem, f3]) ?_
                      simp only [Act.put, List.setIfInBounds_toArray, List.set_cons_zero, List.set_cons_succ]
                      refine wpList_run rfl (.int .i64 (n : Int)) (by simp [go_sem]) ?_
                      simp only [Act.put, List.setIfInBounds_toArray, List.set_cons_zero, List.set_cons_succ]
                      refine wpList_run rfl (.int .i64 (o : Int)) (by simp [go_sem, f4]) ?_
                      simp only [Act.put, List.setIfInBounds_toArray, List.set_cons_zero, List.set_cons_succ]
                      refine wpList_run rfl (.int .i64 (Z : Int)) (by simp [go_sem, f5]) ?_
                      simp only [Act.put, List.setIfInBounds_toArray, List.set_cons_zero, List.set_cons_succ]
                      refine wpList_run rfl (.int .i64 (n : Int)) (by simp [go_sem]) ?_
                      simp only [Act.put, List.setIfInBounds_toArray, List.set_cons_zero, List.set_cons_succ]
                      refine wpList_run rfl (.pointer (some ⟨c, n, none⟩)) (by simp [go_sem, n0, n1]) ?_
                      simp only [Act.put, List.setIfInBounds_toArray, List.set_cons_zero, List.set_cons_succ]
                      refine wpList_run rfl (.int .u64 ((s n).toNat : Int)) (by simp [go_sem, e1]) ?_
                      simp only [Act.put, List.setIfInBounds_toArray, List.set_cons_zero, List.set_cons_succ]
                      refine wpList_run rfl (.pointer (some ⟨v, Z, none⟩)) (by simp [go_sem, z0, z1]) ?_
                      simp only [Act.put, List.setIfInBounds_toArray, List.set_cons_zero, List.set_cons_succ]
                      go_wp2
                      exact ⟨⟨n + 1, by omega, by go_num, C14.out.other _ _ (by show v ≠ c; have := hc1.out; omega), (Z14.out.set Z (.int .u64 ((s n).toNat : Int))).congr (fun j _ => by
                        simp only [wv]
                        rw [← hsc.out j]
                        split <;> rfl), Q14.out.other _ _ (by show v ≠ q; have := hv1.out; omega), R14.out.other _ _ (by show v ≠ d; have := hv2.out; omega), Below.setCell hE14.out (by show w0.heap.size ≤ v; exact hvw.out) _⟩, by simp [intOf]; omega⟩
                    · obtain rfl : n = 16 := by omega
                      have n1 : ¬ ((16 : Nat) : Int) < 16 := by decide
                      rw [← hFs2.out] at Z14
                      go_wp2
                      exact ⟨⟨k + 1, by omega, by go_num, Z14.out, Q14.out, R14.out, hE14.out⟩, by simp [intOf]; omega⟩
            · obtain rfl : k = 8 := by omega
              have k1 : ¬ ((8 : Nat) : Int) < 8 := by decide
              clear hlt hk
              have Z7 : Hid (RowAt v 128 (wv z) wr) := hideit (by rw [hzz.out]; exact Z8.out)
              have Q7 := Q8
              have R7 := R8
              have hE7 := hE8
              clear Z8 Q8 R8 hE8
              go_wp2
              go_loopw [16] (fun iv X => ∃ i : Nat, i ≤ 128 ∧ iv = .int .i64 i ∧ RowAt v 128 (wv (upX z r i)) X ∧ RowAt q 128 (wv r) X ∧ RowAt d 128 (wv fun _ => 0#64) X ∧ Ext w0 X) (fun iv _ => 128 - (intOf iv).toNat)
              case atStart => exact ⟨0, by omega, rfl, Z7.out.congr (fun j _ => by simp only [wv, upX]; rw [if_neg (Nat.not_lt_zero _)]), Q7.out, R7.out, hE7.out⟩
              case round =>
                clear Z7 Q7 R7 hE7
                obtain ⟨i, hi, rfl, hZ, hQ, hR, hE⟩ := hrel
                have Z5 := hideit hZ
                have Q5 := hideit hQ
                have R5 := hideit hR
                have hE5 := hideit hE
                clear hZ hQ hR hE
                by_cases hlt : i < 128
                · have i0 : (0 : Int) ≤ (i : Int) := by omega
                  have i1 : (i : Int) < 128 := by omega
                  have hzi : Hid (upX z r i i = z i) := hideit (by unfold upX; rw [if_neg (Nat.lt_irrefl _)])
                  go_upto_region 36 with (fail)
                  have hne := kept_ne wr.drew
                  have e1 : ∀ q9 : Kept (Ext wr.drew), q9.w.cell? ⟨v, i, none⟩ = some (.int .u64 ((z i).toNat : Int)) := fun q9 => (Z5.out.kept i hlt q9).trans (by simp only [wv]; rw [hzi.out])
                  have e2 : ∀ q9 : Kept (Ext wr.drew), q9.w.cell? ⟨q, i, none⟩ = some (.int .u64 ((r i).toNat : Int)) := fun q9 => Q5.out.kept i hlt q9
                  have f1 := xW_fact (z i) (r i)
                  refine wp_region_late 8 (by kernel_rfl) (by kernel_rfl) (by decide) ?_
                  simp only [List.take_succ_cons, List.take_zero, List.drop_succ_cons, List.drop_zero]
                  refine wpStrong_run 8 rfl ?_
                  simp only [List.take_succ_cons, List.take_zero, List.drop_succ_cons, List.drop_zero]
                  repeat (go_big_quiet_step (fail))
                  refine wpQuiet_nil ?_
                  refine wpStrong_nil ?_
                  intro X hX
                  have hwX : Ext wr X := Ext.trans (Below.refl _ _).drew hX
                  clear hX hne e1 e2
                  have Z6 := hideit (Z5.out.carry hwX)
                  have Q6 := hideit (Q5.out.carry hwX)
                  have R6 := hideit (R5.out.carry hwX)
                  have hE6 := hideit (Ext.trans hE5.out hwX)
                  clear Z5 Q5 R5 hE5 hwX f1
                  have e3 := Z6.out.1 i hlt
                  have g3 := Z6.out.2.1 i hlt
                  simp only [wv] at e3
                  go_wp2
                  exact ⟨⟨i + 1, by omega, by go_num, (Z6.out.set i (.int .u64 ((xW (z i) (r i)).toNat : Int))).congr (fun j _ => by
                    simp only [wv, upX]
                    by_cases h1 : j = i
                    · rw [if_pos h1, if_pos (by omega), h1]
                    · rw [if_neg h1]
                      by_cases h2 : j < i
                      · rw [if_pos h2, if_pos (by omega)]
                      · rw [if_neg h2, if_neg (by omega)]), Q6.out.other _ _ (by show v ≠ q; have := hv1.out; omega), R6.out.other _ _ (by show v ≠ d; have := hv2.out; omega), Below.setCell hE6.out (by show w0.heap.size ≤ v; exact hvw.out) _⟩, by simp [intOf]; omega⟩
                · obtain rfl : i = 128 := by omega
                  have i1 : ¬ ((128 : Nat) : Int) < 128 := by decide
                  have Z6 : Hid (RowAt v 128 (wv g) wr) := hideit (Z5.out.congr fun j hj => by rw [hg.out]; simp only [wv, upX, xrF]; rw [if_pos hj])
                  clear Z5 Q5 hlt hi
                  go_upto_region 37 with (fail)
                  refine wp_region_lit ?_
                  refine wpList_load_mid rfl 31 (.tmp 7) rfl v 0 rfl (row 128 (wv g)) _ Z6.out.range Tryd.underlying31 rfl (by rw [row_length]; exact infoPg) ?_
                  simp only [Act.put, List.setIfInBounds_toArray, List.set_cons_zero, List.set_cons_succ]
                  refine wpList_store_mid rfl 31 (.tmp 4) (.tmp 114) rfl d 0 (row 128 (wv g)).toArray rfl rfl (by rw [row_size]; exact R5.out.there) (by rw [row_size]; exact infoPg) (row_one fun _ _ => rfl) ?_
                  rw [show (row 128 (wv g)).toArray.toList = row 128 (wv g) from rfl]
                  have h9 := hideit (R5.out.cells (g' := wv g))
                  have hE10 := hideit (below_setCells d hdw.out (row 128 (wv g)) 0 _ hE5.out)
                  generalize wr.setCells d 0 (row 128 (wv g)) = w20 at *
                  clear Z6 R5 hE5
                  simp only [Act.put]
                  go_wp2
                  exact bodyPost_ret (ret_row Tryd.results13 rfl h9.out Tryd.underlying31 rfl infoPg) rfl ⟨rfl, hE10.out⟩
theorem rpages_any (x y : Nat → BitVec 64) (w : World) :
    Calls Tryd.prog 13 #[.agg (row 128 (wv x)).toArray, .agg (row 128 (wv y)).toArray] w fun e w' => e = .returned (.agg (row 128 (wv (pagesF x y))).toArray) ∧ Ext w w' :=
  rpages_core x y _ _ _ (linesK plcR (xrF x y)) (linesK plcC (linesK plcR (xrF x y) 8)) rfl rfl (fun _ => rfl) rfl (fun _ => rfl) rfl rfl w
end Go.Proofs.YtfbmeclpcgdmhaaDoor
