/-
  The law of rows, walked.
-/
import Derived.Test.YtfbmeclpcgdmhabDoorSt8
import Derived.Test.YtfbmeclpcgdmhabDoorPZ
import Derived.Test.YtfbmeclpcgdmhabDoorLad
import Derived.Test.YtfbmeclpcgdmhabDoorLives
namespace Go.Proofs.YtfbmeclpcgdmhabDoor
open Go.RowKit Go.BigFrame
theorem run_ldX {P : Program} {o : Oper} {a : Act} {X : World} (t : TypeId) (x : Operand) (b n : Nat) (g : Nat → Value) {d : TypeDesc} (ho : o.op = .load t x) (hx : a.eval x = .pointer (some ⟨b, 0, none⟩)) (h : RowAt b n g X)
    (hu : P.underlying t = some d) (hd : d.isRow = true) (hi : (P.info? t).map (·.size) = some n) : (execOp a.eval o).run P X = .ok (.value (.agg (row n g).toArray)) X := by
  unfold execOp
  simp only [ho, hx, Instr.loadAt, Instr.sureAddr, Sem.run_bind, Sem.run_pure, Result.andThen_ok, run_loadVar_mid (P := P) X b 0 t (row n g) _ h.range hu hd (by rw [row_length]; exact hi)]
theorem exec_buildP {P : Program} {o : Oper} {a : Act} {w : World} (t : TypeId) (l : List (Nat × Operand)) (ho : o.op = .build t l.toArray) (v : Value) (hr : (Instr.build t (l.map fun x => (x.1, a.eval x.2)).toArray).run P w = .ok v w) : (execOp a.eval o).run P w = .ok (.value v) w := by
  unfold execOp
  rw [ho]
  simp only [List.map_toArray, Sem.run_bind, hr, Result.andThen_ok, Sem.run_pure]
set_option maxRecDepth 20000 in
set_option maxHeartbeats 9000000 in
theorem rows_law (r z g : Nat → BitVec 64) (F H : Nat → Nat → BitVec 64) (hF0 : Hid (F 0 = r)) (Fs : Hid (∀ k, F (k + 1) = putF (F k) (plcR k) (stK (fun i => F k (plcR k i)) 8) 16)) (hH0 : Hid (H 0 = F 8)) (Hs : Hid (∀ k, H (k + 1) = putF (H k) (plcC k) (stK (fun i => H k (plcC k i)) 8) 16)) (hzz : Hid (z = H 8)) (hg : Hid (g = xrF z r))
    (hp : ∀ X, Hid (TabM X → Calls Tryd.prog 10 #[.agg (row 128 (wv r)).toArray, .agg (row 128 (wv zP)).toArray] X fun e w' => e = .returned (.agg (row 128 (wv g)).toArray) ∧ Ext X w')) (w0 : World) (hC : Hid (TabC w0)) (hM : Hid (TabM w0)) :
    Calls Tryd.prog 3 #[.agg (row 128 (wv r)).toArray] w0 fun e w' => e = .returned (.bool true) ∧ Ext w0 w' := by
  have hz46 := zero46
  have hE0 := hideit (Ext.refl w0)
  go_enter Tryd.func3, Tryd.ntmps3
  go_upto_region 0 with (fail)
  refine wp_region_lit ?_
  have Q6 := hideit (RowAt.new w0 128 (wv r) 24)
  have M3 : Ext w0 (w0.alloc (.cells (row 128 (wv r)).toArray 24)) := (Below.refl _ _).alloc (Nat.le_refl _) _
  have hE6 := hideit (Ext.trans hE0.out M3)
  clear M3 hE0
  refine wpList_to rfl (.pointer (some ⟨w0.heap.size, 0, none⟩)) (w0.alloc (.cells (row 128 (wv r)).toArray 24)) (by simp [go_sem]) ?_
  simp only [Act.put, List.setIfInBounds_toArray, List.set_cons_zero, List.set_cons_succ]
  generalize w0.alloc (.cells (row 128 (wv r)).toArray 24) = w6 at *
  refine wpList_run rfl (.bool false) (by simp [go_sem]) ?_
  simp only [Act.put, List.setIfInBounds_toArray, List.set_cons_zero, List.set_cons_succ]
  obtain ⟨q, hq0⟩ : ∃ q, q = w0.heap.size := ⟨_, rfl⟩
  rw [← hq0] at Q6 ⊢
  clear hq0
  go_upto_region 1 with (fail)
  refine wp_region_lit ?_
  refine wpList_load_mid rfl 24 (.tmp 1) rfl q 0 rfl (row 128 (wv r)) _ Q6.out.range Tryd.underlying24 rfl (by rw [row_length]; exact infoPg) ?_
  simp only [Act.put, List.setIfInBounds_toArray, List.set_cons_zero, List.set_cons_succ]
  have hv1 : Hid (q < w6.heap.size) := hideit Q6.out.2.2
  have hv2 : Hid (q < w6.heap.size) := hideit Q6.out.2.2
  have hvw : Hid (w0.heap.size ≤ w6.heap.size) := hideit (Below.size hE6.out)
  have M1 := hideit (RowAt.new w6 128 (wv fun _ => 0#64) 24)
  have M3 : Ext w6 ((w6.alloc (.cells (row 128 (wv fun _ => 0#64)).toArray 24)).setCells w6.heap.size 0 (row 128 (wv r))) := below_setCells w6.heap.size (Nat.le_refl _) _ 0 _ ((Below.refl _ _).alloc (Nat.le_refl _) _)
  have Z7 := hideit (M1.out.cells (g' := wv r))
  refine wpList_to rfl (.pointer (some ⟨w6.heap.size, 0, none⟩)) (w6.alloc (.cells (row 128 (wv fun _ => 0#64)).toArray 24)) (exec_allocP 24 _ rfl (zero31p _)) ?_
  simp only [Act.put, List.setIfInBounds_toArray, List.set_cons_zero, List.set_cons_succ]
  refine wpList_store_mid rfl 24 (.tmp 3) (.tmp 13) rfl w6.heap.size 0 (row 128 (wv r)).toArray rfl rfl (by rw [row_size]; exact M1.out.there) (by rw [row_size]; exact infoPg) (row_one fun _ _ => rfl) ?_
  rw [show (row 128 (wv r)).toArray.toList = row 128 (wv r) from rfl]
  have Q7 := hideit (Q6.out.carry M3)
  have hE7 := hideit (Ext.trans hE6.out M3)
  clear M3 hE6 Q6
  generalize (w6.alloc (.cells (row 128 (wv fun _ => 0#64)).toArray 24)).setCells w6.heap.size 0 (row 128 (wv r)) = w7 at *
  generalize w6.heap.size = v at *
  clear M1
  simp only [Act.put]
  have R7 := Q7
  go_wp2
  go_loopw [4] (fun iv X => ∃ k : Nat, k ≤ 8 ∧ iv = .int .i64 k ∧ RowAt v 128 (wv (F k)) X ∧ RowAt q 128 (wv r) X ∧ RowAt q 128 (wv r) X ∧ Ext w0 X) (fun iv _ => 8 - (intOf iv).toNat)
  case atStart => exact ⟨0, by omega, rfl, by rw [hF0.out]; exact Z7.out, Q7.out, R7.out, hE7.out⟩
  case round =>
    clear Z7 Q7 R7 hE7
    obtain ⟨k, hk, rfl, hZ, hQ, hR, hE⟩ := hrel
    have Z8 := hideit hZ
    have Q8 := hideit hQ
    have R8 := hideit hR
    have hE8 := hideit hE
    clear hZ hQ hR hE
    by_cases hlt : k < 8
    · have k0 : (0 : Int) ≤ (k : Int) := by omega
      have k1 : (k : Int) < 8 := by omega
      have kf : IntKind.i64.wrap (16 * (k : Int)) = 16 * (k : Int) := by rw [IntKind.wrap_i64]; omega
      obtain ⟨P, hP⟩ : ∃ P : Nat → BitVec 64, P = fun i => F k (plcR k i) := ⟨_, rfl⟩
      obtain ⟨V, hV⟩ : ∃ V, V = F k := ⟨_, rfl⟩
      rw [← hV] at Z8
      have hPe : Hid (∀ i, V (plcR k i) = P i) := hideit fun i => by rw [hV, hP]
      have hFk : Hid (F (k + 1) = putF V (plcR k) (stK P 8) 16) := hideit (by rw [hV, hP]; exact Fs.out k)
      clear hP hV
      have C9 := hideit (RowAt.new wr 16 (wv fun _ => 0#64) 25)
      have X9 : Ext wr (wr.alloc (.cells (row 16 (wv fun _ => 0#64)).toArray 25)) := (Below.refl _ _).alloc (Nat.le_refl _) _
      have Z9 := hideit (Z8.out.carry X9)
      have Q9 := hideit (Q8.out.carry X9)
      have R9 := hideit (R8.out.carry X9)
      have hE9 := hideit (Ext.trans hE8.out X9)
      have hc1 : Hid (v < wr.heap.size) := hideit Z8.out.2.2
      have hc2 : Hid (q < wr.heap.size) := hideit Q8.out.2.2
      have hc3 : Hid (q < wr.heap.size) := hideit R8.out.2.2
      have hcw : Hid (w0.heap.size ≤ wr.heap.size) := hideit (Below.size hE8.out)
      clear Z8 Q8 R8 hE8 X9
      go_upto_region 5 with (fail)
      refine wp_region_lit ?_
      refine wpList_to rfl (.pointer (some ⟨wr.heap.size, 0, none⟩)) (wr.alloc (.cells (row 16 (wv fun _ => 0#64)).toArray 25)) (by simp [go_sem, hz46]) ?_
      simp only [Act.put, List.setIfInBounds_toArray, List.set_cons_zero, List.set_cons_succ]
      generalize wr.alloc (.cells (row 16 (wv fun _ => 0#64)).toArray 25) = w9 at *
      generalize wr.heap.size = c at *
      go_wp2
      go_loopw [6] (fun iv X => ∃ m : Nat, m ≤ 16 ∧ iv = .int .i64 m ∧ RowAt c 16 (wv (upW P m)) X ∧ RowAt v 128 (wv V) X ∧ RowAt q 128 (wv r) X ∧ RowAt q 128 (wv r) X ∧ Ext w0 X) (fun iv _ => 16 - (intOf iv).toNat)
      case atStart => exact ⟨0, by omega, rfl, C9.out.congr (fun j _ => by simp only [wv, upW]; rw [if_neg (Nat.not_lt_zero _)]), Z9.out, Q9.out, R9.out, hE9.out⟩
      case round =>
        clear C9 Z9 Q9 R9 hE9
        obtain ⟨m, hm, rfl, hC, hZ, hQ, hR, hE⟩ := hrel
        have C10 := hideit hC
        have Z10 := hideit hZ
        have Q10 := hideit hQ
        have R10 := hideit hR
        have hE10 := hideit hE
        clear hC hZ hQ hR hE
        by_cases hlm : m < 16
        · have m0 : (0 : Int) ≤ (m : Int) := by omega
          have m1 : (m : Int) < 16 := by omega
          have hpl := plcR_lt k m hlt hlm
          have e1 : wr.cell? ⟨v, plcR k m, none⟩ = some (.int .u64 ((P m).toNat : Int)) := (Z10.out.1 _ hpl).trans (by simp only [wv]; rw [hPe.out])
          obtain ⟨Z, hZe⟩ : ∃ Z, Z = plcR k m := ⟨_, rfl⟩
          rw [← hZe] at e1 hpl
          have f5 : IntKind.i64.wrap (16 * (k : Int) + (m : Int)) = (Z : Int) := by rw [hZe]; unfold plcR; rw [IntKind.wrap_i64]; omega
          clear hZe
          have z0 : (0 : Int) ≤ (Z : Int) := by omega
          have z1 : (Z : Int) < 128 := by omega
          have e2 := C10.out.1 m hlm
          have g2 := C10.out.2.1 m hlm
          simp only [wv] at e2
          go_upto_region 9 with (fail)
          refine wp_region_lit ?_
          refine wpList_run rfl (.int .i64 (m : Int)) (by simp [go_sem]) ?_
          simp only [Act.put, List.setIfInBounds_toArray, List.set_cons_zero, List.set_cons_succ]
          refine wpList_run rfl (.int .i64 (k : Int)) (by simp [go_sem]) ?_
          simp only [Act.put, List.setIfInBounds_toArray, List.set_cons_zero, List.set_cons_succ]
          refine wpList_run rfl (.int .i64 (16 * (k : Int))) (by simp [go_sem, kf]) ?_
          simp only [Act.put, List.setIfInBounds_toArray, List.set_cons_zero, List.set_cons_succ]
          refine wpList_run rfl (.int .i64 (m : Int)) (by simp [go_sem]) ?_
          simp only [Act.put, List.setIfInBounds_toArray, List.set_cons_zero, List.set_cons_succ]
          refine wpList_run rfl (.int .i64 (Z : Int)) (by simp [go_sem, f5]) ?_
          simp only [Act.put, List.setIfInBounds_toArray, List.set_cons_zero, List.set_cons_succ]
          refine wpList_run rfl (.pointer (some ⟨v, Z, none⟩)) (by simp [go_sem, z0, z1]) ?_
          simp only [Act.put, List.setIfInBounds_toArray, List.set_cons_zero, List.set_cons_succ]
          refine wpList_run rfl (.int .u64 ((P m).toNat : Int)) (by simp [go_sem, e1]) ?_
          simp only [Act.put, List.setIfInBounds_toArray, List.set_cons_zero, List.set_cons_succ]
          refine wpList_run rfl (.pointer (some ⟨c, m, none⟩)) (by simp [go_sem, m0, m1]) ?_
          simp only [Act.put, List.setIfInBounds_toArray, List.set_cons_zero, List.set_cons_succ]
          go_wp2
          exact ⟨⟨m + 1, by omega, by go_num, (C10.out.set m (.int .u64 ((P m).toNat : Int))).congr (fun j _ => by
            simp only [wv]
            rw [← upW_set P m j]
            split <;> rfl), Z10.out.other _ _ (by show c ≠ v; have := hc1.out; omega), Q10.out.other _ _ (by show c ≠ q; have := hc2.out; omega), R10.out.other _ _ (by show c ≠ q; have := hc3.out; omega), Below.setCell hE10.out (by show w0.heap.size ≤ c; exact hcw.out) _⟩, by simp [intOf]; omega⟩
        · obtain rfl : m = 16 := by omega
          have m1 : ¬ ((16 : Nat) : Int) < 16 := by decide
          have C11 : Hid (RowAt c 16 (wv P) wr) := hideit (C10.out.congr fun j hj => by simp only [wv, upW]; rw [if_pos hj])
          have kc := hideit (Stir_any P wr (hM.out.ext hE10.out))
          clear C10 hlm hm
          go_upto_region 10 with (fail)
          refine wp_region_lit ?_
          refine wpList_load_mid rfl 25 (.tmp 5) rfl c 0 rfl (row 16 (wv P)) _ C11.out.range Tryd.underlying25 rfl (by rw [row_length]; exact info46) ?_
          simp only [Act.put, List.setIfInBounds_toArray, List.set_cons_zero, List.set_cons_succ]
          refine wpList_call rfl (by simp [go_sem]; exact ⟨rfl, rfl⟩) ?_
          refine (kc.out).mono ?_
          rintro e w12 ⟨rfl, hX⟩
          refine ⟨_, rfl, ?_⟩
          simp only [Act.put, List.setIfInBounds_toArray, List.set_cons_zero, List.set_cons_succ]
          obtain ⟨s, hs⟩ : ∃ s, s = stK P 8 := ⟨_, rfl⟩
          have hFs2 : Hid (F (k + 1) = putF V (plcR k) s 16) := hideit (by rw [hs]; exact hFk.out)
          rw [← hs]
          clear hs hFk
          have C12 := hideit (C11.out.carry hX)
          have Z12 := hideit (Z10.out.carry hX)
          have Q12 := hideit (Q10.out.carry hX)
          have R12 := hideit (R10.out.carry hX)
          have hE12 := hideit (Ext.trans hE10.out hX)
          clear C11 Z10 Q10 R10 hE10 hX kc hPe
          refine wpList_store_mid rfl 25 (.tmp 5) (.tmp 31) rfl c 0 (row 16 (wv s)).toArray rfl rfl (by rw [row_size]; exact C12.out.there) (by rw [row_size]; exact info46) (row_one fun _ _ => rfl) ?_
          rw [show (row 16 (wv s)).toArray.toList = row 16 (wv s) from rfl]
          have C13 := hideit (C12.out.cells (g' := wv s))
          have Z13 := hideit (Z12.out.cellsOther (c := c) (by have := hc1.out; omega) (row 16 (wv s)) 0)
          have Q13 := hideit (Q12.out.cellsOther (c := c) (by have := hc2.out; omega) (row 16 (wv s)) 0)
          have R13 := hideit (R12.out.cellsOther (c := c) (by have := hc3.out; omega) (row 16 (wv s)) 0)
          have hE13 := hideit (below_setCells c hcw.out (row 16 (wv s)) 0 _ hE12.out)
          clear C12 Z12 Q12 R12 hE12
          generalize w12.setCells c 0 (row 16 (wv s)) = w13 at *
          simp only [Act.put]
          go_wp2
          go_loopw [7] (fun iv X => ∃ n : Nat, n ≤ 16 ∧ iv = .int .i64 n ∧ RowAt c 16 (wv s) X ∧ RowAt v 128 (wv (putF V (plcR k) s n)) X ∧ RowAt q 128 (wv r) X ∧ RowAt q 128 (wv r) X ∧ Ext w0 X) (fun iv _ => 16 - (intOf iv).toNat)
          case atStart => exact ⟨0, by omega, rfl, C13.out, Z13.out, Q13.out, R13.out, hE13.out⟩
          case round =>
            clear C13 Z13 Q13 R13 hE13
            obtain ⟨n, hn, rfl, hC, hZ, hQ, hR, hE⟩ := hrel
            have C14 := hideit hC
            have Z14 := hideit hZ
            have Q14 := hideit hQ
            have R14 := hideit hR
            have hE14 := hideit hE
            clear hC hZ hQ hR hE
            by_cases hln : n < 16
            · have n0 : (0 : Int) ≤ (n : Int) := by omega
              have n1 : (n : Int) < 16 := by omega
              have hpl := plcR_lt k n hlt hln
              have e1 : wr.cell? ⟨c, n, none⟩ = some (.int .u64 ((s n).toNat : Int)) := C14.out.1 n hln
              have hsc : Hid (∀ j, (if j = plcR k n then s n else putF V (plcR k) s n j) = putF V (plcR k) s (n + 1) j) := hideit fun j => rfl
              obtain ⟨Z, hZe⟩ : ∃ Z, Z = plcR k n := ⟨_, rfl⟩
              rw [← hZe] at hsc hpl
              have f5 : IntKind.i64.wrap (16 * (k : Int) + (n : Int)) = (Z : Int) := by rw [hZe]; unfold plcR; rw [IntKind.wrap_i64]; omega
              clear hZe
              have z0 : (0 : Int) ≤ (Z : Int) := by omega
              have z1 : (Z : Int) < 128 := by omega
              have e2 := Z14.out.1 Z hpl
              have g2 := Z14.out.2.1 Z hpl
              simp only [wv] at e2
              go_upto_region 14 with (fail)
              refine wp_region_lit ?_
              refine wpList_run rfl (.int .i64 (k : Int)) (by simp [go_sem]) ?_
              simp only [Act.put, List.setIfInBounds_toArray, List.set_cons_zero, List.set_cons_succ]
              refine wpList_run rfl (.int .i64 (16 * (k : Int))) (by simp [go_sem, kf]) ?_
              simp only [Act.put, List.setIfInBounds_toArray, List.set_cons_zero, List.set_cons_succ]
              refine wpList_run rfl (.int .i64 (n : Int)) (by simp [go_sem]) ?_
              simp only [Act.put, List.setIfInBounds_toArray, List.set_cons_zero, List.set_cons_succ]
              refine wpList_run rfl (.int .i64 (Z : Int)) (by simp [go_sem, f5]) ?_
              simp only [Act.put, List.setIfInBounds_toArray, List.set_cons_zero, List.set_cons_succ]
              refine wpList_run rfl (.int .i64 (n : Int)) (by simp [go_sem]) ?_
              simp only [Act.put, List.setIfInBounds_toArray, List.set_cons_zero, List.set_cons_succ]
              refine wpList_run rfl (.pointer (some ⟨c, n, none⟩)) (by simp [go_sem, n0, n1]) ?_
              simp only [Act.put, List.setIfInBounds_toArray, List.set_cons_zero, List.set_cons_succ]
              refine wpList_run rfl (.int .u64 ((s n).toNat : Int)) (by simp [go_sem, e1]) ?_
              simp only [Act.put, List.setIfInBounds_toArray, List.set_cons_zero, List.set_cons_succ]
              refine wpList_run rfl (.pointer (some ⟨v, Z, none⟩)) (by simp [go_sem, z0, z1]) ?_
              simp only [Act.put, List.setIfInBounds_toArray, List.set_cons_zero, List.set_cons_succ]
              go_wp2
              exact ⟨⟨n + 1, by omega, by go_num, C14.out.other _ _ (by show v ≠ c; have := hc1.out; omega), (Z14.out.set Z (.int .u64 ((s n).toNat : Int))).congr (fun j _ => by
                simp only [wv]
                rw [← hsc.out j]
                split <;> rfl), Q14.out.other _ _ (by show v ≠ q; have := hv1.out; omega), R14.out.other _ _ (by show v ≠ q; have := hv2.out; omega), Below.setCell hE14.out (by show w0.heap.size ≤ v; exact hvw.out) _⟩, by simp [intOf]; omega⟩
            · obtain rfl : n = 16 := by omega
              have n1 : ¬ ((16 : Nat) : Int) < 16 := by decide
              rw [← hFs2.out] at Z14
              go_wp2
              exact ⟨⟨k + 1, by omega, by go_num, Z14.out, Q14.out, R14.out, hE14.out⟩, by simp [intOf]; omega⟩
    · obtain rfl : k = 8 := by omega
      have k1 : ¬ ((8 : Nat) : Int) < 8 := by decide
      clear hlt hk
      have Z7 : Hid (RowAt v 128 (wv (H 0)) wr) := hideit (by rw [hH0.out]; exact Z8.out)
      have Q7 := Q8
      have R7 := R8
      have hE7 := hE8
      clear Z8 Q8 R8 hE8
      go_wp2
      go_loopw [8] (fun iv X => ∃ k : Nat, k ≤ 8 ∧ iv = .int .i64 k ∧ RowAt v 128 (wv (H k)) X ∧ RowAt q 128 (wv r) X ∧ RowAt q 128 (wv r) X ∧ Ext w0 X) (fun iv _ => 8 - (intOf iv).toNat)
      case atStart => exact ⟨0, by omega, rfl, Z7.out, Q7.out, R7.out, hE7.out⟩
      case round =>
        clear Z7 Q7 R7 hE7
        obtain ⟨k, hk, rfl, hZ, hQ, hR, hE⟩ := hrel
        have Z8 := hideit hZ
        have Q8 := hideit hQ
        have R8 := hideit hR
        have hE8 := hideit hE
        clear hZ hQ hR hE
        by_cases hlt : k < 8
        · have k0 : (0 : Int) ≤ (k : Int) := by omega
          have k1 : (k : Int) < 8 := by omega
          have kf : IntKind.i64.wrap (2 * (k : Int)) = 2 * (k : Int) := by rw [IntKind.wrap_i64]; omega
          obtain ⟨P, hP⟩ : ∃ P : Nat → BitVec 64, P = fun i => H k (plcC k i) := ⟨_, rfl⟩
          obtain ⟨V, hV⟩ : ∃ V, V = H k := ⟨_, rfl⟩
          rw [← hV] at Z8
          have hPe : Hid (∀ i, V (plcC k i) = P i) := hideit fun i => by rw [hV, hP]
          have hFk : Hid (H (k + 1) = putF V (plcC k) (stK P 8) 16) := hideit (by rw [hV, hP]; exact Hs.out k)
          clear hP hV
          have C9 := hideit (RowAt.new wr 16 (wv fun _ => 0#64) 25)
          have X9 : Ext wr (wr.alloc (.cells (row 16 (wv fun _ => 0#64)).toArray 25)) := (Below.refl _ _).alloc (Nat.le_refl _) _
          have Z9 := hideit (Z8.out.carry X9)
          have Q9 := hideit (Q8.out.carry X9)
          have R9 := hideit (R8.out.carry X9)
          have hE9 := hideit (Ext.trans hE8.out X9)
          have hc1 : Hid (v < wr.heap.size) := hideit Z8.out.2.2
          have hc2 : Hid (q < wr.heap.size) := hideit Q8.out.2.2
          have hc3 : Hid (q < wr.heap.size) := hideit R8.out.2.2
          have hcw : Hid (w0.heap.size ≤ wr.heap.size) := hideit (Below.size hE8.out)
          clear Z8 Q8 R8 hE8 X9
          go_upto_region 18 with (fail)
          refine wp_region_lit ?_
          refine wpList_to rfl (.pointer (some ⟨wr.heap.size, 0, none⟩)) (wr.alloc (.cells (row 16 (wv fun _ => 0#64)).toArray 25)) (by simp [go_sem, hz46]) ?_
          simp only [Act.put, List.setIfInBounds_toArray, List.set_cons_zero, List.set_cons_succ]
          generalize wr.alloc (.cells (row 16 (wv fun _ => 0#64)).toArray 25) = w9 at *
          generalize wr.heap.size = c at *
          go_wp2
          go_loopw [10] (fun iv X => ∃ m : Nat, m ≤ 16 ∧ iv = .int .i64 m ∧ RowAt c 16 (wv (upW P m)) X ∧ RowAt v 128 (wv V) X ∧ RowAt q 128 (wv r) X ∧ RowAt q 128 (wv r) X ∧ Ext w0 X) (fun iv _ => 16 - (intOf iv).toNat)
          case atStart => exact ⟨0, by omega, rfl, C9.out.congr (fun j _ => by simp only [wv, upW]; rw [if_neg (Nat.not_lt_zero _)]), Z9.out, Q9.out, R9.out, hE9.out⟩
          case round =>
            clear C9 Z9 Q9 R9 hE9
            obtain ⟨m, hm, rfl, hC, hZ, hQ, hR, hE⟩ := hrel
            have C10 := hideit hC
            have Z10 := hideit hZ
            have Q10 := hideit hQ
            have R10 := hideit hR
            have hE10 := hideit hE
            clear hC hZ hQ hR hE
            by_cases hlm : m < 16
            · have m0 : (0 : Int) ≤ (m : Int) := by omega
              have m1 : (m : Int) < 16 := by omega
              have hpl := plcC_lt k m hlt hlm
              have e1 : wr.cell? ⟨v, plcC k m, none⟩ = some (.int .u64 ((P m).toNat : Int)) := (Z10.out.1 _ hpl).trans (by simp only [wv]; rw [hPe.out])
              obtain ⟨Z, hZe⟩ : ∃ Z, Z = plcC k m := ⟨_, rfl⟩
              rw [← hZe] at e1 hpl
              obtain ⟨h, hh⟩ : ∃ h, h = m / 2 := ⟨_, rfl⟩
              obtain ⟨o, ho⟩ : ∃ o, o = m % 2 := ⟨_, rfl⟩
              have f0 : ((m : Int)).tdiv 2 = (h : Int) := by rw [hh, Int.tdiv_eq_ediv_of_nonneg (by omega)]; omega
              have fh : IntKind.i64.wrap (h : Int) = (h : Int) := by rw [IntKind.wrap_i64]; omega
              have f2 : IntKind.i64.wrap (16 * (h : Int)) = 16 * (h : Int) := by rw [IntKind.wrap_i64]; omega
              have f3 : IntKind.i64.wrap (16 * (h : Int) + 2 * (k : Int)) = 16 * (h : Int) + 2 * (k : Int) := by rw [IntKind.wrap_i64]; omega
              have f4 : ((m : Int)).tmod 2 = (o : Int) := by rw [ho, Int.tmod_eq_emod_of_nonneg (by omega)]; omega
              have f5 : IntKind.i64.wrap (16 * (h : Int) + 2 * (k : Int) + (o : Int)) = (Z : Int) := by rw [hZe, hh, ho]; unfold plcC; rw [IntKind.wrap_i64]; omega
              clear hZe hh ho
              have z0 : (0 : Int) ≤ (Z : Int) := by omega
              have z1 : (Z : Int) < 128 := by omega
              have e2 := C10.out.1 m hlm
              have g2 := C10.out.2.1 m hlm
              simp only [wv] at e2
              go_upto_region 22 with (fail)
              refine wp_region_lit ?_
              refine wpList_run rfl (.int .i64 (m : Int)) (by simp [go_sem]) ?_
              simp only [Act.put, List.setIfInBounds_toArray, List.set_cons_zero, List.set_cons_succ]
              refine wpList_run rfl (.int .i64 (m : Int)) (by simp [go_sem]) ?_
              simp only [Act.put, List.setIfInBounds_toArray, List.set_cons_zero, List.set_cons_succ]
              refine wpList_run rfl (.int .i64 (h : Int)) (by simp [go_sem, f0, fh]) ?_
              simp only [Act.put, List.setIfInBounds_toArray, List.set_cons_zero, List.set_cons_succ]
              refine wpList_run rfl (.int .i64 (16 * (h : Int))) (by simp [go_sem, f2]) ?_
              simp only [Act.put, List.setIfInBounds_toArray, List.set_cons_zero, List.set_cons_succ]
              refine wpList_run rfl (.int .i64 (k : Int)) (by simp [go_sem]) ?_
              simp only [Act.put, List.setIfInBounds_toArray, List.set_cons_zero, List.set_cons_succ]
              refine wpList_run rfl (.int .i64 (2 * (k : Int))) (by simp [go_sem, kf]) ?_
              simp only [Act.put, List.setIfInBounds_toArray, List.set_cons_zero, List.set_cons_succ]
              refine wpList_run rfl (.int .i64 (16 * (h : Int) + 2 * (k : Int))) (by simp [go_sem, f3]) ?_
              simp only [Act.put, List.setIfInBounds_toArray, List.set_cons_zero, List.set_cons_succ]
              refine wpList_run rfl (.int .i64 (m : Int)) (by simp [go_sem]) ?_
              simp only [Act.put, List.setIfInBounds_toArray, List.set_cons_zero, List.set_cons_succ]
              refine wpList_run rfl (.int .i64 (o : Int)) (by simp [go_sem, f4]) ?_
              simp only [Act.put, List.setIfInBounds_toArray, List.set_cons_zero, List.set_cons_succ]
              refine wpList_run rfl (.int .i64 (Z : Int)) (by simp [go_sem, f5]) ?_
              simp only [Act.put, List.setIfInBounds_toArray, List.set_cons_zero, List.set_cons_succ]
              refine wpList_run rfl (.pointer (some ⟨v, Z, none⟩)) (by simp [go_sem, z0, z1]) ?_
              simp only [Act.put, List.setIfInBounds_toArray, List.set_cons_zero, List.set_cons_succ]
              refine wpList_run rfl (.int .u64 ((P m).toNat : Int)) (by simp [go_sem, e1]) ?_
              simp only [Act.put, List.setIfInBounds_toArray, List.set_cons_zero, List.set_cons_succ]
              refine wpList_run rfl (.pointer (some ⟨c, m, none⟩)) (by simp [go_sem, m0, m1]) ?_
              simp only [Act.put, List.setIfInBounds_toArray, List.set_cons_zero, List.set_cons_succ]
              go_wp2
              exact ⟨⟨m + 1, by omega, by go_num, (C10.out.set m (.int .u64 ((P m).toNat : Int))).congr (fun j _ => by
                simp only [wv]
                rw [← upW_set P m j]
                split <;> rfl), Z10.out.other _ _ (by show c ≠ v; have := hc1.out; omega), Q10.out.other _ _ (by show c ≠ q; have := hc2.out; omega), R10.out.other _ _ (by show c ≠ q; have := hc3.out; omega), Below.setCell hE10.out (by show w0.heap.size ≤ c; exact hcw.out) _⟩, by simp [intOf]; omega⟩
            · obtain rfl : m = 16 := by omega
              have m1 : ¬ ((16 : Nat) : Int) < 16 := by decide
              have C11 : Hid (RowAt c 16 (wv P) wr) := hideit (C10.out.congr fun j hj => by simp only [wv, upW]; rw [if_pos hj])
              have kc := hideit (Stir_any P wr (hM.out.ext hE10.out))
              clear C10 hlm hm
              go_upto_region 23 with (fail)
              refine wp_region_lit ?_
              refine wpList_load_mid rfl 25 (.tmp 9) rfl c 0 rfl (row 16 (wv P)) _ C11.out.range Tryd.underlying25 rfl (by rw [row_length]; exact info46) ?_
              simp only [Act.put, List.setIfInBounds_toArray, List.set_cons_zero, List.set_cons_succ]
              refine wpList_call rfl (by simp [go_sem]; exact ⟨rfl, rfl⟩) ?_
              refine (kc.out).mono ?_
              rintro e w12 ⟨rfl, hX⟩
              refine ⟨_, rfl, ?_⟩
              simp only [Act.put, List.setIfInBounds_toArray, List.set_cons_zero, List.set_cons_succ]
              obtain ⟨s, hs⟩ : ∃ s, s = stK P 8 := ⟨_, rfl⟩
              have hFs2 : Hid (H (k + 1) = putF V (plcC k) s 16) := hideit (by rw [hs]; exact hFk.out)
              rw [← hs]
              clear hs hFk
              have C12 := hideit (C11.out.carry hX)
              have Z12 := hideit (Z10.out.carry hX)
              have Q12 := hideit (Q10.out.carry hX)
              have R12 := hideit (R10.out.carry hX)
              have hE12 := hideit (Ext.trans hE10.out hX)
              clear C11 Z10 Q10 R10 hE10 hX kc hPe
              refine wpList_store_mid rfl 25 (.tmp 9) (.tmp 66) rfl c 0 (row 16 (wv s)).toArray rfl rfl (by rw [row_size]; exact C12.out.there) (by rw [row_size]; exact info46) (row_one fun _ _ => rfl) ?_
              rw [show (row 16 (wv s)).toArray.toList = row 16 (wv s) from rfl]
              have C13 := hideit (C12.out.cells (g' := wv s))
              have Z13 := hideit (Z12.out.cellsOther (c := c) (by have := hc1.out; omega) (row 16 (wv s)) 0)
              have Q13 := hideit (Q12.out.cellsOther (c := c) (by have := hc2.out; omega) (row 16 (wv s)) 0)
              have R13 := hideit (R12.out.cellsOther (c := c) (by have := hc3.out; omega) (row 16 (wv s)) 0)
              have hE13 := hideit (below_setCells c hcw.out (row 16 (wv s)) 0 _ hE12.out)
              clear C12 Z12 Q12 R12 hE12
              generalize w12.setCells c 0 (row 16 (wv s)) = w13 at *
              simp only [Act.put]
              go_wp2
              go_loopw [11] (fun iv X => ∃ n : Nat, n ≤ 16 ∧ iv = .int .i64 n ∧ RowAt c 16 (wv s) X ∧ RowAt v 128 (wv (putF V (plcC k) s n)) X ∧ RowAt q 128 (wv r) X ∧ RowAt q 128 (wv r) X ∧ Ext w0 X) (fun iv _ => 16 - (intOf iv).toNat)
              case atStart => exact ⟨0, by omega, rfl, C13.out, Z13.out, Q13.out, R13.out, hE13.out⟩
              case round =>
                clear C13 Z13 Q13 R13 hE13
                obtain ⟨n, hn, rfl, hC, hZ, hQ, hR, hE⟩ := hrel
                have C14 := hideit hC
                have Z14 := hideit hZ
                have Q14 := hideit hQ
                have R14 := hideit hR
                have hE14 := hideit hE
                clear hC hZ hQ hR hE
                by_cases hln : n < 16
                · have n0 : (0 : Int) ≤ (n : Int) := by omega
                  have n1 : (n : Int) < 16 := by omega
                  have hpl := plcC_lt k n hlt hln
                  have e1 : wr.cell? ⟨c, n, none⟩ = some (.int .u64 ((s n).toNat : Int)) := C14.out.1 n hln
                  have hsc : Hid (∀ j, (if j = plcC k n then s n else putF V (plcC k) s n j) = putF V (plcC k) s (n + 1) j) := hideit fun j => rfl
                  obtain ⟨Z, hZe⟩ : ∃ Z, Z = plcC k n := ⟨_, rfl⟩
                  rw [← hZe] at hsc hpl
                  obtain ⟨h, hh⟩ : ∃ h, h = n / 2 := ⟨_, rfl⟩
                  obtain ⟨o, ho⟩ : ∃ o, o = n % 2 := ⟨_, rfl⟩
                  have f0 : ((n : Int)).tdiv 2 = (h : Int) := by rw [hh, Int.tdiv_eq_ediv_of_nonneg (by omega)]; omega
                  have fh : IntKind.i64.wrap (h : Int) = (h : Int) := by rw [IntKind.wrap_i64]; omega
                  have f2 : IntKind.i64.wrap (16 * (h : Int)) = 16 * (h : Int) := by rw [IntKind.wrap_i64]; omega
                  have f3 : IntKind.i64.wrap (16 * (h : Int) + 2 * (k : Int)) = 16 * (h : Int) + 2 * (k : Int) := by rw [IntKind.wrap_i64]; omega
                  have f4 : ((n : Int)).tmod 2 = (o : Int) := by rw [ho, Int.tmod_eq_emod_of_nonneg (by omega)]; omega
                  have f5 : IntKind.i64.wrap (16 * (h : Int) + 2 * (k : Int) + (o : Int)) = (Z : Int) := by rw [hZe, hh, ho]; unfold plcC; rw [IntKind.wrap_i64]; omega
                  clear hZe hh ho
                  have z0 : (0 : Int) ≤ (Z : Int) := by omega
                  have z1 : (Z : Int) < 128 := by omega
                  have e2 := Z14.out.1 Z hpl
                  have g2 := Z14.out.2.1 Z hpl
                  simp only [wv] at e2
                  go_upto_region 27 with (fail)
                  refine wp_region_lit ?_
                  refine wpList_run rfl (.int .i64 (n : Int)) (by simp [go_sem]) ?_
                  simp only [Act.put, List.setIfInBounds_toArray, List.set_cons_zero, List.set_cons_succ]
                  refine wpList_run rfl (.int .i64 (h : Int)) (by simp [go_sem, f0, fh]) ?_
                  simp only [Act.put, List.setIfInBounds_toArray, List.set_cons_zero, List.set_cons_succ]
                  refine wpList_run rfl (.int .i64 (16 * (h : Int))) (by simp [go_sem, f2]) ?_
                  simp only [Act.put, List.setIfInBounds_toArray, List.set_cons_zero, List.set_cons_succ]
                  refine wpList_run rfl (.int .i64 (k : Int)) (by simp [go_sem]) ?_
                  simp only [Act.put, List.setIfInBounds_toArray, List.set_cons_zero, List.set_cons_succ]
                  refine wpList_run rfl (.int .i64 (2 * (k : Int))) (by simp [go_sem, kf]) ?_
                  simp only [Act.put, List.setIfInBounds_toArray, List.set_cons_zero, List.set_cons_succ]
                  refine wpList_run rfl (.int .i64 (16 * (h : Int) + 2 * (k : Int))) (by simp [go_sem, f3]) ?_
                  simp only [Act.put, List.setIfInBounds_toArray, List.set_cons_zero, List.set_cons_succ]
                  refine wpList_run rfl (.int .i64 (n : Int)) (by simp [go_sem]) ?_
                  simp only [Act.put, List.setIfInBounds_toArray, List.set_cons_zero, List.set_cons_succ]
                  refine wpList_run rfl (.int .i64 (o : Int)) (by simp [go_sem, f4]) ?_
                  simp only [Act.put, List.setIfInBounds_toArray, List.set_cons_zero, List.set_cons_succ]
                  refine wpList_run rfl (.int .i64 (Z : Int)) (by simp [go_sem, f5]) ?_
                  simp only [Act.put, List.setIfInBounds_toArray, List.set_cons_zero, List.set_cons_succ]
                  refine wpList_run rfl (.int .i64 (n : Int)) (by simp [go_sem]) ?_
                  simp only [Act.put, List.setIfInBounds_toArray, List.set_cons_zero, List.set_cons_succ]
                  refine wpList_run rfl (.pointer (some ⟨c, n, none⟩)) (by simp [go_sem, n0, n1]) ?_
                  simp only [Act.put, List.setIfInBounds_toArray, List.set_cons_zero, List.set_cons_succ]
                  refine wpList_run rfl (.int .u64 ((s n).toNat : Int)) (by simp [go_sem, e1]) ?_
                  simp only [Act.put, List.setIfInBounds_toArray, List.set_cons_zero, List.set_cons_succ]
                  refine wpList_run rfl (.pointer (some ⟨v, Z, none⟩)) (by simp [go_sem, z0, z1]) ?_
                  simp only [Act.put, List.setIfInBounds_toArray, List.set_cons_zero, List.set_cons_succ]
                  go_wp2
                  exact ⟨⟨n + 1, by omega, by go_num, C14.out.other _ _ (by show v ≠ c; have := hc1.out; omega), (Z14.out.set Z (.int .u64 ((s n).toNat : Int))).congr (fun j _ => by
                    simp only [wv]
                    rw [← hsc.out j]
                    split <;> rfl), Q14.out.other _ _ (by show v ≠ q; have := hv1.out; omega), R14.out.other _ _ (by show v ≠ q; have := hv2.out; omega), Below.setCell hE14.out (by show w0.heap.size ≤ v; exact hvw.out) _⟩, by simp [intOf]; omega⟩
                · obtain rfl : n = 16 := by omega
                  have n1 : ¬ ((16 : Nat) : Int) < 16 := by decide
                  rw [← hFs2.out] at Z14
                  go_wp2
                  exact ⟨⟨k + 1, by omega, by go_num, Z14.out, Q14.out, R14.out, hE14.out⟩, by simp [intOf]; omega⟩
        · obtain rfl : k = 8 := by omega
          have k1 : ¬ ((8 : Nat) : Int) < 8 := by decide
          clear hlt hk
          have Z7 : Hid (RowAt v 128 (wv z) wr) := hideit (by rw [hzz.out]; exact Z8.out)
          have Q7 := Q8
          have R7 := R8
          have hE7 := hE8
          clear Z8 Q8 R8 hE8
          go_wp2
          go_loopw [12] (fun iv X => ∃ i : Nat, i ≤ 128 ∧ iv = .int .i64 i ∧ RowAt v 128 (wv (upX z r i)) X ∧ RowAt q 128 (wv r) X ∧ RowAt q 128 (wv r) X ∧ Ext w0 X) (fun iv _ => 128 - (intOf iv).toNat)
          case atStart => exact ⟨0, by omega, rfl, Z7.out.congr (fun j _ => by simp only [wv, upX]; rw [if_neg (Nat.not_lt_zero _)]), Q7.out, R7.out, hE7.out⟩
          case round =>
            clear Z7 Q7 R7 hE7
            obtain ⟨i, hi, rfl, hZ, hQ, hR, hE⟩ := hrel
            have Z5 := hideit hZ
            have Q5 := hideit hQ
            have R5 := hideit hR
            have hE5 := hideit hE
            clear hZ hQ hR hE
            by_cases hlt : i < 128
            · have i0 : (0 : Int) ≤ (i : Int) := by omega
              have i1 : (i : Int) < 128 := by omega
              have hzi : Hid (upX z r i i = z i) := hideit (by unfold upX; rw [if_neg (Nat.lt_irrefl _)])
              go_upto_region 31 with (fail)
              have hne := kept_ne wr.drew
              have e1 : ∀ q9 : Kept (Ext wr.drew), q9.w.cell? ⟨v, i, none⟩ = some (.int .u64 ((z i).toNat : Int)) := fun q9 => (Z5.out.kept i hlt q9).trans (by simp only [wv]; rw [hzi.out])
              have e2 : ∀ q9 : Kept (Ext wr.drew), q9.w.cell? ⟨q, i, none⟩ = some (.int .u64 ((r i).toNat : Int)) := fun q9 => Q5.out.kept i hlt q9
              have f1 := xW_fact (z i) (r i)
              refine wp_region_late 8 (by kernel_rfl) (by kernel_rfl) (by decide) ?_
              simp only [List.take_succ_cons, List.take_zero, List.drop_succ_cons, List.drop_zero]
              refine wpStrong_run 8 rfl ?_
              simp only [List.take_succ_cons, List.take_zero, List.drop_succ_cons, List.drop_zero]
              repeat (go_big_quiet_step (fail))
              refine wpQuiet_nil ?_
              refine wpStrong_nil ?_
              intro X hX
              have hwX : Ext wr X := Ext.trans (Below.refl _ _).drew hX
              clear hX hne e1 e2
              have Z6 := hideit (Z5.out.carry hwX)
              have Q6 := hideit (Q5.out.carry hwX)
              have R6 := hideit (R5.out.carry hwX)
              have hE6 := hideit (Ext.trans hE5.out hwX)
              clear Z5 Q5 R5 hE5 hwX f1
              have e3 := Z6.out.1 i hlt
              have g3 := Z6.out.2.1 i hlt
              simp only [wv] at e3
              go_wp2
              exact ⟨⟨i + 1, by omega, by go_num, (Z6.out.set i (.int .u64 ((xW (z i) (r i)).toNat : Int))).congr (fun j _ => by
                simp only [wv, upX]
                by_cases h1 : j = i
                · rw [if_pos h1, if_pos (by omega), h1]
                · rw [if_neg h1]
                  by_cases h2 : j < i
                  · rw [if_pos h2, if_pos (by omega)]
                  · rw [if_neg h2, if_neg (by omega)]), Q6.out.other _ _ (by show v ≠ q; have := hv1.out; omega), R6.out.other _ _ (by show v ≠ q; have := hv2.out; omega), Below.setCell hE6.out (by show w0.heap.size ≤ v; exact hvw.out) _⟩, by simp [intOf]; omega⟩
            · obtain rfl : i = 128 := by omega
              have i1 : ¬ ((128 : Nat) : Int) < 128 := by decide
              have Z6 : Hid (RowAt v 128 (wv g) wr) := hideit (Z5.out.congr fun j hj => by rw [hg.out]; simp only [wv, upX, xrF]; rw [if_pos hj])
              have Q6 := Q5
              have hE6 := hE5
              clear Z5 Q5 R5 hE5 hlt hi
              go_upto_region 32 with (fail)
              obtain ⟨px, hpx⟩ : ∃ u, u = (.agg (row 128 (wv r)).toArray : Value) := ⟨_, rfl⟩
              obtain ⟨pr, hpr⟩ : ∃ u, u = (.agg (row 128 (wv g)).toArray : Value) := ⟨_, rfl⟩
              obtain ⟨pz, hpz⟩ : ∃ u, u = (.agg (row 128 (wv zP)).toArray : Value) := ⟨_, rfl⟩
              have q1 : ∀ X : World, (binOp .eql 24 pr pr).run Tryd.prog X = .ok (.bool true) X := fun X => by rw [hpr]; exact run_eql_refl 24 22 128 .u64 Tryd.underlying24 Tryd.underlying22 size29 (fun j => ((g j).toNat : Int)) X
              have g1 : ∀ (x y : Operand) (X : World), (eqGuard BinOp.eql 24 x y pr pr).run Tryd.prog X = .ok () X := fun x y X => by rw [hpr]; exact run_eqGuard_agg X .eql 24 x y _ _ (by kernel_rfl)
              have zz : ∀ X : World, (Instr.build 24 #[]).run Tryd.prog X = .ok pz X := fun X => by rw [hpz]; exact run_build X 24 #[] _ (by kernel_rfl)
              have k12 : Hid (∀ X : World, TabM X → Calls Tryd.prog 10 #[px, pz] X fun e w' => e = .returned pr ∧ Ext X w') := fun X hX => by rw [hpx, hpz, hpr]; exact (hp X).out hX
              replace hpx := hideit hpx
              replace hpr := hideit hpr
              replace hpz := hideit hpz
              clear hp
              generalize wr = w5 at *
              have hd : Hid (Ext w5 w5.drew) := hideit ((Ext.refl w5).draw)
              refine wp_region_lad (fun X => Ext w5.drew X) [(true, 0), (false, 1), (false, 2), (false, 3), (false, 5), (true, 4), (false, 6), (false, 7), (false, 8)] (by kernel_rfl) (by kernel_rfl) (by decide +kernel) (by decide +kernel) (by decide +kernel) (by decide +kernel) (Ext.refl _) ?_
              refine wpX_call _ rfl rfl (by simp [go_sem]) ((lives_any w5.drew (hC.out.ext (Ext.trans hE6.out hd.out))).mono ?_)
              rintro e z0 ⟨rfl, hX0⟩
              refine ⟨_, rfl, fun X => Ext z0 X, fun X hX => Ext.trans hX0 hX, Ext.refl _, ?_⟩
              replace hd := hideit (Ext.trans hd.out hX0)
              clear hX0
              simp only [List.getElem_toArray, List.getElem_cons_zero, Act.put, List.setIfInBounds_toArray, List.set_cons_zero, List.set_cons_succ]
              refine wpX_f _ (.bool true) rfl rfl (fun X _ => by simp [go_sem]) ?_
              simp only [List.getElem_toArray, List.getElem_cons_zero, List.getElem_cons_succ, Act.put, List.setIfInBounds_toArray, List.set_cons_zero, List.set_cons_succ]
              refine wpX_f _ px rfl rfl (fun X hX => (run_ldX 24 (.tmp 1) q 128 (wv r) rfl rfl (Q6.out.carry (Ext.trans hd.out hX)) Tryd.underlying24 rfl infoPg).trans (by rw [hpx.out])) ?_
              simp only [List.getElem_toArray, List.getElem_cons_zero, List.getElem_cons_succ, Act.put, List.setIfInBounds_toArray, List.set_cons_zero, List.set_cons_succ]
              refine wpX_f _ pz rfl rfl (fun X _ => exec_buildP 24 [] rfl pz (zz X)) ?_
              simp only [List.getElem_toArray, List.getElem_cons_zero, List.getElem_cons_succ, Act.put, List.setIfInBounds_toArray, List.set_cons_zero, List.set_cons_succ]
              refine wpX_f _ pr rfl rfl (fun X hX => (run_ldX 24 (.tmp 3) v 128 (wv g) rfl rfl (Z6.out.carry (Ext.trans hd.out hX)) Tryd.underlying24 rfl infoPg).trans (by rw [hpr.out])) ?_
              simp only [List.getElem_toArray, List.getElem_cons_zero, List.getElem_cons_succ, Act.put, List.setIfInBounds_toArray, List.set_cons_zero, List.set_cons_succ]
              refine wpX_call _ rfl rfl (by simp [go_sem]) ((k12.out z0 (hM.out.ext (Ext.trans hE6.out hd.out))).mono ?_)
              rintro e z1 ⟨rfl, hX1⟩
              refine ⟨_, rfl, fun X => Ext z1 X, fun X hX => Ext.trans hX1 hX, Ext.refl _, ?_⟩
              replace hd := hideit (Ext.trans hd.out hX1)
              clear hX1
              simp only [List.getElem_toArray, List.getElem_cons_zero, List.getElem_cons_succ, Act.put, List.setIfInBounds_toArray, List.set_cons_zero, List.set_cons_succ]
              refine wpX_f _ (.bool true) rfl rfl (fun X _ => by simp [go_sem, q1, g1]) ?_
              simp only [List.getElem_toArray, List.getElem_cons_zero, List.getElem_cons_succ, Act.put, List.setIfInBounds_toArray, List.set_cons_zero, List.set_cons_succ]
              refine wpX_f _ (.bool true) rfl rfl (fun X _ => by simp [go_sem]) ?_
              simp only [List.getElem_toArray, List.getElem_cons_zero, List.getElem_cons_succ, Act.put, List.setIfInBounds_toArray, List.set_cons_zero, List.set_cons_succ]
              refine wpX_f _ (.bool true) rfl rfl (fun X _ => by simp [go_sem]) ?_
              simp only [List.getElem_toArray, List.getElem_cons_zero, List.getElem_cons_succ, Act.put, List.setIfInBounds_toArray, List.set_cons_zero, List.set_cons_succ]
              refine wpX_nil ?_
              have hF := hideit (Ext.trans hE6.out hd.out)
              clear q1 g1 zz k12 hd hE6 Z6 Q6
              go_wp2
              go_ret
              exact ⟨rfl, hF.out⟩
theorem xr_zero (x : Nat → BitVec 64) : xrF x zP = x := funext fun j => by unfold xrF xW zP; exact BitVec.xor_zero
theorem rows_walk (x : Nat → BitVec 64) (w : World) (hC : TabC w) (hM : TabM w) :
    Calls Tryd.prog 3 #[.agg (row 128 (wv x)).toArray] w fun e w' => e = .returned (.bool true) ∧ Ext w w' :=
  rows_law x _ _ (linesK plcR x) (linesK plcC (linesK plcR x 8)) rfl (fun _ => rfl) rfl (fun _ => rfl) rfl rfl (fun X h => by
    have k := pages_any x zP X h
    unfold pagesF at k
    rw [xr_zero] at k
    exact k) w hC hM
end Go.Proofs.YtfbmeclpcgdmhabDoor
