/-
  Pages: added; their lines stirred.
-/
import Derived.Test.YtfbmeclpcgdmhabDoorSt4
import Derived.Test.YtfbmeclpcgdmhabDoorPg
namespace Go.Proofs.YtfbmeclpcgdmhabDoor
set_option maxRecDepth 20000
open Go.RowKit Go.BigFrame
theorem exec_allocP {P : Program} {o : Oper} {a : Act} {w : World} (t : TypeId) (Z : Array Value) (ho : o.op = .alloc t) (hz : (zeroValue t).run P w = .ok (.agg Z) w) : (execOp a.eval o).run P w = .ok (.value (.pointer (some ⟨w.heap.size, 0, none⟩))) (w.alloc (.cells Z t)) := by
  unfold execOp
  simp [ho, Instr.alloc, hz, newVar, newRow, Value.cells]
set_option maxRecDepth 20000 in
set_option maxHeartbeats 4000000 in
theorem pplus_any (x y : Nat → BitVec 64) (w : World) :
    Calls Tryd.prog 25 #[.agg (row 128 (wv x)).toArray, .agg (row 128 (wv y)).toArray] w fun e w' => e = .returned (.agg (row 128 (wv (xrF x y))).toArray) ∧ Ext w w' := by
  obtain ⟨G, hG⟩ : ∃ G, G = xrF x y := ⟨_, rfl⟩
  rw [← hG]
  replace hG := hideit hG
  have A1 := hideit (RowAt.new w 128 (wv x) 24)
  have X1 : Ext w (w.alloc (.cells (row 128 (wv x)).toArray 24)) := (Below.refl _ _).alloc (Nat.le_refl _) _
  go_enter Tryd.func25, Tryd.ntmps25
  go_upto_region 0 with (fail)
  refine wp_region_lit ?_
  refine wpList_to rfl (.pointer (some ⟨w.heap.size, 0, none⟩)) (w.alloc (.cells (row 128 (wv x)).toArray 24)) (by simp [go_sem]) ?_
  simp only [Act.put, List.setIfInBounds_toArray, List.set_cons_zero, List.set_cons_succ]
  generalize w.alloc (.cells (row 128 (wv x)).toArray 24) = w1 at *
  obtain ⟨b, hb⟩ : ∃ b, b = w.heap.size := ⟨_, rfl⟩
  have hwb : Hid (w.heap.size ≤ b) := hideit (by omega)
  rw [← hb] at A1 ⊢
  clear hb
  have B2 := hideit (RowAt.new w1 128 (wv y) 24)
  have X2 : Ext w1 (w1.alloc (.cells (row 128 (wv y)).toArray 24)) := (Below.refl _ _).alloc (Nat.le_refl _) _
  have A2 := hideit (A1.out.carry X2)
  have hE2 := hideit (Ext.trans X1 X2)
  have hbc : Hid (b < w1.heap.size) := hideit A1.out.2.2
  clear A1 X1 X2
  refine wpList_to rfl (.pointer (some ⟨w1.heap.size, 0, none⟩)) (w1.alloc (.cells (row 128 (wv y)).toArray 24)) (by simp [go_sem]) ?_
  simp only [Act.put, List.setIfInBounds_toArray, List.set_cons_zero, List.set_cons_succ]
  generalize w1.alloc (.cells (row 128 (wv y)).toArray 24) = w2 at *
  generalize w1.heap.size = c at *
  have R3 := hideit (RowAt.new w2 128 (wv fun _ => 0#64) 24)
  have X3 : Ext w2 (w2.alloc (.cells (row 128 (wv fun _ => 0#64)).toArray 24)) := (Below.refl _ _).alloc (Nat.le_refl _) _
  have A3 := hideit (A2.out.carry X3)
  have B3 := hideit (B2.out.carry X3)
  have hE3 := hideit (Ext.trans hE2.out X3)
  have hbd : Hid (b < w2.heap.size) := hideit A2.out.2.2
  clear A2 B2 hE2 X3
  refine wpList_to rfl (.pointer (some ⟨w2.heap.size, 0, none⟩)) (w2.alloc (.cells (row 128 (wv fun _ => 0#64)).toArray 24)) (exec_allocP 24 _ rfl (zero31p _)) ?_
  simp only [Act.put, List.setIfInBounds_toArray, List.set_cons_zero, List.set_cons_succ]
  generalize w2.alloc (.cells (row 128 (wv fun _ => 0#64)).toArray 24) = w3 at *
  generalize w2.heap.size = d at *
  go_upto_region 1 with (fail)
  refine wp_region_lit ?_
  refine wpList_load_mid rfl 24 (.tmp 3) rfl c 0 rfl (row 128 (wv y)) _ B3.out.range Tryd.underlying24 rfl (by rw [row_length]; exact infoPg) ?_
  simp only [Act.put, List.setIfInBounds_toArray, List.set_cons_zero, List.set_cons_succ]
  obtain ⟨TB, hTB⟩ : ∃ TB, TB = (Value.agg (row 128 (wv y)).toArray) := ⟨_, rfl⟩
  have hidx : Hid (∀ k : Nat, k < 128 → ∀ X : World, (Instr.index 24 TB (.int .i64 (k : Int))).run Tryd.prog X = .ok (.int .u64 ((y k).toNat : Int)) X) := hideit fun k hk X => by rw [hTB]; exact idxPg y k hk X
  rw [← hTB]
  clear hTB B3
  go_wp2
  go_loopw [8] (fun i X => ∃ k : Nat, k ≤ 128 ∧ i = .int .i64 k ∧ RowAt b 128 (wv (upX x y k)) X ∧ RowAt d 128 (wv fun _ => 0#64) X ∧ Ext w X) (fun i _ => 128 - (intOf i).toNat)
  case atStart => exact ⟨0, by omega, rfl, A3.out.congr (fun j _ => by simp only [wv, upX]; rw [if_neg (Nat.not_lt_zero _)]), R3.out, hE3.out⟩
  case round =>
    clear A3 R3 hE3
    obtain ⟨k, hk, rfl, hA, hR, hE⟩ := hrel
    have A4 := hideit hA
    have R4 := hideit hR
    have hE4 := hideit hE
    clear hA hR hE
    by_cases hlt : k < 128
    · have i0 : (0 : Int) ≤ (k : Int) := by omega
      have i1 : (k : Int) < 128 := by omega
      have hix := hidx.out k hlt
      have e1 : wr.cell? ⟨b, k, none⟩ = some (.int .u64 ((x k).toNat : Int)) := (A4.out.1 k hlt).trans (by simp only [wv, upX]; rw [if_neg (Nat.lt_irrefl _)])
      have g1 : wr.frozen? ⟨b, k, none⟩ = false := A4.out.2.1 k hlt
      have f1 := xW_fact (x k) (y k)
      go_wp2
      exact ⟨⟨k + 1, by omega, by go_num, (A4.out.set k (.int .u64 ((xW (x k) (y k)).toNat : Int))).congr (fun j _ => by
        simp only [wv, upX]
        by_cases h1 : j = k
        · rw [if_pos h1, if_pos (by omega), h1]
        · rw [if_neg h1]
          by_cases h2 : j < k
          · rw [if_pos h2, if_pos (by omega)]
          · rw [if_neg h2, if_neg (by omega)]), R4.out.other _ _ (by show b ≠ d; have := hbd.out; omega), Below.setCell hE4.out (by show w.heap.size ≤ b; exact hwb.out) _⟩, by simp [intOf]; omega⟩
    · obtain rfl : k = 128 := by omega
      have A5 : Hid (RowAt b 128 (wv G) wr) := hideit (A4.out.congr fun j hj => by rw [hG.out]; simp only [wv, upX, xrF]; rw [if_pos hj])
      clear A4 hG
      have i1 : ¬ ((128 : Nat) : Int) < 128 := by decide
      go_upto_region 6 with (fail)
      refine wp_region_lit ?_
      refine wpList_load_mid rfl 24 (.tmp 2) rfl b 0 rfl (row 128 (wv G)) _ A5.out.range Tryd.underlying24 rfl (by rw [row_length]; exact infoPg) ?_
      simp only [Act.put, List.setIfInBounds_toArray, List.set_cons_zero, List.set_cons_succ]
      refine wpList_store_mid rfl 24 (.tmp 4) (.tmp 19) rfl d 0 (row 128 (wv G)).toArray rfl rfl (by rw [row_size]; exact R4.out.there) (by rw [row_size]; exact infoPg) (row_one fun _ _ => rfl) ?_
      rw [show (row 128 (wv G)).toArray.toList = row 128 (wv G) from rfl]
      have h9 := hideit (R4.out.cells (g' := wv G))
      have hE9 := hideit (below_setCells d (by have := hwb.out; have := hbd.out; omega) (row 128 (wv G)) 0 _ hE4.out)
      generalize wr.setCells d 0 (row 128 (wv G)) = w9 at *
      clear A5 R4 hE4
      simp only [Act.put]
      go_wp2
      exact bodyPost_ret (ret_row Tryd.results25 rfl h9.out Tryd.underlying24 rfl infoPg) rfl ⟨rfl, hE9.out⟩
def plcR (r i : Nat) : Nat := 16 * r + i
def plcC (c i : Nat) : Nat := 16 * (i / 2) + 2 * c + i % 2
set_option maxRecDepth 20000 in
set_option maxHeartbeats 4000000 in
theorem inRow_any (r i : Nat) (hr : r < 8) (hi : i < 16) (w : World) : Calls Tryd.prog 27 #[.int .i64 (r : Int), .int .i64 (i : Int)] w fun e w' => e = .returned (.int .i64 ((plcR r i : Nat) : Int)) ∧ w' = w := by
  have f1 : IntKind.i64.wrap (16 * (r : Int)) = 16 * (r : Int) := by rw [IntKind.wrap_i64]; omega
  have f2 : IntKind.i64.wrap (16 * (r : Int) + (i : Int)) = ((plcR r i : Nat) : Int) := by unfold plcR; rw [IntKind.wrap_i64]; omega
  go_enter Tryd.func27, Tryd.ntmps27
  go_upto_region 1 with (fail)
  refine wp_region_lit ?_
  refine wpList_run rfl (.int .i64 (r : Int)) (by simp [go_sem]) ?_
  simp only [Act.put, List.setIfInBounds_toArray, List.set_cons_zero, List.set_cons_succ]
  refine wpList_run rfl (.int .i64 (16 * (r : Int))) (by simp [go_sem, f1]) ?_
  simp only [Act.put, List.setIfInBounds_toArray, List.set_cons_zero, List.set_cons_succ]
  refine wpList_run rfl (.int .i64 (i : Int)) (by simp [go_sem]) ?_
  simp only [Act.put, List.setIfInBounds_toArray, List.set_cons_zero, List.set_cons_succ]
  refine wpList_run rfl (.int .i64 ((plcR r i : Nat) : Int)) (by simp [go_sem, f2]) ?_
  simp only [Act.put, List.setIfInBounds_toArray, List.set_cons_zero, List.set_cons_succ]
  go_wp2
  go_ret
  exact ⟨rfl, rfl⟩
set_option maxRecDepth 20000 in
set_option maxHeartbeats 4000000 in
theorem inColumn_any (c i : Nat) (hc : c < 8) (hi : i < 16) (w : World) : Calls Tryd.prog 28 #[.int .i64 (c : Int), .int .i64 (i : Int)] w fun e w' => e = .returned (.int .i64 ((plcC c i : Nat) : Int)) ∧ w' = w := by
  obtain ⟨h, hh⟩ : ∃ h, h = i / 2 := ⟨_, rfl⟩
  obtain ⟨o, ho⟩ : ∃ o, o = i % 2 := ⟨_, rfl⟩
  have hP : plcC c i = 16 * h + 2 * c + o := by unfold plcC; rw [hh, ho]
  rw [hP]
  have f0 : ((i : Int)).tdiv 2 = (h : Int) := by rw [hh, Int.tdiv_eq_ediv_of_nonneg (by omega)]; omega
  have f1 : IntKind.i64.wrap (16 * (h : Int)) = 16 * (h : Int) := by rw [IntKind.wrap_i64]; omega
  have f2 : IntKind.i64.wrap (2 * (c : Int)) = 2 * (c : Int) := by rw [IntKind.wrap_i64]; omega
  have f3 : IntKind.i64.wrap (16 * (h : Int) + 2 * (c : Int)) = 16 * (h : Int) + 2 * (c : Int) := by rw [IntKind.wrap_i64]; omega
  have f4 : ((i : Int)).tmod 2 = (o : Int) := by rw [ho, Int.tmod_eq_emod_of_nonneg (by omega)]; omega
  have f5 : IntKind.i64.wrap (16 * (h : Int) + 2 * (c : Int) + (o : Int)) = ((16 * h + 2 * c + o : Nat) : Int) := by rw [IntKind.wrap_i64]; omega
  have fh : IntKind.i64.wrap (h : Int) = (h : Int) := by rw [IntKind.wrap_i64]; omega
  have i0 : (0 : Int) ≤ (i : Int) := by omega
  clear hh ho hP
  go_enter Tryd.func28, Tryd.ntmps28
  go_upto_region 1 with (fail)
  refine wp_region_lit ?_
  refine wpList_run rfl (.int .i64 (i : Int)) (by simp [go_sem]) ?_
  simp only [Act.put, List.setIfInBounds_toArray, List.set_cons_zero, List.set_cons_succ]
  refine wpList_run rfl (.int .i64 (h : Int)) (by simp [go_sem, f0, fh]) ?_
  simp only [Act.put, List.setIfInBounds_toArray, List.set_cons_zero, List.set_cons_succ]
  refine wpList_run rfl (.int .i64 (16 * (h : Int))) (by simp [go_sem, f1]) ?_
  simp only [Act.put, List.setIfInBounds_toArray, List.set_cons_zero, List.set_cons_succ]
  refine wpList_run rfl (.int .i64 (c : Int)) (by simp [go_sem]) ?_
  simp only [Act.put, List.setIfInBounds_toArray, List.set_cons_zero, List.set_cons_succ]
  refine wpList_run rfl (.int .i64 (2 * (c : Int))) (by simp [go_sem, f2]) ?_
  simp only [Act.put, List.setIfInBounds_toArray, List.set_cons_zero, List.set_cons_succ]
  refine wpList_run rfl (.int .i64 (16 * (h : Int) + 2 * (c : Int))) (by simp [go_sem, f3]) ?_
  simp only [Act.put, List.setIfInBounds_toArray, List.set_cons_zero, List.set_cons_succ]
  refine wpList_run rfl (.int .i64 (i : Int)) (by simp [go_sem]) ?_
  simp only [Act.put, List.setIfInBounds_toArray, List.set_cons_zero, List.set_cons_succ]
  refine wpList_run rfl (.int .i64 (o : Int)) (by simp [go_sem, f4]) ?_
  simp only [Act.put, List.setIfInBounds_toArray, List.set_cons_zero, List.set_cons_succ]
  refine wpList_run rfl (.int .i64 ((16 * h + 2 * c + o : Nat) : Int)) (by simp [go_sem, f5]) ?_
  simp only [Act.put, List.setIfInBounds_toArray, List.set_cons_zero, List.set_cons_succ]
  go_wp2
  go_ret
  exact ⟨rfl, rfl⟩
end Go.Proofs.YtfbmeclpcgdmhabDoor
