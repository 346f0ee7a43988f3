/-
  The digests of a level's nodes.
-/
import Derived.Test.YtapmheocllicnaaDoorNds
namespace Go.Proofs.YtapmheocllicnaaDoor
open Go.RowKit Go.BigFrame
def dgV (c : BitVec 8) (bs : Nat → Nat → BitVec 8) (i : Nat) : Nat → BitVec 8 := nodeF c (bs i) 512
theorem lf_one (d : Nat → Nat → BitVec 8) (j : Nat) : (lfV d j).oneCell' = true := rfl
set_option maxRecDepth 20000 in
set_option maxHeartbeats 4000000 in
theorem digs_any (lev k : Nat) (c : BitVec 8) (hc : (lev : Int) % 256 = (c.toNat : Int)) (v : Value) (us : Nat → Value) (bs : Nat → Nat → BitVec 8) (w : World) (hP : Parts v k us (fun _ => 512) bs w) (hC : TabC w) (hk : k ≤ 256) :
    Calls Tryd.prog 27 #[.int .i64 (lev : Int), v] w fun e w' => e = .returned (.slice (some ⟨w.heap.size, 0, none⟩) k k) ∧ RowAt w.heap.size (k * 32) (lfV (dgV c bs)) w' ∧ Ext w w' := by
  obtain ⟨ov, cap, rfl⟩ := hP.form
  replace hP := hideit hP
  replace hC := hideit hC
  have hmade := fun j hj => made_at (Value.agg (row 32 (yv fun _ => 0#8)).toArray).cells (k * 32) (.int .u8 0) (fun k hk => by
    have h1 : k < 32 := by simpa [Value.cells, row_length] using hk
    have h2 := row_get 32 (yv fun _ => 0#8) k h1
    show (row 32 (yv fun _ => 0#8)).toArray[k]! = _
    rw [getElem!_def, List.getElem?_toArray, h2]
    rfl) (by simp [Value.cells, row_length]) j hj
  have H0 : RowAt w.heap.size (k * 32) (fun j => if j < 0 * 32 then lfV (dgV c bs) j else .int .u8 0) (w.alloc (.cells (madeCells (Value.agg (row 32 (yv fun _ => 0#8)).toArray).cells (k * 32)) 25)) := RowAt.newOf w (k * 32) _ 25 _ (fun j hj => by rw [if_neg (by omega)]; exact hmade j hj)
  have hE0 : Ext w (w.alloc (.cells (madeCells (Value.agg (row 32 (yv fun _ => 0#8)).toArray).cells (k * 32)) 25)) := (Below.refl _ _).alloc (Nat.le_refl _) _
  replace H0 := hideit H0
  replace hE0 := hideit hE0
  clear hmade
  go_enter Tryd.func27, Tryd.ntmps27
  go_upto_region 1 with (fail)
  refine wp_region_lit ?_
  refine wpList_run rfl (.slice ov k cap) (by simp [go_sem]) ?_
  simp only [Act.put, List.setIfInBounds_toArray, List.set_cons_zero, List.set_cons_succ]
  refine wpList_run rfl (.int .i64 (k : Int)) (by simp [go_sem]) ?_
  simp only [Act.put, List.setIfInBounds_toArray, List.set_cons_zero, List.set_cons_succ]
  refine wpList_to rfl (.slice (some ⟨w.heap.size, 0, none⟩) k k) (w.alloc (.cells (madeCells (Value.agg (row 32 (yv fun _ => 0#8)).toArray).cells (k * 32)) 25)) (exec_made 22 25 (.tmp 8) (.tmp 8) rfl _ 32 32 k Tryd.underlying22 infoA rfl rfl (by omega) (by omega)) ?_
  simp only [Act.put, List.setIfInBounds_toArray, List.set_cons_zero, List.set_cons_succ]
  generalize w.alloc (.cells (madeCells (Value.agg (row 32 (yv fun _ => 0#8)).toArray).cells (k * 32)) 25) = w1 at *
  go_wp2
  go_loopw [12] (fun iv X => ∃ m : Nat, m ≤ k ∧ iv = .int .i64 (m : Int) ∧ RowAt w.heap.size (k * 32) (fun j => if j < m * 32 then lfV (dgV c bs) j else .int .u8 0) X ∧ Ext w X) (fun iv _ => k - (intOf iv).toNat)
  case atStart => exact ⟨0, Nat.zero_le _, rfl, H0.out, hE0.out⟩
  case round =>
    clear H0 hE0
    obtain ⟨m, hm, rfl, hR, hE⟩ := hrel
    replace hR := hideit hR
    replace hE := hideit hE
    by_cases hlt : m < k
    · have m0 : (0 : Int) ≤ (m : Int) := by omega
      have m1 : (m : Int) < (k : Int) := by omega
      obtain ⟨om, cm, hum⟩ := (hP.out.2 m hlt).form
      obtain ⟨a, rfl, hcell⟩ : ∃ a, ov = some a ∧ wr.cell? (a.add m) = some (us m) := by
        rcases hP.out.1 with ⟨h, h0⟩ | ⟨a, cap', h, _, h3⟩
        · omega
        · injection h with e1 e2 e3
          exact ⟨a, e1, (h3.carry hE.out).1 m hlt⟩
      have hbv := hP.out.2 m hlt
      rw [hum] at hcell hbv
      have kn := hideit (node_any (lev : Int) c hc (.slice om 512 cm) 512 (bs m) wr (hbv.ext hE.out) (hC.out.ext hE.out) (by decide))
      clear hum hbv
      go_upto_region 5 with (fail)
      refine wp_region_lit ?_
      refine wpList_run rfl (.slice (some ⟨w.heap.size, 0, none⟩) k k) (by simp [go_sem]) ?_
      simp only [Act.put, List.setIfInBounds_toArray, List.set_cons_zero, List.set_cons_succ]
      refine wpList_run rfl (.int .i64 (m : Int)) (by simp [go_sem]) ?_
      simp only [Act.put, List.setIfInBounds_toArray, List.set_cons_zero, List.set_cons_succ]
      refine wpList_run rfl (.int .i64 (lev : Int)) (by simp [go_sem]) ?_
      simp only [Act.put, List.setIfInBounds_toArray, List.set_cons_zero, List.set_cons_succ]
      refine wpList_run rfl (.slice (some a) k cap) (by simp [go_sem]) ?_
      simp only [Act.put, List.setIfInBounds_toArray, List.set_cons_zero, List.set_cons_succ]
      refine wpList_run rfl (.int .i64 (m : Int)) (by simp [go_sem]) ?_
      simp only [Act.put, List.setIfInBounds_toArray, List.set_cons_zero, List.set_cons_succ]
      refine wpList_run rfl (.pointer (some (a.add m))) (by simp [go_sem, m0, m1]) ?_
      simp only [Act.put, List.setIfInBounds_toArray, List.set_cons_zero, List.set_cons_succ]
      refine wpList_run rfl (.slice om 512 cm) (by simp [go_sem, hcell]) ?_
      simp only [Act.put, List.setIfInBounds_toArray, List.set_cons_zero, List.set_cons_succ]
      refine wpList_call rfl (by simp [go_sem]) (kn.out.mono ?_)
      rintro e w4 ⟨rfl, hw4⟩
      refine ⟨_, rfl, ?_⟩
      simp only [Act.put, List.setIfInBounds_toArray, List.set_cons_zero, List.set_cons_succ]
      have hR4 := hideit (hR.out.carry hw4)
      have hE4 := hideit (Ext.trans hE.out hw4)
      clear hR hE kn hcell hw4
      refine wpList_run rfl (.pointer (some ⟨w.heap.size, m * 32, none⟩)) (by simp [go_sem, m0, m1, add0]) ?_
      simp only [Act.put, List.setIfInBounds_toArray, List.set_cons_zero, List.set_cons_succ]
      refine wpList_store_mid rfl 25 (.tmp 23) (.tmp 22) rfl _ (m * 32) (row 32 (yv (nodeF c (bs m) 512))).toArray rfl rfl (by rw [row_size]; exact hR4.out.thereSub (m * 32) 32 (by omega)) (by rw [row_size]; exact info24) (row_one fun _ _ => rfl) ?_
      have hR5 := hideit ((hR4.out.part (m * 32) 32 (yv (nodeF c (bs m) 512)) (by omega)).congr (g' := fun j => if j < (m + 1) * 32 then lfV (dgV c bs) j else .int .u8 0) fun j hj => by
        by_cases h1 : m * 32 ≤ j ∧ j < m * 32 + 32
        · rw [if_pos h1, if_pos (by omega)]
          have := lf_row (dgV c bs) m (j - m * 32) (by omega)
          rw [show m * 32 + (j - m * 32) = j by omega] at this
          rw [this]
          rfl
        · rw [if_neg h1]
          by_cases h2 : j < m * 32
          · rw [if_pos h2, if_pos (by omega)]
          · rw [if_neg h2, if_neg (by omega)])
      have hE5 := hideit (below_setCells w.heap.size (Nat.le_refl _) (row 32 (yv (nodeF c (bs m) 512))) (m * 32) w4 hE4.out)
      rw [show (row 32 (yv (nodeF c (bs m) 512))).toArray.toList = row 32 (yv (nodeF c (bs m) 512)) from rfl]
      generalize w4.setCells w.heap.size (m * 32) (row 32 (yv (nodeF c (bs m) 512))) = w5 at *
      clear hR4 hE4
      simp only [Act.put]
      go_wp2
      exact ⟨⟨m + 1, by omega, by go_num, hR5.out, hE5.out⟩, by simp [intOf]; omega⟩
    · obtain rfl : m = k := by omega
      have m1 : ¬ (m : Int) < (m : Int) := by omega
      go_wp2
      go_ret
      exact ⟨rfl, hR.out.congr fun j hj => by rw [if_pos hj], hE.out⟩
end Go.Proofs.YtapmheocllicnaaDoor
