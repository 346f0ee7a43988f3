/-
  A digest begun.
-/
import Derived.Test.YtfbmeclpcgdmhabDoorHSum
namespace Go.Proofs.YtfbmeclpcgdmhabDoor
open Go.RowKit Go.BigFrame
def k0 (nn l : Nat) : BitVec 64 := xW (xW 16842752#64 (BitVec.ofNat 64 (l * 256))) (BitVec.ofNat 64 nn)
/-- the first state of a digest of nn bytes under a key of l bytes -/
def h0F (nn l j : Nat) : BitVec 64 := if j = 0 then xW (fT 0) (k0 nn l) else fT j
def keyF (l : Nat) (key : Nat → BitVec 8) (j : Nat) : BitVec 8 := if j < l then key j else 0#8
def keyN (l : Nat) : Nat := if l = 0 then 0 else 128
theorem bld55 (nn : Nat) (X : World) : (Instr.build 103 #[(0, .int .i64 (nn : Int)), (1, .agg (row 8 (wv fT)).toArray)]).run Tryd.prog X = .ok (.agg (row 139 (hv nn fT 0#64 (fun _ => 0#8) 0)).toArray) X := by kernel_rfl
theorem cutA (c : Nat) (X : World) : Sem.run Tryd.prog (Instr.sliceAt 94 (.pointer (some ⟨c, 10, none⟩)) none none none) X = .ok (.slice (some ⟨c, 10, none⟩) 128 128) X := by kernel_rfl
set_option maxRecDepth 20000 in
theorem new_bad (z : Int) (oa : Option Addr) (l cp : Nat) (hz : z < 1 ∨ 64 < z ∨ 64 < l) (w : World) : Calls Tryd.prog 57 #[.int .i64 z, .slice oa l cp] w fun e w' => e = .returned (.tuple #[.pointer none, .int .i64 1]) ∧ w' = w := by
  by_cases h1 : z < 1
  · go_enter Tryd.func57, Tryd.ntmps57
    go_wp2
    exact bodyPost_ret (v := .tuple #[.pointer none, .int .i64 1]) (by simp [results, Tryd.results57]) rfl ⟨rfl, rfl⟩
  · by_cases h2 : 64 < z
    · go_enter Tryd.func57, Tryd.ntmps57
      go_wp2
      exact bodyPost_ret (v := .tuple #[.pointer none, .int .i64 1]) (by simp [results, Tryd.results57]) rfl ⟨rfl, rfl⟩
    · have h3 : (64 : Int) < (l : Int) := by omega
      go_enter Tryd.func57, Tryd.ntmps57
      go_wp2
      exact bodyPost_ret (v := .tuple #[.pointer none, .int .i64 1]) (by simp [results, Tryd.results57]) rfl ⟨rfl, rfl⟩
set_option maxRecDepth 20000 in
set_option maxHeartbeats 2000000 in
theorem new_any (nn l : Nat) (hn1 : 1 ≤ nn) (hn2 : nn ≤ 64) (hl : l ≤ 64) (v : Value) (key : Nat → BitVec 8) (w : World) (h : BV v l key w) :
    Calls Tryd.prog 57 #[.int .i64 (nn : Int), v] w fun e w' => ∃ c, w.heap.size ≤ c ∧ e = .returned (.tuple #[.pointer (some ⟨c, 0, none⟩), .int .i64 0]) ∧ HashOf c nn (h0F nn l) (keyF l key) (keyN l) w' ∧ Ext w w' := by
  obtain ⟨oa, cp, rfl⟩ := h.form
  have hB := hideit h
  clear h
  have hbd : ∀ X, (Instr.build 103 #[(0, .int .i64 (nn : Int)), (1, .agg (row 8 (wv fT)).toArray)]).run Tryd.prog X = .ok (.agg (row 139 (hv nn fT 0#64 (fun _ => 0#8) 0)).toArray) X := bld55 nn
  have hfi := first_any
  have hF0 : Hid (∀ j, h0F nn l j = if j = 0 then xW (fT 0) (k0 nn l) else fT j) := fun j => rfl
  obtain ⟨f, hf⟩ : ∃ f, f = fT := ⟨_, rfl⟩
  rw [← hf] at hbd hfi hF0
  clear hf
  replace hbd := hideit hbd
  replace hfi := hideit hfi
  have i1 : ¬ (nn : Int) < 1 := by omega
  have i2 : ¬ (64 : Int) < (nn : Int) := by omega
  have i3 : ¬ (64 : Int) < (l : Int) := by omega
  have i4 : (0 : Int) ≤ (l : Int) := by omega
  have i5 : (0 : Int) ≤ (nn : Int) := by omega
  go_enter Tryd.func57, Tryd.ntmps57
  go_upto_region 3 with (fail)
  refine wp_region_lit ?_
  refine wpList_run rfl (.int .i64 (nn : Int)) (by simp [go_sem]) ?_
  simp only [Act.put, List.setIfInBounds_toArray, List.set_cons_zero, List.set_cons_succ]
  refine wpList_call rfl (by simp [go_sem]) ((hfi.out w).mono ?_)
  rintro e w1 ⟨rfl, hw1⟩
  refine ⟨_, rfl, ?_⟩
  simp only [Act.put, List.setIfInBounds_toArray, List.set_cons_zero, List.set_cons_succ]
  refine wpList_build rfl 103 [(0, .tmp 18), (1, .tmp 19)] rfl _ (hbd.out _) ?_
  simp only [Act.put, List.setIfInBounds_toArray, List.set_cons_zero, List.set_cons_succ]
  have hE2 : Ext w (w1.alloc (.cells (row 139 (hv nn f 0#64 (fun _ => 0#8) 0)).toArray 103)) := Ext.trans hw1 ((Below.refl _ _).alloc (Nat.le_refl _) _)
  have HH : HashAt w1.heap.size nn f 0#64 (fun _ => 0#8) 0 (w1.alloc (.cells (row 139 (hv nn f 0#64 (fun _ => 0#8) 0)).toArray 103)) := RowAt.new w1 139 _ 103
  have hsz1 : w.heap.size ≤ w1.heap.size := Below.size hw1
  refine wpList_to rfl (.pointer (some ⟨w1.heap.size, 0, none⟩)) (w1.alloc (.cells (row 139 (hv nn f 0#64 (fun _ => 0#8) 0)).toArray 103)) (by simp [go_sem]) ?_
  simp only [Act.put, List.setIfInBounds_toArray, List.set_cons_zero, List.set_cons_succ]
  replace HH := hideit HH
  have HE := hideit hE2
  generalize w1.alloc (.cells (row 139 (hv nn f 0#64 (fun _ => 0#8) 0)).toArray 103) = w2 at *
  generalize w1.heap.size = c at *
  clear hE2 hw1 hfi hbd
  refine wpList_run rfl (.pointer (some ⟨c, 0, none⟩)) (by simp [go_sem]) ?_
  simp only [Act.put, List.setIfInBounds_toArray, List.set_cons_zero, List.set_cons_succ]
  go_upto_region 4 with (fail)
  have hne := kept_ne w2.drew
  have e1 : ∀ k : Kept (Ext w2.drew), k.w.cell? ⟨c, 1, none⟩ = some (.int .u64 ((f 0).toNat : Int)) := fun k => (RowAt.carry (RowAt.drew HH.out) k.ok).1 1 (by omega)
  have hx1 : bits .xor .u64 16842752 ((l : Int) * 256) = ((xW 16842752#64 (BitVec.ofNat 64 (l * 256))).toNat : Int) := by
    have h1 := xW_fact 16842752#64 (BitVec.ofNat 64 (l * 256))
    rw [show ((BitVec.ofNat 64 (l * 256)).toNat : Int) = (l : Int) * 256 by rw [BitVec.toNat_ofNat, Nat.mod_eq_of_lt (show l * 256 < 2 ^ 64 by omega), Int.natCast_mul]; rfl] at h1
    exact h1
  have hx2 : bits .xor .u64 ((xW 16842752#64 (BitVec.ofNat 64 (l * 256))).toNat : Int) (nn : Int) = ((k0 nn l).toNat : Int) := by
    have h1 := xW_fact (xW 16842752#64 (BitVec.ofNat 64 (l * 256))) (BitVec.ofNat 64 nn)
    rw [show ((BitVec.ofNat 64 nn).toNat : Int) = (nn : Int) by rw [BitVec.toNat_ofNat, Nat.mod_eq_of_lt (show nn < 2 ^ 64 by omega)]] at h1
    exact h1
  have hx3 := xW_fact (f 0) (k0 nn l)
  refine wp_region_late 16 (by kernel_rfl) (by kernel_rfl) (by decide) ?_
  simp only [List.take_succ_cons, List.take_zero, List.drop_succ_cons, List.drop_zero]
  refine wpStrong_run 6 rfl ?_
  simp only [List.take_succ_cons, List.take_zero, List.drop_succ_cons, List.drop_zero]
  repeat (go_big_quiet_step (fail))
  refine wpQuiet_nil ?_
  refine ⟨.int .i64 (l : Int), .inl ⟨rfl, fun X hX => by simp [go_sem, strongUpon]⟩, ?_⟩
  simp only [Act.put, List.setIfInBounds_toArray, List.set_cons_zero, List.set_cons_succ]
  refine wpStrong_run 9 rfl ?_
  simp only [List.take_succ_cons, List.take_zero, List.drop_succ_cons, List.drop_zero]
  repeat (go_big_quiet_step (fail))
  refine wpQuiet_nil ?_
  refine wpStrong_nil ?_
  intro X hX
  have hwX : Ext w2 X := Ext.trans (Below.refl _ _).drew hX
  have HH2 : Hid (HashAt c nn f 0#64 (fun _ => 0#8) 0 X) := RowAt.carry HH.out hwX
  have HE2 := hideit (Ext.trans HE.out hwX)
  clear hX hwX HH HE hne e1 hx1 hx2 hx3
  have eX : X.cell? ⟨c, 1, none⟩ = some (.int .u64 ((f 0).toNat : Int)) := HH2.out.1 1 (by omega)
  have gX := HH2.out.2.1 1 (by omega)
  have HH3 : HashAt c nn (h0F nn l) 0#64 (fun _ => 0#8) 0 (X.setCell ⟨c, 1, none⟩ (.int .u64 ((xW (f 0) (k0 nn l)).toNat : Int))) := (RowAt.set HH2.out 1 (.int .u64 ((xW (f 0) (k0 nn l)).toNat : Int))).congr fun j hj => by
    by_cases e : j = 1
    · subst e; rw [if_pos rfl]; simp only [hv, wv, hF0.out]; rfl
    · rw [if_neg e]
      unfold hv
      by_cases e0 : j = 0
      · rw [if_pos e0, if_pos e0]
      · rw [if_neg e0, if_neg e0]
        split
        · simp only [wv, hF0.out]
          rw [if_neg (by omega)]
        · rfl
  replace HH3 := hideit HH3
  have HE3 := hideit (HE2.out.setCell (p := ⟨c, 1, none⟩) hsz1 (.int .u64 ((xW (f 0) (k0 nn l)).toNat : Int)))
  by_cases hl0 : l = 0
  · replace hl0 := hideit hl0
    have j1 : ¬ (0 : Int) < (l : Int) := by have := hl0.out; omega
    have HF : HashOf c nn (h0F nn l) (keyF l key) (keyN l) (X.setCell ⟨c, 1, none⟩ (.int .u64 ((xW (f 0) (k0 nn l)).toNat : Int))) := ⟨0, 0, by unfold keyN; rw [if_pos hl0.out], by omega, fun _ => rfl, HH3.out.congrP fun j _ => by unfold pendB; rw [if_neg (by omega)]⟩
    replace HF := hideit HF
    go_wp2
    exact bodyPost_ret (v := .tuple #[.pointer (some ⟨c, 0, none⟩), .int .i64 0]) (by simp [results, Tryd.results57]) rfl ⟨c, hsz1, rfl, HF.out, HE3.out⟩
  · have j1 : (0 : Int) < (l : Int) := by omega
    obtain ⟨ka, rfl⟩ : ∃ a, oa = some a := by
      rcases hB.out with ⟨h, h0⟩ | ⟨a, cap', h, _⟩
      · exact absurd h0 hl0
      · injection h with e1 e2 e3
        exact ⟨a, e1⟩
    have hLie : LieAt ka l (yv key) w := by
      rcases hB.out with ⟨h, h0⟩ | ⟨a, cap', h, _, h3⟩
      · exact absurd h0 hl0
      · injection h with e1 e2 e3
        injection e1 with e1
        rw [e1]
        exact h3
    have hLX := hideit (hLie.carry HE3.out)
    clear hLie
    go_upto_region 6 with (fail)
    generalize X.setCell ⟨c, 1, none⟩ (.int .u64 ((xW (f 0) (k0 nn l)).toNat : Int)) = x3 at *
    clear HH2 HE2 eX gX
    have hcut := cutA c
    refine wp_region_lit ?_
    refine wpList_run rfl (.pointer (some ⟨c, 0, none⟩)) (by simp [go_sem]) ?_
    simp only [Act.put, List.setIfInBounds_toArray, List.set_cons_zero, List.set_cons_succ]
    refine wpList_run rfl (.pointer (some ⟨c, 0, none⟩)) (by simp [go_sem]) ?_
    simp only [Act.put, List.setIfInBounds_toArray, List.set_cons_zero, List.set_cons_succ]
    refine wpList_run rfl (.pointer (some ⟨c, 10, none⟩)) (by simp [go_sem]) ?_
    simp only [Act.put, List.setIfInBounds_toArray, List.set_cons_zero, List.set_cons_succ]
    refine wpList_run rfl (.slice (some ⟨c, 10, none⟩) 128 128) (by simp [go_sem, hcut]) ?_
    simp only [Act.put, List.setIfInBounds_toArray, List.set_cons_zero, List.set_cons_succ]
    refine wpList_run rfl (.slice (some ka) l cp) (by simp [go_sem]) ?_
    simp only [Act.put, List.setIfInBounds_toArray, List.set_cons_zero, List.set_cons_succ]
    refine wpList_copy_row rfl (.tmp 45) (.tmp 46) 32 32 rfl 5 Tryd.underlying32 info5 c 139 _ HH3.out 10 128 128 ka l cp rfl rfl l (yv key) (Nat.min_eq_left (by omega : l ≤ 128)).symm (fun j hj => hLX.out.1 j hj) (by omega) (fun _ _ => rfl) ?_
    have HH4 := hideit (HashAt.setPiece HH3.out 0 l (by omega) key (keyF l key) (fun j _ => by
      unfold keyF
      by_cases h : j < l
      · rw [if_pos h, if_pos (by omega), Nat.sub_zero]
      · rw [if_neg h, if_neg (by omega)]))
    have HE4 := hideit (below_setCells c hsz1 (row l (yv key)) 10 _ HE3.out)
    have hwrite : x3.setCells c (10 + 0) (row l (yv key)) = x3.setCells c 10 (row l (yv key)) := rfl
    rw [hwrite] at HH4
    generalize x3.setCells c 10 (row l (yv key)) = x4 at *
    clear HH3 HE3 hLX hcut hwrite
    simp only [Act.put, List.setIfInBounds_toArray, List.set_cons_zero, List.set_cons_succ]
    have e138 := HH4.out.wait
    have g138 := HH4.out.2.1 138 (by omega)
    have HH5 := hideit (HH4.out.setWait 128)
    have HE5 := hideit (HE4.out.setCell (p := ⟨c, 138, none⟩) hsz1 (.int .i64 128))
    go_wp2
    refine bodyPost_ret (v := .tuple #[.pointer (some ⟨c, 0, none⟩), .int .i64 0]) (by simp [results, Tryd.results57]) rfl ⟨c, hsz1, rfl, ⟨0, 128, by unfold keyN; rw [if_neg hl0], by omega, fun h => by omega, ?_⟩, HE5.out⟩
    exact HH5.out.congrP fun j hj => by
      unfold pendB
      rw [if_pos hj, Nat.mul_zero, Nat.zero_add]
end Go.Proofs.YtfbmeclpcgdmhabDoor
