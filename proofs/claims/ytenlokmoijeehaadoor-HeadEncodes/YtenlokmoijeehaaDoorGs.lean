/-
  The header of a block whose digest is right. The header of any bytes. Of two copies, which one counts: Choose.
-/
import Derived.Test.YtenlokmoijeehaaDoorGr
namespace Go.Proofs.YtenlokmoijeehaaDoor
open Go.RowKit Go.BigFrame
/-- what the bytes say -/
def ofB (b : Nat → BitVec 8) : Hd := ⟨leN (shF b 8) 8, ((leN (shF (shF b 8) 8) 4).toNat : Int), ((leN (shF (shF (shF b 8) 8) 4) 1).toNat : Int), ((leN (shF (shF (shF (shF b 8) 8) 4) 1) 2).toNat : Int), ((leN (shF (shF (shF (shF (shF b 8) 8) 4) 1) 2) 1).toNat : Int), ((leN (shF (shF (shF (shF (shF (shF b 8) 8) 4) 1) 2) 1) 1).toNat : Int), ((leN (shF (shF (shF (shF (shF (shF (shF b 8) 8) 4) 1) 2) 1) 1) 2).toNat : Int), ((leN (shF (shF (shF (shF (shF (shF (shF (shF b 8) 8) 4) 1) 2) 1) 1) 2) 1).toNat : Int), shF (shF (shF (shF (shF (shF (shF (shF (shF b 8) 8) 4) 1) 2) 1) 1) 2) 1⟩
set_option maxRecDepth 20000 in
set_option maxHeartbeats 2000000 in
theorem dec_go (a : Addr) (cap : Nat) (b : Nat → BitVec 8) (w : World) (h : LieAt a 512 (yv b) w) (hcap : 512 ≤ cap) (hC : TabC w) (hd : eqN 32 (shaF b 480) (fun j => b (480 + j)) = true) (M Z : Bool) (hM : eqN 8 b (bT mkL) = M) (hZ : zB (shF (shF (shF (shF (shF (shF (shF (shF (shF (shF b 8) 8) 4) 1) 2) 1) 1) 2) 1) 16) 436 = Z) (D : Prop) (hP : D ↔ (M = true ∧ Z = true ∧ okH (ofB b))) :
    Calls Tryd.prog 16 #[.slice (some a) 512 cap] w fun e w' => (D → e = .returned (.tuple #[.agg (row 24 (hdv (ofB b))).toArray, .int .i64 0])) ∧ (¬ D → e = .returned (.tuple #[.agg (row 24 (hdv zH)).toArray, .int .i64 110])) ∧ Ext w w' := by
  obtain ⟨H, hH⟩ : ∃ H, H = ofB b := ⟨_, rfl⟩
  rw [← hH] at hP ⊢
  replace hP := hideit hP
  replace hH := hideit hH
  replace hM := hideit hM
  replace hZ := hideit hZ
  have Q1 := hideit (RowAt.new w 24 (hdv zH) 27)
  have hE1 := hideit ((Below.refl w.heap.size w).alloc (Nat.le_refl _) (.cells (row 24 (hdv zH)).toArray 27))
  have L1 := hideit (h.carry hE1.out)
  have C1 := hideit (hC.ext hE1.out)
  replace hd := hideit hd
  clear h hC
  go_enter Tryd.func16, Tryd.ntmps16
  go_upto_region 0 with (fail)
  refine wp_region_lit ?_
  refine wpList_to rfl (.pointer (some ⟨w.heap.size, 0, none⟩)) (w.alloc (.cells (row 24 (hdv zH)).toArray 27)) (exec_alloc 27 _ rfl (zeroH w)) ?_
  simp only [Act.put, List.setIfInBounds_toArray, List.set_cons_zero, List.set_cons_succ]
  generalize w.alloc (.cells (row 24 (hdv zH)).toArray 27) = w1 at *
  obtain ⟨q, hq⟩ : ∃ q, q = w.heap.size := ⟨_, rfl⟩
  have hwq : Hid (w.heap.size ≤ q) := hideit (by omega)
  rw [← hq] at Q1 ⊢
  clear hq
  go_upto_region 1 with (fail)
  have l1 := cutLo a cap hcap
  have l2 := cutHi a cap hcap
  have hD : Ext w1 w1.drew := (Ext.refl w1).draw
  refine wp_region_lad (fun X => Ext w1 X) [(false, 0), (false, 1), (false, 2), (false, 3), (false, 4), (false, 5), (false, 7), (false, 8), (false, 9), (false, 10), (true, 6), (false, 11), (false, 12)] (by kernel_rfl) (by kernel_rfl) (by decide +kernel) (by decide +kernel) (by decide +kernel) (by decide +kernel) hD ?_
  refine wpX_f _ (.slice (some a) 512 cap) rfl rfl (fun X _ => by simp [go_sem]) ?_
  simp only [List.getElem_toArray, List.getElem_cons_zero, Act.put, List.setIfInBounds_toArray, List.set_cons_zero, List.set_cons_succ]
  refine wpX_f _ (.int .i64 512) rfl rfl (fun X _ => by simp [go_sem]) ?_
  simp only [List.getElem_toArray, List.getElem_cons_zero, List.getElem_cons_succ, Act.put, List.setIfInBounds_toArray, List.set_cons_zero, List.set_cons_succ]
  refine wpX_f _ (.bool false) rfl rfl (fun X _ => by simp [go_sem]) ?_
  simp only [List.getElem_toArray, List.getElem_cons_zero, List.getElem_cons_succ, Act.put, List.setIfInBounds_toArray, List.set_cons_zero, List.set_cons_succ]
  refine wpX_f _ (.bool false) rfl rfl (fun X _ => by simp [go_sem]) ?_
  simp only [List.getElem_toArray, List.getElem_cons_zero, List.getElem_cons_succ, Act.put, List.setIfInBounds_toArray, List.set_cons_zero, List.set_cons_succ]
  refine wpX_f _ (.slice (some a) 512 cap) rfl rfl (fun X _ => by simp [go_sem]) ?_
  simp only [List.getElem_toArray, List.getElem_cons_zero, List.getElem_cons_succ, Act.put, List.setIfInBounds_toArray, List.set_cons_zero, List.set_cons_succ]
  refine wpX_f _ (.slice (some a) 480 cap) rfl rfl (fun X _ => by simp [go_sem, l1]) ?_
  simp only [List.getElem_toArray, List.getElem_cons_zero, List.getElem_cons_succ, Act.put, List.setIfInBounds_toArray, List.set_cons_zero, List.set_cons_succ]
  refine wpX_f _ (.slice (some a) 512 cap) rfl rfl (fun X _ => by simp [go_sem]) ?_
  simp only [List.getElem_toArray, List.getElem_cons_zero, List.getElem_cons_succ, Act.put, List.setIfInBounds_toArray, List.set_cons_zero, List.set_cons_succ]
  refine wpX_f _ (.slice (some ⟨a.block, a.off + 480, none⟩) 32 (cap - 480)) rfl rfl (fun X _ => by simp [go_sem, l2]) ?_
  simp only [List.getElem_toArray, List.getElem_cons_zero, List.getElem_cons_succ, Act.put, List.setIfInBounds_toArray, List.set_cons_zero, List.set_cons_succ]
  refine wpX_f _ (.pointer (some ⟨a.block, a.off + 480, none⟩)) rfl rfl (fun X _ => by simp [go_sem, arr52]) ?_
  simp only [List.getElem_toArray, List.getElem_cons_zero, List.getElem_cons_succ, Act.put, List.setIfInBounds_toArray, List.set_cons_zero, List.set_cons_succ]
  refine wpX_f _ (.agg (row 32 (yv fun j => b (480 + j))).toArray) rfl rfl (fun X hX => exec_loadR 52 (.tmp 16) rfl a.block (a.off + 480) 32 (yv fun j => b (480 + j)) rfl (lie_range (L1.out.carry hX) 480 32 (by decide) (by decide)) Tryd.underlying52 rfl info52) ?_
  simp only [List.getElem_toArray, List.getElem_cons_zero, List.getElem_cons_succ, Act.put, List.setIfInBounds_toArray, List.set_cons_zero, List.set_cons_succ]
  refine wpX_call _ rfl rfl (by simp [go_sem]) ((sumV (.slice (some a) 480 cap) 480 b w1.drew (BV.cut (L1.out.carry hD) (by decide) (by omega)) (C1.out.ext hD) (by decide)).mono ?_)
  rintro e w2 ⟨rfl, hE2⟩
  refine ⟨_, rfl, fun X => Ext w2 X, fun X hX => Ext.trans (Ext.trans hD hE2) hX, Ext.refl _, ?_⟩
  simp only [List.getElem_toArray, List.getElem_cons_zero, List.getElem_cons_succ, Act.put, List.setIfInBounds_toArray, List.set_cons_zero, List.set_cons_succ]
  refine wpX_f _ (.bool (!(eqN 32 (shaF b 480) fun j => b (480 + j)))) rfl rfl (fun X _ => exec_cmp .neq 52 52 (.tmp 13) (.tmp 17) rfl _ _ rfl rfl (by kernel_rfl) _ (neq52 _ _ X)) ?_
  rw [hd.out]
  simp only [List.getElem_toArray, List.getElem_cons_zero, List.getElem_cons_succ, Act.put, List.setIfInBounds_toArray, List.set_cons_zero, List.set_cons_succ]
  refine wpX_f _ (.bool false) rfl rfl (fun X _ => by simp [go_sem]) ?_
  simp only [List.getElem_toArray, List.getElem_cons_zero, List.getElem_cons_succ, Act.put, List.setIfInBounds_toArray, List.set_cons_zero, List.set_cons_succ]
  refine wpX_nil ?_
  have Q2 := hideit (Q1.out.carry (Ext.trans hD hE2))
  have L2 := hideit (L1.out.carry (Ext.trans hD hE2))
  replace hE2 := hideit (Ext.trans hE1.out (Ext.trans hD hE2))
  clear Q1 hE1 L1 C1 l2 hD hd
  go_upto_region 3 with (fail)
  refine wp_region_lit ?_
  refine wpList_run rfl (.slice (some a) 512 cap) (by simp [go_sem]) ?_
  simp only [Act.put, List.setIfInBounds_toArray, List.set_cons_zero, List.set_cons_succ]
  refine wpList_run rfl (.slice (some a) 480 cap) (by simp [go_sem, l1]) ?_
  simp only [Act.put, List.setIfInBounds_toArray, List.set_cons_zero, List.set_cons_succ]
  refine wpList_call rfl (by simp [go_sem]; exact ⟨rfl, rfl⟩) ?_
  refine (newr_any (.slice (some a) 480 cap) 480 b w2 (BV.cut L2.out (by decide) (by omega)) (by decide)).mono ?_
  rintro e w3 ⟨r, rfl, hr3, R3, hE3⟩
  refine ⟨_, rfl, ?_⟩
  simp only [Act.put, List.setIfInBounds_toArray, List.set_cons_zero, List.set_cons_succ]
  have hqr : Hid (q < r) := hideit (Nat.lt_of_lt_of_le Q2.out.2.2 hr3)
  have hwr : Hid (w.heap.size ≤ r) := hideit (Nat.le_trans (Below.size hE2.out) hr3)
  obtain ⟨lo, hlo⟩ : ∃ lo, lo = w2.heap.size := ⟨_, rfl⟩
  rw [← hlo] at R3 hr3
  have Q3 := hideit (Q2.out.carry hE3)
  replace hE3 := hideit (Ext.trans hE2.out hE3)
  replace R3 := hideit R3
  replace hr3 := hideit hr3
  clear Q2 L2 hE2 hlo l1
  go_upto_region 4 with (fail)
  refine wp_region_lit ?_
  refine wpList_run rfl (.pointer (some ⟨r, 0, none⟩)) (by simp [go_sem]) ?_
  simp only [Act.put, List.setIfInBounds_toArray, List.set_cons_zero, List.set_cons_succ]
  refine wpList_call rfl (by simp [go_sem]; exact ⟨rfl, rfl⟩) ?_
  refine (rbytes_ok lo r 480 8 b w3 R3.out (by decide) (by decide)).mono ?_
  rintro e w4 ⟨v4, rfl, O4, _, R4, B4⟩
  refine ⟨_, rfl, ?_⟩
  simp only [Act.put, List.setIfInBounds_toArray, List.set_cons_zero, List.set_cons_succ]
  have hcv := convV v4 8 b w4 O4.bv
  have hq4 : Hid (((bstr 8 fun j => ((b j).toNat : Int)).toList == (ByteArray.mk #[67, 65, 83, 75, 69, 84, 48, 49]).toList) = M) := by
    show _ = M
    rw [bstr_list, mk_list, lst_beq, hM.out]
  obtain ⟨str, hstr⟩ : ∃ str, str = bstr 8 (fun j => ((b j).toNat : Int)) := ⟨_, rfl⟩
  rw [← hstr] at hcv hq4
  have Q4 := hideit (Q3.out.but B4 (by have := hqr.out; omega))
  have hE4 := hideit (Below.trans hE3.out (B4.below hwr.out (Below.size hE3.out)))
  replace R4 := hideit R4
  clear O4 Q3 hE3 R3 B4 hstr hM
  refine wpList_run rfl (.string str) (by simp [go_sem, hcv]) ?_
  simp only [Act.put, List.setIfInBounds_toArray, List.set_cons_zero, List.set_cons_succ]
  refine wpList_run rfl (.bool M) (by simp only [← hq4.out]; simp [go_sem]) ?_
  simp only [Act.put, List.setIfInBounds_toArray, List.set_cons_zero, List.set_cons_succ]
  clear hcv hq4
  go_upto_region 5 with (fail)
  refine wp_region_lit ?_
  refine wpList_run rfl (.pointer (some ⟨r, 0, none⟩)) (by simp [go_sem]) ?_
  simp only [Act.put, List.setIfInBounds_toArray, List.set_cons_zero, List.set_cons_succ]
  refine wpList_call rfl (by simp [go_sem]; exact ⟨rfl, rfl⟩) ?_
  refine (get_hd lo r (480 - 8) (shF b 8) w4 R4.out hr3.out (by decide) (by decide) H (hideit hH.out)).mono ?_
  rintro e w5 ⟨rfl, R5, B5⟩
  refine ⟨_, rfl, ?_⟩
  simp only [Act.put, List.setIfInBounds_toArray, List.set_cons_zero, List.set_cons_succ]
  have Q5 := hideit (Q4.out.but B5 (by have := hqr.out; omega))
  have hE5 := hideit (Below.trans hE4.out (B5.below hwr.out (Below.size hE4.out)))
  have hrw5 : Hid (r < w5.heap.size) := hideit R5.lt
  have hD := rdone_any lo r 436 _ false w5 R5 (by decide)
  rw [hZ.out] at hD
  have HN := hideit (RowAt.new w5 24 (hdv zH) 27)
  have hE6 : Ext w5 (w5.alloc (.cells (row 24 (hdv zH)).toArray 27)) := (Below.refl _ _).alloc (Nat.le_refl _) _
  have R6 := hideit (R5.ext hE6)
  have Q6 := hideit (Q5.out.carry hE6)
  have hqs : Hid (q < w5.heap.size) := hideit Q5.out.2.2
  have hws : Hid (w.heap.size ≤ w5.heap.size) := hideit (Below.size hE5.out)
  have hE7 := hideit (Ext.trans hE5.out hE6)
  clear hD R5 B5 Q5 hE5 hE6 Q4 hE4 R4
  refine wpList_to rfl (.pointer (some ⟨w5.heap.size, 0, none⟩)) (w5.alloc (.cells (row 24 (hdv zH)).toArray 27)) (exec_alloc 27 _ rfl (zeroH w5)) ?_
  simp only [Act.put, List.setIfInBounds_toArray, List.set_cons_zero, List.set_cons_succ]
  refine wpList_store_mid rfl 27 (.tmp 6) (.tmp 29) rfl w5.heap.size 0 (row 24 (hdv H)).toArray rfl rfl (by rw [row_size]; exact HN.out.there) (by rw [row_size]; exact infoH) (row_one fun j _ => hdv_one _ j) ?_
  rw [show (row 24 (hdv H)).toArray.toList = row 24 (hdv H) from rfl]
  have S7 : Hid (RowAt w5.heap.size 24 (hdv H) _) := hideit (HN.out.cells (g' := hdv H))
  have Q7 := hideit (Q6.out.cellsOther (c := w5.heap.size) (by have := hqs.out; omega) (row 24 (hdv H)) 0)
  have R7 := hideit (R6.out.set (o := 0) hrw5.out hr3.out (row 24 (hdv H)))
  have hE8 := hideit (below_setCells w5.heap.size hws.out (row 24 (hdv H)) 0 _ hE7.out)
  generalize (w5.alloc (.cells (row 24 (hdv zH)).toArray 27)).setCells w5.heap.size 0 (row 24 (hdv H)) = w7 at *
  generalize w5.heap.size = s at *
  clear HN R6 Q6 hE7
  simp only [Act.put]
  go_upto_region 6 with (fail)
  have hD := rdone_any lo r 436 _ false w7 R7.out (by decide)
  rw [hZ.out] at hD
  replace hD := hideit hD
  clear R7 hZ hH hqr hwr hr3
  cases M with
  | false =>
    have hno : Hid (¬ D) := hideit (fun h => absurd (hP.out.1 h).1 (by decide))
    clear hP
    refine wp_region_lit ?_
    refine wpList_run rfl (.bool false) (by simp [go_sem]) ?_
    simp only [Act.put, List.setIfInBounds_toArray, List.set_cons_zero, List.set_cons_succ]
    refine wpList_run rfl (.bool true) (by simp [go_sem]) ?_
    simp only [Act.put, List.setIfInBounds_toArray, List.set_cons_zero, List.set_cons_succ]
    refine wpList_run rfl (.bool true) (by simp [go_sem]) ?_
    simp only [Act.put, List.setIfInBounds_toArray, List.set_cons_zero, List.set_cons_succ]
    refine wpList_not rfl ?_
    simp only [Act.put, List.setIfInBounds_toArray, List.set_cons_zero, List.set_cons_succ]
    refine wpList_not rfl ?_
    simp only [Act.put, List.setIfInBounds_toArray, List.set_cons_zero, List.set_cons_succ]
    refine wpList_not rfl ?_
    simp only [Act.put, List.setIfInBounds_toArray, List.set_cons_zero, List.set_cons_succ]
    refine wpList_run rfl (.bool true) (by simp [go_sem]) ?_
    simp only [Act.put, List.setIfInBounds_toArray, List.set_cons_zero, List.set_cons_succ]
    refine wpList_run rfl (.bool true) (by simp [go_sem]) ?_
    simp only [Act.put, List.setIfInBounds_toArray, List.set_cons_zero, List.set_cons_succ]
    refine wpList_not rfl ?_
    simp only [Act.put, List.setIfInBounds_toArray, List.set_cons_zero, List.set_cons_succ]
    refine wpList_not rfl ?_
    simp only [Act.put, List.setIfInBounds_toArray, List.set_cons_zero, List.set_cons_succ]
    refine wpList_not rfl ?_
    simp only [Act.put, List.setIfInBounds_toArray, List.set_cons_zero, List.set_cons_succ]
    refine wpList_run rfl (.bool true) (by simp [go_sem]) ?_
    simp only [Act.put, List.setIfInBounds_toArray, List.set_cons_zero, List.set_cons_succ]
    clear S7 hD
    go_upto_region 7 with (fail)
    refine wp_region_lit ?_
    refine wpList_build rfl 27 [] rfl (.agg (row 24 (hdv zH)).toArray) (buildH _) ?_
    simp only [Act.put, List.setIfInBounds_toArray, List.set_cons_zero, List.set_cons_succ]
    refine wpList_store_mid rfl 27 (.tmp 2) (.tmp 42) rfl q 0 (row 24 (hdv zH)).toArray rfl rfl (by rw [row_size]; exact Q7.out.there) (by rw [row_size]; exact infoH) (row_one fun j _ => hdv_one _ j) ?_
    rw [show (row 24 (hdv zH)).toArray.toList = row 24 (hdv zH) from rfl]
    have h9 : Hid (RowAt q 24 (hdv zH) (w7.setCells q 0 (row 24 (hdv zH)))) := hideit Q7.out.cells
    have hE9 := hideit (below_setCells q hwq.out (row 24 (hdv zH)) 0 _ hE8.out)
    generalize w7.setCells q 0 (row 24 (hdv zH)) = w9 at *
    clear Q7 hE8
    simp only [Act.put]
    go_wp2
    exact bodyPost_ret (ret_row2 Tryd.results16 rfl h9.out Tryd.underlying27 rfl infoH) rfl ⟨fun hh => absurd hh hno.out, fun _ => rfl, hE9.out⟩
  | true =>
    cases Z with
    | false =>
      have hno : Hid (¬ D) := hideit (fun h => absurd (hP.out.1 h).2.1 (by decide))
      replace hD := hD.out
      rw [show dnI (false || !false) = 90 from rfl] at hD
      replace hD := hideit hD
      clear hP
      refine wp_region_lit ?_
      refine wpList_run rfl (.bool true) (by simp [go_sem]) ?_
      simp only [Act.put, List.setIfInBounds_toArray, List.set_cons_zero, List.set_cons_succ]
      refine wpList_run rfl (.bool false) (by simp [go_sem]) ?_
      simp only [Act.put, List.setIfInBounds_toArray, List.set_cons_zero, List.set_cons_succ]
      refine wpList_run rfl (.bool false) (by simp [go_sem]) ?_
      simp only [Act.put, List.setIfInBounds_toArray, List.set_cons_zero, List.set_cons_succ]
      refine wpList_runW rfl (.pointer (some ⟨r, 0, none⟩)) (by simp [go_sem]) ?_
      simp only [Act.put, List.setIfInBounds_toArray, List.set_cons_zero, List.set_cons_succ]
      refine wpList_callW rfl (by simp [go_sem]; exact ⟨rfl, rfl⟩) ?_
      refine hD.out.mono ?_
      rintro e9 w8 ⟨rfl, hw8⟩
      refine ⟨_, rfl, ?_⟩
      simp only [Act.put, List.setIfInBounds_toArray, List.set_cons_zero, List.set_cons_succ]
      rw [hw8]
      clear hw8 w8
      refine wpList_runW rfl (.bool true) (by simp [go_sem]) ?_
      simp only [Act.put, List.setIfInBounds_toArray, List.set_cons_zero, List.set_cons_succ]
      refine wpList_run rfl (.bool true) (by simp [go_sem]) ?_
      simp only [Act.put, List.setIfInBounds_toArray, List.set_cons_zero, List.set_cons_succ]
      refine wpList_run rfl (.bool true) (by simp [go_sem]) ?_
      simp only [Act.put, List.setIfInBounds_toArray, List.set_cons_zero, List.set_cons_succ]
      refine wpList_not rfl ?_
      simp only [Act.put, List.setIfInBounds_toArray, List.set_cons_zero, List.set_cons_succ]
      refine wpList_not rfl ?_
      simp only [Act.put, List.setIfInBounds_toArray, List.set_cons_zero, List.set_cons_succ]
      refine wpList_not rfl ?_
      simp only [Act.put, List.setIfInBounds_toArray, List.set_cons_zero, List.set_cons_succ]
      refine wpList_run rfl (.bool true) (by simp [go_sem]) ?_
      simp only [Act.put, List.setIfInBounds_toArray, List.set_cons_zero, List.set_cons_succ]
      clear S7 hD
      go_upto_region 7 with (fail)
      refine wp_region_lit ?_
      refine wpList_build rfl 27 [] rfl (.agg (row 24 (hdv zH)).toArray) (buildH _) ?_
      simp only [Act.put, List.setIfInBounds_toArray, List.set_cons_zero, List.set_cons_succ]
      refine wpList_store_mid rfl 27 (.tmp 2) (.tmp 42) rfl q 0 (row 24 (hdv zH)).toArray rfl rfl (by rw [row_size]; exact Q7.out.there) (by rw [row_size]; exact infoH) (row_one fun j _ => hdv_one _ j) ?_
      rw [show (row 24 (hdv zH)).toArray.toList = row 24 (hdv zH) from rfl]
      have h9 : Hid (RowAt q 24 (hdv zH) (w7.setCells q 0 (row 24 (hdv zH)))) := hideit Q7.out.cells
      have hE9 := hideit (below_setCells q hwq.out (row 24 (hdv zH)) 0 _ hE8.out)
      generalize w7.setCells q 0 (row 24 (hdv zH)) = w9 at *
      clear Q7 hE8
      simp only [Act.put]
      go_wp2
      exact bodyPost_ret (ret_row2 Tryd.results16 rfl h9.out Tryd.underlying27 rfl infoH) rfl ⟨fun hh => absurd hh hno.out, fun _ => rfl, hE9.out⟩
    | true =>
      replace hD := hD.out
      rw [show dnI (false || !true) = 0 from rfl] at hD
      replace hD := hideit hD
      by_cases hk : okH H
      · have k := hideit (check_ok H w7 hk)
        have hy : Hid D := hideit (hP.out.2 ⟨rfl, rfl, hk⟩)
        clear hP hk
        refine wp_region_lit ?_
        refine wpList_run rfl (.bool true) (by simp [go_sem]) ?_
        simp only [Act.put, List.setIfInBounds_toArray, List.set_cons_zero, List.set_cons_succ]
        refine wpList_run rfl (.bool false) (by simp [go_sem]) ?_
        simp only [Act.put, List.setIfInBounds_toArray, List.set_cons_zero, List.set_cons_succ]
        refine wpList_run rfl (.bool false) (by simp [go_sem]) ?_
        simp only [Act.put, List.setIfInBounds_toArray, List.set_cons_zero, List.set_cons_succ]
        refine wpList_runW rfl (.pointer (some ⟨r, 0, none⟩)) (by simp [go_sem]) ?_
        simp only [Act.put, List.setIfInBounds_toArray, List.set_cons_zero, List.set_cons_succ]
        refine wpList_callW rfl (by simp [go_sem]; exact ⟨rfl, rfl⟩) ?_
        refine hD.out.mono ?_
        rintro e9 w8 ⟨rfl, hw8⟩
        refine ⟨_, rfl, ?_⟩
        simp only [Act.put, List.setIfInBounds_toArray, List.set_cons_zero, List.set_cons_succ]
        rw [hw8]
        clear hw8 w8
        refine wpList_runW rfl (.bool false) (by simp [go_sem]) ?_
        simp only [Act.put, List.setIfInBounds_toArray, List.set_cons_zero, List.set_cons_succ]
        refine wpList_run rfl (.bool false) (by simp [go_sem]) ?_
        simp only [Act.put, List.setIfInBounds_toArray, List.set_cons_zero, List.set_cons_succ]
        refine wpList_run rfl (.bool false) (by simp [go_sem]) ?_
        simp only [Act.put, List.setIfInBounds_toArray, List.set_cons_zero, List.set_cons_succ]
        refine wpList_runW rfl (.agg (row 24 (hdv H)).toArray) (exec_loadR 27 (.tmp 6) rfl s 0 24 _ rfl S7.out.range Tryd.underlying27 rfl infoH) ?_
        simp only [Act.put, List.setIfInBounds_toArray, List.set_cons_zero, List.set_cons_succ]
        refine wpList_callW rfl (by simp [go_sem]; exact ⟨rfl, rfl⟩) ?_
        refine k.out.mono ?_
        rintro e9 w8 ⟨rfl, hE9⟩
        refine ⟨_, rfl, ?_⟩
        simp only [Act.put, List.setIfInBounds_toArray, List.set_cons_zero, List.set_cons_succ]
        have S8 := hideit (S7.out.carry hE9)
        have Q8 := hideit (Q7.out.carry hE9)
        replace hE9 := hideit (Ext.trans hE8.out hE9)
        clear S7 Q7 hE8 k hD
        refine wpList_runW rfl (.bool false) (by simp [go_sem]) ?_
        simp only [Act.put, List.setIfInBounds_toArray, List.set_cons_zero, List.set_cons_succ]
        refine wpList_run rfl (.bool false) (by simp [go_sem]) ?_
        simp only [Act.put, List.setIfInBounds_toArray, List.set_cons_zero, List.set_cons_succ]
        go_upto_region 8 with (fail)
        refine wp_region_lit ?_
        refine wpList_run rfl (.agg (row 24 (hdv H)).toArray) (exec_loadR 27 (.tmp 6) rfl s 0 24 _ rfl S8.out.range Tryd.underlying27 rfl infoH) ?_
        simp only [Act.put, List.setIfInBounds_toArray, List.set_cons_zero, List.set_cons_succ]
        refine wpList_store_mid rfl 27 (.tmp 2) (.tmp 43) rfl q 0 (row 24 (hdv H)).toArray rfl rfl (by rw [row_size]; exact Q8.out.there) (by rw [row_size]; exact infoH) (row_one fun j _ => hdv_one _ j) ?_
        rw [show (row 24 (hdv H)).toArray.toList = row 24 (hdv H) from rfl]
        have h9 : Hid (RowAt q 24 (hdv H) (w8.setCells q 0 (row 24 (hdv H)))) := hideit Q8.out.cells
        have hE10 := hideit (below_setCells q hwq.out (row 24 (hdv H)) 0 _ hE9.out)
        generalize w8.setCells q 0 (row 24 (hdv H)) = w9 at *
        clear Q8 hE9 S8
        simp only [Act.put]
        go_wp2
        exact bodyPost_ret (ret_row2 Tryd.results16 rfl h9.out Tryd.underlying27 rfl infoH) rfl ⟨fun _ => rfl, fun hh => absurd hy.out hh, hE10.out⟩
      · have k := hideit (check_no H w7 hk)
        have hno : Hid (¬ D) := hideit (fun h => hk (hP.out.1 h).2.2)
        clear hP hk
        refine wp_region_lit ?_
        refine wpList_run rfl (.bool true) (by simp [go_sem]) ?_
        simp only [Act.put, List.setIfInBounds_toArray, List.set_cons_zero, List.set_cons_succ]
        refine wpList_run rfl (.bool false) (by simp [go_sem]) ?_
        simp only [Act.put, List.setIfInBounds_toArray, List.set_cons_zero, List.set_cons_succ]
        refine wpList_run rfl (.bool false) (by simp [go_sem]) ?_
        simp only [Act.put, List.setIfInBounds_toArray, List.set_cons_zero, List.set_cons_succ]
        refine wpList_runW rfl (.pointer (some ⟨r, 0, none⟩)) (by simp [go_sem]) ?_
        simp only [Act.put, List.setIfInBounds_toArray, List.set_cons_zero, List.set_cons_succ]
        refine wpList_callW rfl (by simp [go_sem]; exact ⟨rfl, rfl⟩) ?_
        refine hD.out.mono ?_
        rintro e9 w8 ⟨rfl, hw8⟩
        refine ⟨_, rfl, ?_⟩
        simp only [Act.put, List.setIfInBounds_toArray, List.set_cons_zero, List.set_cons_succ]
        rw [hw8]
        clear hw8 w8
        refine wpList_runW rfl (.bool false) (by simp [go_sem]) ?_
        simp only [Act.put, List.setIfInBounds_toArray, List.set_cons_zero, List.set_cons_succ]
        refine wpList_run rfl (.bool false) (by simp [go_sem]) ?_
        simp only [Act.put, List.setIfInBounds_toArray, List.set_cons_zero, List.set_cons_succ]
        refine wpList_run rfl (.bool false) (by simp [go_sem]) ?_
        simp only [Act.put, List.setIfInBounds_toArray, List.set_cons_zero, List.set_cons_succ]
        refine wpList_runW rfl (.agg (row 24 (hdv H)).toArray) (exec_loadR 27 (.tmp 6) rfl s 0 24 _ rfl S7.out.range Tryd.underlying27 rfl infoH) ?_
        simp only [Act.put, List.setIfInBounds_toArray, List.set_cons_zero, List.set_cons_succ]
        refine wpList_callW rfl (by simp [go_sem]; exact ⟨rfl, rfl⟩) ?_
        refine k.out.mono ?_
        rintro e9 w8 ⟨rfl, hE9⟩
        refine ⟨_, rfl, ?_⟩
        simp only [Act.put, List.setIfInBounds_toArray, List.set_cons_zero, List.set_cons_succ]
        have S8 := hideit (S7.out.carry hE9)
        have Q8 := hideit (Q7.out.carry hE9)
        replace hE9 := hideit (Ext.trans hE8.out hE9)
        clear S7 Q7 hE8 k hD
        refine wpList_runW rfl (.bool true) (by simp [go_sem]) ?_
        simp only [Act.put, List.setIfInBounds_toArray, List.set_cons_zero, List.set_cons_succ]
        refine wpList_run rfl (.bool true) (by simp [go_sem]) ?_
        simp only [Act.put, List.setIfInBounds_toArray, List.set_cons_zero, List.set_cons_succ]
        clear S8
        go_upto_region 7 with (fail)
        refine wp_region_lit ?_
        refine wpList_build rfl 27 [] rfl (.agg (row 24 (hdv zH)).toArray) (buildH _) ?_
        simp only [Act.put, List.setIfInBounds_toArray, List.set_cons_zero, List.set_cons_succ]
        refine wpList_store_mid rfl 27 (.tmp 2) (.tmp 42) rfl q 0 (row 24 (hdv zH)).toArray rfl rfl (by rw [row_size]; exact Q8.out.there) (by rw [row_size]; exact infoH) (row_one fun j _ => hdv_one _ j) ?_
        rw [show (row 24 (hdv zH)).toArray.toList = row 24 (hdv zH) from rfl]
        have h9 : Hid (RowAt q 24 (hdv zH) (w8.setCells q 0 (row 24 (hdv zH)))) := hideit Q8.out.cells
        have hE10 := hideit (below_setCells q hwq.out (row 24 (hdv zH)) 0 _ hE9.out)
        generalize w8.setCells q 0 (row 24 (hdv zH)) = w9 at *
        clear Q8 hE9
        simp only [Act.put]
        go_wp2
        exact bodyPost_ret (ret_row2 Tryd.results16 rfl h9.out Tryd.underlying27 rfl infoH) rfl ⟨fun hh => absurd hh hno.out, fun _ => rfl, hE10.out⟩
end Go.Proofs.YtenlokmoijeehaaDoor
namespace Go.Proofs.YtenlokmoijeehaaDoor
open Go.RowKit Go.BigFrame
/-- are the bytes a header's? -/
def isH (l : Nat) (b : Nat → BitVec 8) : Prop := l = 512 ∧ eqN 32 (shaF b 480) (fun j => b (480 + j)) = true ∧ eqN 8 b (bT mkL) = true ∧ zB (shF (shF (shF (shF (shF (shF (shF (shF (shF (shF b 8) 8) 4) 1) 2) 1) 1) 2) 1) 16) 436 = true ∧ okH (ofB b)
theorem dec_yes (v : Value) (l : Nat) (b : Nat → BitVec 8) (w : World) (h : BV v l b w) (hC : TabC w) (hi : isH l b) :
    Calls Tryd.prog 16 #[v] w fun e w' => e = .returned (.tuple #[.agg (row 24 (hdv (ofB b))).toArray, .int .i64 0]) ∧ Ext w w' := by
  obtain ⟨hl, h1, h2, h3, h4⟩ := hi
  subst hl
  rcases h with ⟨_, h0⟩ | ⟨a, cap, rfl, hcap, hL⟩
  · exact absurd h0 (by decide)
  · exact (dec_go a cap b w hL hcap hC h1 true true h2 h3 True ⟨fun _ => ⟨rfl, rfl, h4⟩, fun _ => trivial⟩).mono fun _ _ h => ⟨h.1 trivial, h.2.2⟩
theorem dec_not (v : Value) (l : Nat) (b : Nat → BitVec 8) (w : World) (h : BV v l b w) (hC : TabC w) (hi : ¬ isH l b) :
    Calls Tryd.prog 16 #[v] w fun e w' => e = .returned (.tuple #[.agg (row 24 (hdv zH)).toArray, .int .i64 110]) ∧ Ext w w' := by
  by_cases hl : l = 512
  · subst hl
    rcases h with ⟨_, h0⟩ | ⟨a, cap, rfl, hcap, hL⟩
    · exact absurd h0 (by decide)
    · cases h1 : eqN 32 (shaF b 480) (fun j => b (480 + j)) with
      | false => exact dec_sum a cap b w hL hcap hC h1
      | true =>
        exact (dec_go a cap b w hL hcap hC h1 _ _ rfl rfl False ⟨fun hf => hf.elim, fun hh => hi ⟨rfl, h1, hh.1, hh.2.1, hh.2.2⟩⟩).mono fun _ _ h => ⟨h.2.1 id, h.2.2⟩
  · exact dec_len v l b w h hl
end Go.Proofs.YtenlokmoijeehaaDoor
namespace Go.Proofs.YtenlokmoijeehaaDoor
open Go.RowKit Go.BigFrame
theorem ret_row3 {P : Program} {F : Func} {tmps : Array Value} {k k2 k3 : Nat} {t : TypeId} {b n : Nat} {g : Nat → Value} {X : World} {d : TypeDesc} (hF : F.results = #[.cell k t, .tmp k2, .tmp k3]) (ht : tmps.getD k undef = .pointer (some ⟨b, 0, none⟩)) (h : RowAt b n g X)
    (hu : P.underlying t = some d) (hd : d.isRow = true) (hi : (P.info? t).map (·.size) = some n) : Sem.run P (results F tmps) X = .ok (.tuple #[.agg (row n g).toArray, tmps.getD k2 undef, tmps.getD k3 undef]) X := by
  have hl := run_loadVar_mid (P := P) X b 0 t (row n g) d h.range hu hd (by rw [row_length]; exact hi)
  unfold results
  rw [hF]
  simp only [List.mapM_toArray, List.mapM_cons, List.mapM_nil, ht]
  simp [asAddr, hl]
set_option maxRecDepth 20000 in
set_option maxHeartbeats 2000000 in
theorem cho_core (v1 v2 : Value) (H1 H2 : Hd) (E1 E2 : Int) (w : World)
    (k1 : ∀ X, Ext w X → Calls Tryd.prog 16 #[v1] X fun e w' => e = .returned (.tuple #[.agg (row 24 (hdv H1)).toArray, .int .i64 E1]) ∧ Ext X w')
    (k2 : ∀ X, Ext w X → Calls Tryd.prog 16 #[v2] X fun e w' => e = .returned (.tuple #[.agg (row 24 (hdv H2)).toArray, .int .i64 E2]) ∧ Ext X w')
    (R : Hd) (n e : Int) (rA : Hid (E1 ≠ 0 ∧ E2 ≠ 0 → R = zH ∧ n = 0 ∧ e = 110)) (rB : Hid (¬ (E1 ≠ 0 ∧ E2 ≠ 0) → H1.g.toNat < H2.g.toNat → R = H2 ∧ n = 1 ∧ e = 0)) (rC : Hid (¬ (E1 ≠ 0 ∧ E2 ≠ 0) → ¬ H1.g.toNat < H2.g.toNat → R = H1 ∧ n = 0 ∧ e = 0)) :
    Calls Tryd.prog 18 #[v1, v2] w fun x w' => x = .returned (.tuple #[.agg (row 24 (hdv R)).toArray, .int .i64 n, .int .i64 e]) ∧ Ext w w' := by
  have Q1 := hideit (RowAt.new w 24 (hdv zH) 27)
  have hE1 := hideit ((Below.refl w.heap.size w).alloc (Nat.le_refl _) (.cells (row 24 (hdv zH)).toArray 27))
  replace k1 := hideit k1
  replace k2 := hideit k2
  go_enter Tryd.func18, Tryd.ntmps18
  go_upto_region 0 with (fail)
  refine wp_region_lit ?_
  refine wpList_to rfl (.pointer (some ⟨w.heap.size, 0, none⟩)) (w.alloc (.cells (row 24 (hdv zH)).toArray 27)) (exec_alloc 27 _ rfl (zeroH w)) ?_
  simp only [Act.put, List.setIfInBounds_toArray, List.set_cons_zero, List.set_cons_succ]
  generalize w.alloc (.cells (row 24 (hdv zH)).toArray 27) = w1 at *
  obtain ⟨q, hq⟩ : ∃ q, q = w.heap.size := ⟨_, rfl⟩
  have hwq : Hid (w.heap.size ≤ q) := hideit (by omega)
  rw [← hq] at Q1 ⊢
  clear hq
  go_upto_region 1 with (fail)
  refine wp_region_lit ?_
  refine wpList_run rfl (v1) (by simp [go_sem]) ?_
  simp only [Act.put, List.setIfInBounds_toArray, List.set_cons_zero, List.set_cons_succ]
  refine wpList_call rfl (by simp [go_sem]; exact ⟨rfl, rfl⟩) ?_
  refine (k1.out w1 hE1.out).mono ?_
  rintro e w2 ⟨rfl, hE2⟩
  refine ⟨_, rfl, ?_⟩
  simp only [Act.put, List.setIfInBounds_toArray, List.set_cons_zero, List.set_cons_succ]
  refine wpList_run rfl (.tuple #[.agg (row 24 (hdv H1)).toArray, .int .i64 E1]) (by simp [go_sem]) ?_
  simp only [Act.put, List.setIfInBounds_toArray, List.set_cons_zero, List.set_cons_succ]
  refine wpList_run rfl (.agg (row 24 (hdv H1)).toArray) (by simp [go_sem]) ?_
  simp only [Act.put, List.setIfInBounds_toArray, List.set_cons_zero, List.set_cons_succ]
  refine wpList_run rfl (.int .i64 E1) (by simp [go_sem]) ?_
  simp only [Act.put, List.setIfInBounds_toArray, List.set_cons_zero, List.set_cons_succ]
  have Q2 := hideit (Q1.out.carry hE2)
  replace hE2 := hideit (Ext.trans hE1.out hE2)
  have HN := hideit (RowAt.new w2 24 (hdv zH) 27)
  have hX : Ext w2 (w2.alloc (.cells (row 24 (hdv zH)).toArray 27)) := (Below.refl _ _).alloc (Nat.le_refl _) _
  refine wpList_to rfl (.pointer (some ⟨w2.heap.size, 0, none⟩)) (w2.alloc (.cells (row 24 (hdv zH)).toArray 27)) (exec_alloc 27 _ rfl (zeroH w2)) ?_
  simp only [Act.put, List.setIfInBounds_toArray, List.set_cons_zero, List.set_cons_succ]
  refine wpList_store_mid rfl 27 (.tmp 7) (.tmp 14) rfl w2.heap.size 0 (row 24 (hdv H1)).toArray rfl rfl (by rw [row_size]; exact HN.out.there) (by rw [row_size]; exact infoH) (row_one fun j _ => hdv_one _ j) ?_
  rw [show (row 24 (hdv H1)).toArray.toList = row 24 (hdv H1) from rfl]
  have T3 : Hid (RowAt w2.heap.size 24 (hdv H1) _) := hideit (HN.out.cells (g' := hdv H1))
  have hqs1 : Hid (q < w2.heap.size) := hideit Q2.out.2.2
  have Q3 := hideit ((Q2.out.carry hX).cellsOther (c := w2.heap.size) (by have := hqs1.out; omega) (row 24 (hdv H1)) 0)
  have hE3 := hideit (below_setCells w2.heap.size (Below.size hE2.out) (row 24 (hdv H1)) 0 _ (Ext.trans hE2.out hX))
  generalize (w2.alloc (.cells (row 24 (hdv zH)).toArray 27)).setCells w2.heap.size 0 (row 24 (hdv H1)) = w3 at *
  generalize w2.heap.size = s1 at *
  clear HN hX Q2 hE2 Q1 hE1 k1
  have S3 := T3
  clear T3
  simp only [Act.put]
  go_upto_region 2 with (fail)
  refine wp_region_lit ?_
  refine wpList_run rfl (v2) (by simp [go_sem]) ?_
  simp only [Act.put, List.setIfInBounds_toArray, List.set_cons_zero, List.set_cons_succ]
  refine wpList_call rfl (by simp [go_sem]; exact ⟨rfl, rfl⟩) ?_
  refine (k2.out w3 hE3.out).mono ?_
  rintro e w4 ⟨rfl, hE4⟩
  refine ⟨_, rfl, ?_⟩
  simp only [Act.put, List.setIfInBounds_toArray, List.set_cons_zero, List.set_cons_succ]
  refine wpList_run rfl (.tuple #[.agg (row 24 (hdv H2)).toArray, .int .i64 E2]) (by simp [go_sem]) ?_
  simp only [Act.put, List.setIfInBounds_toArray, List.set_cons_zero, List.set_cons_succ]
  refine wpList_run rfl (.agg (row 24 (hdv H2)).toArray) (by simp [go_sem]) ?_
  simp only [Act.put, List.setIfInBounds_toArray, List.set_cons_zero, List.set_cons_succ]
  refine wpList_run rfl (.int .i64 E2) (by simp [go_sem]) ?_
  simp only [Act.put, List.setIfInBounds_toArray, List.set_cons_zero, List.set_cons_succ]
  have Q4 := hideit (Q3.out.carry hE4)
  have S4 := hideit (S3.out.carry hE4)
  replace hE4 := hideit (Ext.trans hE3.out hE4)
  have HN := hideit (RowAt.new w4 24 (hdv zH) 27)
  have hX : Ext w4 (w4.alloc (.cells (row 24 (hdv zH)).toArray 27)) := (Below.refl _ _).alloc (Nat.le_refl _) _
  refine wpList_to rfl (.pointer (some ⟨w4.heap.size, 0, none⟩)) (w4.alloc (.cells (row 24 (hdv zH)).toArray 27)) (exec_alloc 27 _ rfl (zeroH w4)) ?_
  simp only [Act.put, List.setIfInBounds_toArray, List.set_cons_zero, List.set_cons_succ]
  refine wpList_store_mid rfl 27 (.tmp 9) (.tmp 19) rfl w4.heap.size 0 (row 24 (hdv H2)).toArray rfl rfl (by rw [row_size]; exact HN.out.there) (by rw [row_size]; exact infoH) (row_one fun j _ => hdv_one _ j) ?_
  rw [show (row 24 (hdv H2)).toArray.toList = row 24 (hdv H2) from rfl]
  have T5 : Hid (RowAt w4.heap.size 24 (hdv H2) _) := hideit (HN.out.cells (g' := hdv H2))
  have hqs2 : Hid (q < w4.heap.size) := hideit Q4.out.2.2
  have Q5 := hideit ((Q4.out.carry hX).cellsOther (c := w4.heap.size) (by have := hqs2.out; omega) (row 24 (hdv H2)) 0)
  have hss : Hid (s1 < w4.heap.size) := hideit S4.out.2.2
  have S5 := hideit ((S4.out.carry hX).cellsOther (c := w4.heap.size) (by have := hss.out; omega) (row 24 (hdv H2)) 0)
  have hE5 := hideit (below_setCells w4.heap.size (Below.size hE4.out) (row 24 (hdv H2)) 0 _ (Ext.trans hE4.out hX))
  generalize (w4.alloc (.cells (row 24 (hdv zH)).toArray 27)).setCells w4.heap.size 0 (row 24 (hdv H2)) = w5 at *
  generalize w4.heap.size = s2 at *
  clear HN hX Q4 hE4 Q3 hE3 k2 S3 S4
  simp only [Act.put]
  go_upto_region 3 with (fail)
  by_cases c1 : E1 = 0
  · have hno : Hid (¬ (E1 ≠ 0 ∧ E2 ≠ 0)) := hideit (fun hh => hh.1 c1)
    refine wp_region_lit ?_
    refine wpList_run rfl (.int .i64 E1) (by simp [go_sem]) ?_
    simp only [Act.put, List.setIfInBounds_toArray, List.set_cons_zero, List.set_cons_succ]
    refine wpList_run rfl (.bool false) (by simp [go_sem, c1]) ?_
    simp only [Act.put, List.setIfInBounds_toArray, List.set_cons_zero, List.set_cons_succ]
    refine wpList_run rfl (.bool false) (by simp [go_sem]) ?_
    simp only [Act.put, List.setIfInBounds_toArray, List.set_cons_zero, List.set_cons_succ]
    refine wpList_not rfl ?_
    simp only [Act.put, List.setIfInBounds_toArray, List.set_cons_zero, List.set_cons_succ]
    refine wpList_not rfl ?_
    simp only [Act.put, List.setIfInBounds_toArray, List.set_cons_zero, List.set_cons_succ]
    refine wpList_run rfl (.bool false) (by simp [go_sem]) ?_
    simp only [Act.put, List.setIfInBounds_toArray, List.set_cons_zero, List.set_cons_succ]
    clear c1
    have rB2 := hideit (rB.out hno.out)
    have rC2 := hideit (rC.out hno.out)
    clear rA rB rC hno
    go_upto_region 5 with (fail)
    have e1 : w5.cell? ⟨s1, 0, none⟩ = some (.int .u64 (H1.g.toNat : Int)) := S5.out.1 0 (by decide)
    have e2 : w5.cell? ⟨s2, 0, none⟩ = some (.int .u64 (H2.g.toNat : Int)) := T5.out.1 0 (by decide)
    have k := hideit (above_any H2.g H1.g w5)
    refine wp_region_lit ?_
    refine wpList_run rfl (.pointer (some ⟨s2, 0, none⟩)) (by simp [go_sem]) ?_
    simp only [Act.put, List.setIfInBounds_toArray, List.set_cons_zero, List.set_cons_succ]
    refine wpList_run rfl (.int .u64 (H2.g.toNat : Int)) (by simp [go_sem, e2]) ?_
    simp only [Act.put, List.setIfInBounds_toArray, List.set_cons_zero, List.set_cons_succ]
    refine wpList_run rfl (.pointer (some ⟨s1, 0, none⟩)) (by simp [go_sem]) ?_
    simp only [Act.put, List.setIfInBounds_toArray, List.set_cons_zero, List.set_cons_succ]
    refine wpList_run rfl (.int .u64 (H1.g.toNat : Int)) (by simp [go_sem, e1]) ?_
    simp only [Act.put, List.setIfInBounds_toArray, List.set_cons_zero, List.set_cons_succ]
    refine wpList_call rfl (by simp [go_sem]; exact ⟨rfl, rfl⟩) ?_
    refine (k.out).mono ?_
    rintro e w8 ⟨rfl, hw8⟩
    refine ⟨_, rfl, ?_⟩
    simp only [Act.put, List.setIfInBounds_toArray, List.set_cons_zero, List.set_cons_succ]
    rw [hw8]
    clear hw8 w8 k e1 e2
    by_cases hlt : H1.g.toNat < H2.g.toNat
    · have hr := hideit (rB2.out hlt)
      rw [decide_eq_true hlt]
      clear rB2 rC2 hlt
      go_upto_region 6 with (fail)
      refine wp_region_lit ?_
      refine wpList_run rfl (.agg (row 24 (hdv H2)).toArray) (exec_loadR 27 (.tmp 9) rfl s2 0 24 _ rfl T5.out.range Tryd.underlying27 rfl infoH) ?_
      simp only [Act.put, List.setIfInBounds_toArray, List.set_cons_zero, List.set_cons_succ]
      refine wpList_store_mid rfl 27 (.tmp 4) (.tmp 33) rfl q 0 (row 24 (hdv H2)).toArray rfl rfl (by rw [row_size]; exact Q5.out.there) (by rw [row_size]; exact infoH) (row_one fun j _ => hdv_one _ j) ?_
      rw [show (row 24 (hdv H2)).toArray.toList = row 24 (hdv H2) from rfl]
      have h9 : Hid (RowAt q 24 (hdv H2) (w5.setCells q 0 (row 24 (hdv H2)))) := hideit Q5.out.cells
      have hE9 := hideit (below_setCells q hwq.out (row 24 (hdv H2)) 0 _ hE5.out)
      generalize w5.setCells q 0 (row 24 (hdv H2)) = w9 at *
      clear Q5 hE5 S5 T5
      simp only [Act.put]
      go_wp2
      refine bodyPost_ret (ret_row3 Tryd.results18 rfl h9.out Tryd.underlying27 rfl infoH) rfl ⟨?_, hE9.out⟩
      rw [hr.out.1, hr.out.2.1, hr.out.2.2]
      rfl
    · have hr := hideit (rC2.out hlt)
      rw [decide_eq_false hlt]
      clear rB2 rC2 hlt
      go_upto_region 7 with (fail)
      refine wp_region_lit ?_
      refine wpList_run rfl (.agg (row 24 (hdv H1)).toArray) (exec_loadR 27 (.tmp 7) rfl s1 0 24 _ rfl S5.out.range Tryd.underlying27 rfl infoH) ?_
      simp only [Act.put, List.setIfInBounds_toArray, List.set_cons_zero, List.set_cons_succ]
      refine wpList_store_mid rfl 27 (.tmp 4) (.tmp 34) rfl q 0 (row 24 (hdv H1)).toArray rfl rfl (by rw [row_size]; exact Q5.out.there) (by rw [row_size]; exact infoH) (row_one fun j _ => hdv_one _ j) ?_
      rw [show (row 24 (hdv H1)).toArray.toList = row 24 (hdv H1) from rfl]
      have h9 : Hid (RowAt q 24 (hdv H1) (w5.setCells q 0 (row 24 (hdv H1)))) := hideit Q5.out.cells
      have hE9 := hideit (below_setCells q hwq.out (row 24 (hdv H1)) 0 _ hE5.out)
      generalize w5.setCells q 0 (row 24 (hdv H1)) = w9 at *
      clear Q5 hE5 S5 T5
      simp only [Act.put]
      go_wp2
      refine bodyPost_ret (ret_row3 Tryd.results18 rfl h9.out Tryd.underlying27 rfl infoH) rfl ⟨?_, hE9.out⟩
      rw [hr.out.1, hr.out.2.1, hr.out.2.2]
      rfl
  · by_cases c2 : E2 = 0
    · have hno : Hid (¬ (E1 ≠ 0 ∧ E2 ≠ 0)) := hideit (fun hh => hh.2 c2)
      refine wp_region_lit ?_
      refine wpList_run rfl (.int .i64 E1) (by simp [go_sem]) ?_
      simp only [Act.put, List.setIfInBounds_toArray, List.set_cons_zero, List.set_cons_succ]
      refine wpList_run rfl (.bool true) (by simp [go_sem, c1]) ?_
      simp only [Act.put, List.setIfInBounds_toArray, List.set_cons_zero, List.set_cons_succ]
      refine wpList_run rfl (.bool true) (by simp [go_sem]) ?_
      simp only [Act.put, List.setIfInBounds_toArray, List.set_cons_zero, List.set_cons_succ]
      refine wpList_runW rfl (.int .i64 E2) (by simp [go_sem]) ?_
      simp only [Act.put, List.setIfInBounds_toArray, List.set_cons_zero, List.set_cons_succ]
      refine wpList_runW rfl (.bool false) (by simp [go_sem, c2]) ?_
      simp only [Act.put, List.setIfInBounds_toArray, List.set_cons_zero, List.set_cons_succ]
      refine wpList_run rfl (.bool false) (by simp [go_sem]) ?_
      simp only [Act.put, List.setIfInBounds_toArray, List.set_cons_zero, List.set_cons_succ]
      clear c1 c2
      have rB2 := hideit (rB.out hno.out)
      have rC2 := hideit (rC.out hno.out)
      clear rA rB rC hno
      go_upto_region 5 with (fail)
      have e1 : w5.cell? ⟨s1, 0, none⟩ = some (.int .u64 (H1.g.toNat : Int)) := S5.out.1 0 (by decide)
      have e2 : w5.cell? ⟨s2, 0, none⟩ = some (.int .u64 (H2.g.toNat : Int)) := T5.out.1 0 (by decide)
      have k := hideit (above_any H2.g H1.g w5)
      refine wp_region_lit ?_
      refine wpList_run rfl (.pointer (some ⟨s2, 0, none⟩)) (by simp [go_sem]) ?_
      simp only [Act.put, List.setIfInBounds_toArray, List.set_cons_zero, List.set_cons_succ]
      refine wpList_run rfl (.int .u64 (H2.g.toNat : Int)) (by simp [go_sem, e2]) ?_
      simp only [Act.put, List.setIfInBounds_toArray, List.set_cons_zero, List.set_cons_succ]
      refine wpList_run rfl (.pointer (some ⟨s1, 0, none⟩)) (by simp [go_sem]) ?_
      simp only [Act.put, List.setIfInBounds_toArray, List.set_cons_zero, List.set_cons_succ]
      refine wpList_run rfl (.int .u64 (H1.g.toNat : Int)) (by simp [go_sem, e1]) ?_
      simp only [Act.put, List.setIfInBounds_toArray, List.set_cons_zero, List.set_cons_succ]
      refine wpList_call rfl (by simp [go_sem]; exact ⟨rfl, rfl⟩) ?_
      refine (k.out).mono ?_
      rintro e w8 ⟨rfl, hw8⟩
      refine ⟨_, rfl, ?_⟩
      simp only [Act.put, List.setIfInBounds_toArray, List.set_cons_zero, List.set_cons_succ]
      rw [hw8]
      clear hw8 w8 k e1 e2
      by_cases hlt : H1.g.toNat < H2.g.toNat
      · have hr := hideit (rB2.out hlt)
        rw [decide_eq_true hlt]
        clear rB2 rC2 hlt
        go_upto_region 6 with (fail)
        refine wp_region_lit ?_
        refine wpList_run rfl (.agg (row 24 (hdv H2)).toArray) (exec_loadR 27 (.tmp 9) rfl s2 0 24 _ rfl T5.out.range Tryd.underlying27 rfl infoH) ?_
        simp only [Act.put, List.setIfInBounds_toArray, List.set_cons_zero, List.set_cons_succ]
        refine wpList_store_mid rfl 27 (.tmp 4) (.tmp 33) rfl q 0 (row 24 (hdv H2)).toArray rfl rfl (by rw [row_size]; exact Q5.out.there) (by rw [row_size]; exact infoH) (row_one fun j _ => hdv_one _ j) ?_
        rw [show (row 24 (hdv H2)).toArray.toList = row 24 (hdv H2) from rfl]
        have h9 : Hid (RowAt q 24 (hdv H2) (w5.setCells q 0 (row 24 (hdv H2)))) := hideit Q5.out.cells
        have hE9 := hideit (below_setCells q hwq.out (row 24 (hdv H2)) 0 _ hE5.out)
        generalize w5.setCells q 0 (row 24 (hdv H2)) = w9 at *
        clear Q5 hE5 S5 T5
        simp only [Act.put]
        go_wp2
        refine bodyPost_ret (ret_row3 Tryd.results18 rfl h9.out Tryd.underlying27 rfl infoH) rfl ⟨?_, hE9.out⟩
        rw [hr.out.1, hr.out.2.1, hr.out.2.2]
        rfl
      · have hr := hideit (rC2.out hlt)
        rw [decide_eq_false hlt]
        clear rB2 rC2 hlt
        go_upto_region 7 with (fail)
        refine wp_region_lit ?_
        refine wpList_run rfl (.agg (row 24 (hdv H1)).toArray) (exec_loadR 27 (.tmp 7) rfl s1 0 24 _ rfl S5.out.range Tryd.underlying27 rfl infoH) ?_
        simp only [Act.put, List.setIfInBounds_toArray, List.set_cons_zero, List.set_cons_succ]
        refine wpList_store_mid rfl 27 (.tmp 4) (.tmp 34) rfl q 0 (row 24 (hdv H1)).toArray rfl rfl (by rw [row_size]; exact Q5.out.there) (by rw [row_size]; exact infoH) (row_one fun j _ => hdv_one _ j) ?_
        rw [show (row 24 (hdv H1)).toArray.toList = row 24 (hdv H1) from rfl]
        have h9 : Hid (RowAt q 24 (hdv H1) (w5.setCells q 0 (row 24 (hdv H1)))) := hideit Q5.out.cells
        have hE9 := hideit (below_setCells q hwq.out (row 24 (hdv H1)) 0 _ hE5.out)
        generalize w5.setCells q 0 (row 24 (hdv H1)) = w9 at *
        clear Q5 hE5 S5 T5
        simp only [Act.put]
        go_wp2
        refine bodyPost_ret (ret_row3 Tryd.results18 rfl h9.out Tryd.underlying27 rfl infoH) rfl ⟨?_, hE9.out⟩
        rw [hr.out.1, hr.out.2.1, hr.out.2.2]
        rfl
    · have hr := hideit (rA.out ⟨c1, c2⟩)
      refine wp_region_lit ?_
      refine wpList_run rfl (.int .i64 E1) (by simp [go_sem]) ?_
      simp only [Act.put, List.setIfInBounds_toArray, List.set_cons_zero, List.set_cons_succ]
      refine wpList_run rfl (.bool true) (by simp [go_sem, c1]) ?_
      simp only [Act.put, List.setIfInBounds_toArray, List.set_cons_zero, List.set_cons_succ]
      refine wpList_run rfl (.bool true) (by simp [go_sem]) ?_
      simp only [Act.put, List.setIfInBounds_toArray, List.set_cons_zero, List.set_cons_succ]
      refine wpList_runW rfl (.int .i64 E2) (by simp [go_sem]) ?_
      simp only [Act.put, List.setIfInBounds_toArray, List.set_cons_zero, List.set_cons_succ]
      refine wpList_runW rfl (.bool true) (by simp [go_sem, c2]) ?_
      simp only [Act.put, List.setIfInBounds_toArray, List.set_cons_zero, List.set_cons_succ]
      refine wpList_run rfl (.bool true) (by simp [go_sem]) ?_
      simp only [Act.put, List.setIfInBounds_toArray, List.set_cons_zero, List.set_cons_succ]
      clear c1 c2 rA rB rC
      go_upto_region 4 with (fail)
      refine wp_region_lit ?_
      refine wpList_build rfl 27 [] rfl (.agg (row 24 (hdv zH)).toArray) (buildH _) ?_
      simp only [Act.put, List.setIfInBounds_toArray, List.set_cons_zero, List.set_cons_succ]
      refine wpList_store_mid rfl 27 (.tmp 4) (.tmp 27) rfl q 0 (row 24 (hdv zH)).toArray rfl rfl (by rw [row_size]; exact Q5.out.there) (by rw [row_size]; exact infoH) (row_one fun j _ => hdv_one _ j) ?_
      rw [show (row 24 (hdv zH)).toArray.toList = row 24 (hdv zH) from rfl]
      have h9 : Hid (RowAt q 24 (hdv zH) (w5.setCells q 0 (row 24 (hdv zH)))) := hideit Q5.out.cells
      have hE9 := hideit (below_setCells q hwq.out (row 24 (hdv zH)) 0 _ hE5.out)
      generalize w5.setCells q 0 (row 24 (hdv zH)) = w9 at *
      clear Q5 hE5 S5 T5
      simp only [Act.put]
      go_wp2
      refine bodyPost_ret (ret_row3 Tryd.results18 rfl h9.out Tryd.underlying27 rfl infoH) rfl ⟨?_, hE9.out⟩
      rw [hr.out.1, hr.out.2.1, hr.out.2.2]
      rfl
end Go.Proofs.YtenlokmoijeehaaDoor
