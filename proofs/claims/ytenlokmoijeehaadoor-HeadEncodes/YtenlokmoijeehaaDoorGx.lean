/-
  Where the parts of a volume lie: the document's answer. When layouts are the same.
-/
import Derived.Test.YtenlokmoijeehaaDoorGu
namespace Go.Proofs.YtenlokmoijeehaaDoor
open Go.RowKit Go.BigFrame
def rsI (m k : Nat) : Int := if k = 0 then 0 else if k = 1 then (m : Int) else (m : Int) + 1
def rz (h : Hd) (T : Int) : Nat → Int := fun j => if j = 0 then 2 else if j = 1 then 2 + h.sl else if j = 2 then 3 + h.sl else if j = 3 then 4 + h.sl else if j = 4 then 4 + h.sl + h.jo else if j = 6 then T else 0
theorem bl34 (a b c d : Int) (w : World) : (Instr.build 34 #[(0, .int .i64 2), (1, .int .i64 a), (2, .int .i64 b), (3, .int .i64 c), (4, .int .i64 d)]).run Tryd.prog w = .ok (.agg (row 9 (lyv (fun j => if j = 0 then 2 else if j = 1 then a else if j = 2 then b else if j = 3 then c else if j = 4 then d else 0) (.slice none 0 0))).toArray) w := run_build w 34 _ _ (by kernel_rfl)
theorem grown3 {w X Y : World} {e : TypeId} {v : Value} {n : Nat} {g : Nat → Value} {B : Nat} (h : Ext w X) (hO : OwnB B e v n g X) (hB : w.heap.size ≤ B) (hg : X.grownBy Y v.ownBlock) : Ext w Y := Below.trans h (below_grown (Below.size h) hg fun k hk => Nat.le_trans hB (hO.lt k hk).1)
theorem rowGrown {b m n : Nat} {u g : Nat → Value} {v : Value} {e : TypeId} {B : Nat} {X Y : World} (h : RowAt b m u X) (hO : OwnB B e v n g X) (hb : b < B) (hg : X.grownBy Y v.ownBlock) : RowAt b m u Y := h.grown hg fun hh => by have := (hO.lt b hh.symm).1; omega
set_option maxRecDepth 20000 in
set_option maxHeartbeats 2000000 in
theorem rlay_no (h : Hd) (w : World) (hk : ¬ okH h) : Calls Tryd.prog 11 #[.agg (row 24 (hdv h)).toArray] w fun e w' => e = .returned (.tuple #[.agg (row 9 (lyv (fun _ => 0) (.slice none 0 0))).toArray, .int .i64 1]) ∧ Ext w w' := by
  have H0 : Hid (RowAt w.heap.size 24 (hdv h) (w.alloc (.cells (row 24 (hdv h)).toArray 27))) := RowAt.new w 24 _ 27
  have hE0 : Hid (Ext w (w.alloc (.cells (row 24 (hdv h)).toArray 27))) := (Below.refl _ _).alloc (Nat.le_refl _) _
  go_enter Tryd.func11, Tryd.ntmps11
  go_upto_region 0 with (fail)
  refine wp_region_lit ?_
  refine wpList_to rfl (.pointer (some ⟨w.heap.size, 0, none⟩)) (w.alloc (.cells (row 24 (hdv h)).toArray 27)) (by simp [go_sem]) ?_
  simp only [Act.put, List.setIfInBounds_toArray, List.set_cons_zero, List.set_cons_succ]
  generalize w.alloc (.cells (row 24 (hdv h)).toArray 27) = w1 at *
  obtain ⟨c, hc⟩ : ∃ c, c = w.heap.size := ⟨_, rfl⟩
  have hwc : Hid (w.heap.size ≤ c) := hideit (by omega)
  rw [← hc] at H0 ⊢
  clear hc
  have Q2 := hideit (RowAt.new w1 9 (lyv (fun _ => 0) (.slice none 0 0)) 34)
  have hE2 : Ext w1 (w1.alloc (.cells (row 9 (lyv (fun _ => 0) (.slice none 0 0))).toArray 34)) := (Below.refl _ _).alloc (Nat.le_refl _) _
  have H2 := hideit (H0.out.carry hE2)
  have hcq : Hid (c < w1.heap.size) := hideit H0.out.2.2
  replace hE2 := hideit (Ext.trans hE0.out hE2)
  refine wpList_to rfl (.pointer (some ⟨w1.heap.size, 0, none⟩)) (w1.alloc (.cells (row 9 (lyv (fun _ => 0) (.slice none 0 0))).toArray 34)) (exec_alloc 34 _ rfl (zeroL w1)) ?_
  simp only [Act.put, List.setIfInBounds_toArray, List.set_cons_zero, List.set_cons_succ]
  generalize w1.alloc (.cells (row 9 (lyv (fun _ => 0) (.slice none 0 0))).toArray 34) = w2 at *
  generalize w1.heap.size = q at *
  clear H0 hE0
  go_upto_region 1 with (fail)
  have k := hideit (rcheck_no h w2 hk)
  refine wp_region_lit ?_
  refine wpList_run rfl (.agg (row 24 (hdv h)).toArray) (exec_loadR 27 (.tmp 1) rfl c 0 24 _ rfl H2.out.range Tryd.underlying27 rfl infoH) ?_
  simp only [Act.put, List.setIfInBounds_toArray, List.set_cons_zero, List.set_cons_succ]
  refine wpList_call rfl (by simp [go_sem]; exact ⟨rfl, rfl⟩) ?_
  refine (k.out).mono ?_
  rintro e w3 ⟨rfl, hE3⟩
  refine ⟨_, rfl, ?_⟩
  simp only [Act.put, List.setIfInBounds_toArray, List.set_cons_zero, List.set_cons_succ]
  have Q3 := hideit (Q2.out.carry hE3)
  have H3 := hideit (H2.out.carry hE3)
  replace hE3 := hideit (Ext.trans hE2.out hE3)
  clear k H2 Q2 hE2 hk
  have hwq : Hid (w.heap.size ≤ q) := hideit (by have := hwc.out; have := hcq.out; omega)
  go_upto_region 2 with (fail)
  refine wp_region_lit ?_
  refine wpList_build rfl 34 [] rfl (.agg (row 9 (lyv (fun _ => 0) (.slice none 0 0))).toArray) (buildL _) ?_
  simp only [Act.put, List.setIfInBounds_toArray, List.set_cons_zero, List.set_cons_succ]
  refine wpList_store_mid rfl 34 (.tmp 2) (.tmp 10) rfl q 0 (row 9 (lyv (fun _ => 0) (.slice none 0 0))).toArray rfl rfl (by rw [row_size]; exact Q3.out.there) (by rw [row_size]; exact infoL) (row_one fun j _ => lyv_one _ rfl j) ?_
  rw [show (row 9 (lyv (fun _ => 0) (.slice none 0 0))).toArray.toList = row 9 (lyv (fun _ => 0) (.slice none 0 0)) from rfl]
  have h9 : Hid (RowAt q 9 (lyv (fun _ => 0) (.slice none 0 0)) (w3.setCells q 0 (row 9 (lyv (fun _ => 0) (.slice none 0 0))))) := hideit Q3.out.cells
  have hE4 := hideit (below_setCells q hwq.out (row 9 (lyv (fun _ => 0) (.slice none 0 0))) 0 _ hE3.out)
  generalize w3.setCells q 0 (row 9 (lyv (fun _ => 0) (.slice none 0 0))) = w4 at *
  clear Q3 hE3 H3
  simp only [Act.put]
  go_wp2
  exact bodyPost_ret (ret_row2 Tryd.results11 rfl h9.out Tryd.underlying34 rfl infoL) rfl ⟨rfl, hE4.out⟩
set_option maxRecDepth 20000 in
set_option maxHeartbeats 2000000 in
theorem rlay_core (h : Hd) (w : World) (hk : okH h) (t m N : Nat) (Sm : Int) (et : Hid (t = (h.se.toNat + 8 - 1) / 8)) (em : Hid (m = (t + 16 - 1) / 16)) (hN : Hid (N = if m = 1 then 1 else 2)) (hSm : Hid (Sm = lsum m)) : Calls Tryd.prog 11 #[.agg (row 24 (hdv h)).toArray] w fun e w' =>
    ∃ b cap, e = .returned (.tuple #[.agg (row 9 (lyv (lzF h Sm t) (.slice (some ⟨b, 0, none⟩) N cap))).toArray, .int .i64 0]) ∧ RowAt b N (lvF m) w' ∧ Ext w w' := by
  have hk0 := hk
  obtain ⟨⟨a1, a2, a3, a4, a5, a6⟩, p1, p2, p3⟩ := hk0
  have bse : Hid (1 ≤ h.se ∧ h.se ≤ 1024) := a2
  have bsl : Hid (1 ≤ h.sl ∧ h.sl ≤ 8) := a3
  have bjo : Hid (16 ≤ h.jo ∧ h.jo ≤ 256) := a4
  have bt : Hid (1 ≤ t ∧ t ≤ 128) := by have := et.out; refine hideit ?_; omega
  have bm : Hid (1 ≤ m ∧ m ≤ 8) := by have := em.out; have := bt.out; refine hideit ?_; omega
  have bS : Hid (1 ≤ Sm ∧ Sm ≤ 9) := hideit (by have := bm.out; rw [hSm.out]; unfold lsum; split <;> omega)
  clear a1 a2 a3 a4 a5 a6 p1 p2 p3
  have H0 : Hid (RowAt w.heap.size 24 (hdv h) (w.alloc (.cells (row 24 (hdv h)).toArray 27))) := RowAt.new w 24 _ 27
  have hE0 : Hid (Ext w (w.alloc (.cells (row 24 (hdv h)).toArray 27))) := (Below.refl _ _).alloc (Nat.le_refl _) _
  go_enter Tryd.func11, Tryd.ntmps11
  go_upto_region 0 with (fail)
  refine wp_region_lit ?_
  refine wpList_to rfl (.pointer (some ⟨w.heap.size, 0, none⟩)) (w.alloc (.cells (row 24 (hdv h)).toArray 27)) (by simp [go_sem]) ?_
  simp only [Act.put, List.setIfInBounds_toArray, List.set_cons_zero, List.set_cons_succ]
  generalize w.alloc (.cells (row 24 (hdv h)).toArray 27) = w1 at *
  obtain ⟨c, hc⟩ : ∃ c, c = w.heap.size := ⟨_, rfl⟩
  have hwc : Hid (w.heap.size ≤ c) := hideit (by omega)
  rw [← hc] at H0 ⊢
  clear hc
  have Q2 := hideit (RowAt.new w1 9 (lyv (fun _ => 0) (.slice none 0 0)) 34)
  have hE2 : Ext w1 (w1.alloc (.cells (row 9 (lyv (fun _ => 0) (.slice none 0 0))).toArray 34)) := (Below.refl _ _).alloc (Nat.le_refl _) _
  have H2 := hideit (H0.out.carry hE2)
  have hcq : Hid (c < w1.heap.size) := hideit H0.out.2.2
  replace hE2 := hideit (Ext.trans hE0.out hE2)
  refine wpList_to rfl (.pointer (some ⟨w1.heap.size, 0, none⟩)) (w1.alloc (.cells (row 9 (lyv (fun _ => 0) (.slice none 0 0))).toArray 34)) (exec_alloc 34 _ rfl (zeroL w1)) ?_
  simp only [Act.put, List.setIfInBounds_toArray, List.set_cons_zero, List.set_cons_succ]
  generalize w1.alloc (.cells (row 9 (lyv (fun _ => 0) (.slice none 0 0))).toArray 34) = w2 at *
  generalize w1.heap.size = q at *
  clear H0 hE0
  go_upto_region 1 with (fail)
  have k := hideit (rcheck_ok h w2 hk)
  refine wp_region_lit ?_
  refine wpList_run rfl (.agg (row 24 (hdv h)).toArray) (exec_loadR 27 (.tmp 1) rfl c 0 24 _ rfl H2.out.range Tryd.underlying27 rfl infoH) ?_
  simp only [Act.put, List.setIfInBounds_toArray, List.set_cons_zero, List.set_cons_succ]
  refine wpList_call rfl (by simp [go_sem]; exact ⟨rfl, rfl⟩) ?_
  refine (k.out).mono ?_
  rintro e w3 ⟨rfl, hE3⟩
  refine ⟨_, rfl, ?_⟩
  simp only [Act.put, List.setIfInBounds_toArray, List.set_cons_zero, List.set_cons_succ]
  have Q3 := hideit (Q2.out.carry hE3)
  have H3 := hideit (H2.out.carry hE3)
  replace hE3 := hideit (Ext.trans hE2.out hE3)
  clear k H2 Q2 hE2 hk
  have c1 : w3.cell? ⟨c, 1, none⟩ = some (.int .i64 h.se) := H3.out.1 1 (by decide)
  have c2 : w3.cell? ⟨c, 2, none⟩ = some (.int .i64 h.sl) := H3.out.1 2 (by decide)
  have c3 : w3.cell? ⟨c, 3, none⟩ = some (.int .i64 h.jo) := H3.out.1 3 (by decide)
  have f1 : IntKind.i64.wrap (2 + h.sl) = 2 + h.sl := by have := bsl.out; rw [IntKind.wrap_i64]; omega
  have f2 : IntKind.i64.wrap (3 + h.sl) = 3 + h.sl := by have := bsl.out; rw [IntKind.wrap_i64]; omega
  have f3 : IntKind.i64.wrap (4 + h.sl) = 4 + h.sl := by have := bsl.out; rw [IntKind.wrap_i64]; omega
  have f4 : IntKind.i64.wrap (4 + h.sl + h.jo) = 4 + h.sl + h.jo := by have := bsl.out; have := bjo.out; rw [IntKind.wrap_i64]; omega
  go_upto_region 3 with (fail)
  refine wp_region_lit ?_
  refine wpList_run rfl (.pointer (some ⟨c, 2, none⟩)) (by simp [go_sem]) ?_
  simp only [Act.put, List.setIfInBounds_toArray, List.set_cons_zero, List.set_cons_succ]
  refine wpList_run rfl (.int .i64 h.sl) (by simp [go_sem, c2]) ?_
  simp only [Act.put, List.setIfInBounds_toArray, List.set_cons_zero, List.set_cons_succ]
  refine wpList_run rfl (.int .i64 (2 + h.sl)) (by simp [go_sem, f1]) ?_
  simp only [Act.put, List.setIfInBounds_toArray, List.set_cons_zero, List.set_cons_succ]
  refine wpList_run rfl (.pointer (some ⟨c, 2, none⟩)) (by simp [go_sem]) ?_
  simp only [Act.put, List.setIfInBounds_toArray, List.set_cons_zero, List.set_cons_succ]
  refine wpList_run rfl (.int .i64 h.sl) (by simp [go_sem, c2]) ?_
  simp only [Act.put, List.setIfInBounds_toArray, List.set_cons_zero, List.set_cons_succ]
  refine wpList_run rfl (.int .i64 (3 + h.sl)) (by simp [go_sem, f2]) ?_
  simp only [Act.put, List.setIfInBounds_toArray, List.set_cons_zero, List.set_cons_succ]
  refine wpList_run rfl (.pointer (some ⟨c, 2, none⟩)) (by simp [go_sem]) ?_
  simp only [Act.put, List.setIfInBounds_toArray, List.set_cons_zero, List.set_cons_succ]
  refine wpList_run rfl (.int .i64 h.sl) (by simp [go_sem, c2]) ?_
  simp only [Act.put, List.setIfInBounds_toArray, List.set_cons_zero, List.set_cons_succ]
  refine wpList_run rfl (.int .i64 (4 + h.sl)) (by simp [go_sem, f3]) ?_
  simp only [Act.put, List.setIfInBounds_toArray, List.set_cons_zero, List.set_cons_succ]
  refine wpList_run rfl (.pointer (some ⟨c, 2, none⟩)) (by simp [go_sem]) ?_
  simp only [Act.put, List.setIfInBounds_toArray, List.set_cons_zero, List.set_cons_succ]
  refine wpList_run rfl (.int .i64 h.sl) (by simp [go_sem, c2]) ?_
  simp only [Act.put, List.setIfInBounds_toArray, List.set_cons_zero, List.set_cons_succ]
  refine wpList_run rfl (.int .i64 (4 + h.sl)) (by simp [go_sem, f3]) ?_
  simp only [Act.put, List.setIfInBounds_toArray, List.set_cons_zero, List.set_cons_succ]
  refine wpList_run rfl (.pointer (some ⟨c, 3, none⟩)) (by simp [go_sem]) ?_
  simp only [Act.put, List.setIfInBounds_toArray, List.set_cons_zero, List.set_cons_succ]
  refine wpList_run rfl (.int .i64 h.jo) (by simp [go_sem, c3]) ?_
  simp only [Act.put, List.setIfInBounds_toArray, List.set_cons_zero, List.set_cons_succ]
  refine wpList_run rfl (.int .i64 (4 + h.sl + h.jo)) (by simp [go_sem, f4]) ?_
  simp only [Act.put, List.setIfInBounds_toArray, List.set_cons_zero, List.set_cons_succ]
  refine wpList_build rfl 34 [(0, .const (.int .i64 2)), (1, .tmp 13), (2, .tmp 16), (3, .tmp 19), (4, .tmp 25)] rfl (.agg (row 9 (lyv (fun j => if j = 0 then 2 else if j = 1 then 2 + h.sl else if j = 2 then 3 + h.sl else if j = 3 then 4 + h.sl else if j = 4 then 4 + h.sl + h.jo else 0) (.slice none 0 0))).toArray) (bl34 _ _ _ _ _) ?_
  simp only [Act.put, List.setIfInBounds_toArray, List.set_cons_zero, List.set_cons_succ]
  have hqs : Hid (q < w3.heap.size) := hideit Q3.out.2.2
  obtain ⟨M1, M2, M3⟩ := made34 w3 (fun j => if j = 0 then 2 else if j = 1 then 2 + h.sl else if j = 2 then 3 + h.sl else if j = 3 then 4 + h.sl else if j = 4 then 4 + h.sl + h.jo else 0) (.slice none 0 0)
  replace M1 := hideit M1
  have S4 := hideit M2
  have H4 := hideit (H3.out.carry M3)
  have Q4 := hideit (Q3.out.carry M3)
  have hE4 := hideit (Ext.trans hE3.out M3)
  refine wpList_to rfl (.pointer (some ⟨w3.heap.size, 0, none⟩)) (w3.alloc (.cells (row 9 (lyv (fun _ => 0) (.slice none 0 0))).toArray 34)) (exec_alloc 34 _ rfl (zeroL w3)) ?_
  simp only [Act.put, List.setIfInBounds_toArray, List.set_cons_zero, List.set_cons_succ]
  refine wpList_store_mid rfl 34 (.tmp 4) (.tmp 26) rfl w3.heap.size 0 (row 9 (lyv (fun j => if j = 0 then 2 else if j = 1 then 2 + h.sl else if j = 2 then 3 + h.sl else if j = 3 then 4 + h.sl else if j = 4 then 4 + h.sl + h.jo else 0) (.slice none 0 0))).toArray rfl rfl (by rw [row_size]; exact M1.out.there) (by rw [row_size]; exact infoL) (row_one fun j _ => lyv_one _ rfl j) ?_
  rw [show (row 9 (lyv (fun j => if j = 0 then 2 else if j = 1 then 2 + h.sl else if j = 2 then 3 + h.sl else if j = 3 then 4 + h.sl else if j = 4 then 4 + h.sl + h.jo else 0) (.slice none 0 0))).toArray.toList = row 9 (lyv (fun j => if j = 0 then 2 else if j = 1 then 2 + h.sl else if j = 2 then 3 + h.sl else if j = 3 then 4 + h.sl else if j = 4 then 4 + h.sl + h.jo else 0) (.slice none 0 0)) from rfl]
  clear M1 M2 M3 H3 Q3 hE3 c1 c2 c3 f1 f2 f3 f4
  generalize (w3.alloc (.cells (row 9 (lyv (fun _ => 0) (.slice none 0 0))).toArray 34)).setCells w3.heap.size 0 (row 9 (lyv (fun j => if j = 0 then 2 else if j = 1 then 2 + h.sl else if j = 2 then 3 + h.sl else if j = 3 then 4 + h.sl else if j = 4 then 4 + h.sl + h.jo else 0) (.slice none 0 0))) = w4 at *
  generalize w3.heap.size = s at *
  simp only [Act.put]
  have hwq : Hid (w.heap.size ≤ q) := hideit (by have := hwc.out; have := hcq.out; omega)
  have hws : Hid (w.heap.size ≤ s) := hideit (by have := hwq.out; have := hqs.out; omega)
  have hcs : Hid (c < s) := hideit (by have := hcq.out; have := hqs.out; omega)
  have c1 : w4.cell? ⟨c, 1, none⟩ = some (.int .i64 h.se) := H4.out.1 1 (by decide)
  have k := up_any h.se.toNat 8 w4 (by have := bse.out; omega) (by decide) (by decide)
  rw [← et.out, show ((h.se.toNat : Nat) : Int) = h.se by have := bse.out; omega] at k
  replace k := hideit k
  go_upto_region 5 with (go_at_call 31; refine k.out.mono ?_; rintro e w9 ⟨rfl, hw9⟩; rw [hw9]; clear hw9)
  clear k c1
  have e4 : w4.cell? ⟨s, 4, none⟩ = some (.int .i64 (4 + h.sl + h.jo)) := S4.out.1 4 (by decide)
  have e6 : w4.cell? ⟨s, 6, none⟩ = some (.int .i64 0) := S4.out.1 6 (by decide)
  have g6 : w4.frozen? ⟨s, 6, none⟩ = false := S4.out.2.1 6 (by decide)
  go_upto_region 6 with (fail)
  clear e4 e6 g6
  have S5 := hideit ((S4.out.set 6 (.int .i64 (4 + h.sl + h.jo))).congr (g' := lyv (rz h (4 + h.sl + h.jo)) (.slice none 0 0)) fun j hj => by
    rcases (by omega : j = 0 ∨ j = 1 ∨ j = 2 ∨ j = 3 ∨ j = 4 ∨ j = 5 ∨ j = 6 ∨ j = 7 ∨ j = 8) with rfl | rfl | rfl | rfl | rfl | rfl | rfl | rfl | rfl <;> rfl)
  have hBt := but_setCell w4 s 6 (.int .i64 (4 + h.sl + h.jo))
  have H5 := hideit (H4.out.but hBt (by have := hcs.out; omega))
  have Q5 := hideit (Q4.out.but hBt (by have := hqs.out; omega))
  have hE5 := hideit (hE4.out.but hBt hws.out)
  clear S4 H4 Q4 hE4 hBt
  generalize w4.setCell ⟨s, 6, none⟩ (.int .i64 (4 + h.sl + h.jo)) = w5 at *
  have k := up_any t 16 w5 (by have := bt.out; omega) (by decide) (by decide)
  rw [← em.out] at k
  replace k := hideit k
  go_wp2_with (go_at_call 31; refine k.out.mono ?_; rintro e w9 ⟨rfl, hw9⟩; rw [hw9]; clear hw9)
  clear k
  go_loopw [6] (fun nv X => ∃ (k n : Nat) (lv : Value), ((k = 0 ∧ n = m) ∨ (k = 1 ∧ n = 1 ∧ 1 < m)) ∧ nv = .int .i64 (n : Int) ∧ RowAt c 24 (hdv h) X ∧ RowAt q 9 (lyv (fun _ => 0) (.slice none 0 0)) X ∧ RowAt s 9 (lyv (rz h (4 + h.sl + h.jo + rsI m k)) lv) X ∧ OwnB (s + 1) 3 lv k (lvF m) X ∧ Ext w X) (fun nv _ => (intOf nv).toNat)
  case atStart => exact ⟨0, m, .slice none 0 0, .inl ⟨rfl, rfl⟩, rfl, H5.out, Q5.out, S5.out.congr fun j hj => (by rw [show rsI m 0 = 0 from rfl, Int.add_zero]), own_nil _ _ _ _, hE5.out⟩
  case round =>
    clear H5 Q5 S5 hE5
    obtain ⟨k, n, lv, hkn, rfl, hH, hQ, hS, hO, hE⟩ := hrel
    have H5 := hideit hH
    have Q5 := hideit hQ
    have S5 := hideit hS
    have O5 := hideit hO
    have hE5 := hideit hE
    clear hH hQ hS hO hE
    have hn1 : Hid (1 ≤ n ∧ n ≤ 8) := hideit (by have := bm.out; omega)
    have e5 : wr.cell? ⟨s, 5, none⟩ = some lv := S5.out.1 5 (by decide)
    have hX : Ext wr (wr.alloc (.cells #[.int .i64 (n : Int)] 3)) := (Below.refl _ _).alloc (Nat.le_refl _) _
    have hN : Hid (LieAt ⟨wr.heap.size, 0, none⟩ 1 (fun _ => .int .i64 (n : Int)) (wr.alloc (.cells #[.int .i64 (n : Int)] 3))) := hideit ((RowAt.newOf wr 1 (fun _ => .int .i64 (n : Int)) 3 #[.int .i64 (n : Int)] (fun j hj => by
      obtain rfl : j = 0 := by omega
      rfl)).lie 1 (Nat.le_refl _))
    have H6 := hideit (H5.out.carry hX)
    have Q6 := hideit (Q5.out.carry hX)
    have S6 := hideit (S5.out.carry hX)
    have O6 := hideit (O5.out.ext hX)
    have hE6 := hideit (Ext.trans hE5.out hX)
    have hsz : Hid (s + 1 ≤ wr.heap.size) := hideit S5.out.2.2
    go_upto_region 8 with (fail)
    refine wp_region_lit ?_
    refine wpList_run rfl (.pointer (some ⟨s, 5, none⟩)) (by simp [go_sem]) ?_
    simp only [Act.put, List.setIfInBounds_toArray, List.set_cons_zero, List.set_cons_succ]
    refine wpList_run rfl (lv) (by simp [go_sem, e5]) ?_
    simp only [Act.put, List.setIfInBounds_toArray, List.set_cons_zero, List.set_cons_succ]
    refine wpList_run rfl (.int .i64 (n : Int)) (by simp [go_sem]) ?_
    simp only [Act.put, List.setIfInBounds_toArray, List.set_cons_zero, List.set_cons_succ]
    refine wpList_to rfl (.slice (some ⟨wr.heap.size, 0, none⟩) 1 1) (wr.alloc (.cells #[.int .i64 (n : Int)] 3)) (by simp [go_sem]) ?_
    simp only [Act.put, List.setIfInBounds_toArray, List.set_cons_zero, List.set_cons_succ]
    refine wpList_growE (n := k) (base := s + 1) elem32 rfl (.tmp 38) (.tmp 40) rfl rfl O6.out ⟨wr.heap.size, 0, none⟩ 1 1 (fun _ => .int .i64 (n : Int)) (lvF m) rfl hN.out (fun _ _ => rfl) (fun _ _ => rfl) (fun j hj => by
      obtain rfl : j = 0 := by omega
      unfold lvF
      rcases hkn with ⟨rfl, rfl⟩ | ⟨rfl, rfl, _⟩
      · rw [if_pos rfl]
      · rw [if_neg (by decide)]
        rfl) (by omega) (by omega) (Nat.le_trans hsz.out (Below.size hX)) ?_
    intro v' Y hO' hg'
    have H7 := hideit (rowGrown H6.out O6.out (by have := hcs.out; omega) hg')
    have Q7 := hideit (rowGrown Q6.out O6.out (by have := hqs.out; omega) hg')
    have S7 := hideit (rowGrown S6.out O6.out (by omega) hg')
    have hE7 := hideit (grown3 hE6.out O6.out (by have := hws.out; omega) hg')
    obtain ⟨lb, cp, rfl, hlb, _, _, _⟩ := hO'.lies (by omega)
    replace hO' := hideit hO'
    replace hlb := hideit hlb
    clear H5 Q5 S5 O5 hE5 e5 hX hN H6 Q6 S6 O6 hE6 hsz hg'
    simp only [Act.put, List.setIfInBounds_toArray, List.set_cons_zero, List.set_cons_succ]
    have e5 : Y.cell? ⟨s, 5, none⟩ = some lv := S7.out.1 5 (by decide)
    have g5 : Y.frozen? ⟨s, 5, none⟩ = false := S7.out.2.1 5 (by decide)
    go_upto_region 9 with (fail)
    clear e5 g5
    have S8 := hideit ((S7.out.set 5 (.slice (some ⟨lb, 0, none⟩) (k + 1) cp)).congr (g' := lyv (rz h (4 + h.sl + h.jo + rsI m k)) (.slice (some ⟨lb, 0, none⟩) (k + 1) cp)) fun j hj => by
      rcases (by omega : j = 0 ∨ j = 1 ∨ j = 2 ∨ j = 3 ∨ j = 4 ∨ j = 5 ∨ j = 6 ∨ j = 7 ∨ j = 8) with rfl | rfl | rfl | rfl | rfl | rfl | rfl | rfl | rfl <;> rfl)
    have hBt := but_setCell Y s 5 (.slice (some ⟨lb, 0, none⟩) (k + 1) cp)
    have H8 := hideit (H7.out.but hBt (by have := hcs.out; omega))
    have Q8 := hideit (Q7.out.but hBt (by have := hqs.out; omega))
    have hE8 := hideit (hE7.out.but hBt hws.out)
    have O8 := hideit (hO'.out.but hBt (by show some lb ≠ some s; have := hlb.out; intro hh; injection hh; omega))
    clear S7 H7 Q7 hE7 hO' hBt
    generalize Y.setCell ⟨s, 5, none⟩ (.slice (some ⟨lb, 0, none⟩) (k + 1) cp) = w8 at *
    have e6 : w8.cell? ⟨s, 6, none⟩ = some (.int .i64 (4 + h.sl + h.jo + rsI m k)) := S8.out.1 6 (by decide)
    have g6 : w8.frozen? ⟨s, 6, none⟩ = false := S8.out.2.1 6 (by decide)
    have hrk : rsI m (k + 1) = rsI m k + (n : Int) ∧ 0 ≤ rsI m k ∧ rsI m k ≤ 9 := by
      have := bm.out
      unfold rsI
      rcases hkn with ⟨rfl, rfl⟩ | ⟨rfl, rfl, _⟩
      · rw [if_neg (by decide), if_pos rfl, if_pos rfl]
        omega
      · rw [if_neg (by decide), if_neg (by decide), if_neg (by decide), if_pos rfl]
        omega
    obtain ⟨T, hT⟩ : ∃ T, T = 4 + h.sl + h.jo + rsI m k := ⟨_, rfl⟩
    rw [← hT] at e6
    have ft : IntKind.i64.wrap (T + (n : Int)) = T + (n : Int) := by have := bsl.out; have := bjo.out; have := hn1.out; rw [IntKind.wrap_i64]; omega
    replace hT := hideit hT
    replace hrk := hideit hrk
    go_upto_region 10 with (fail)
    clear e6 g6 ft
    have S9 := hideit ((S8.out.set 6 (.int .i64 (T + (n : Int)))).congr (g' := lyv (rz h (4 + h.sl + h.jo + rsI m (k + 1))) (.slice (some ⟨lb, 0, none⟩) (k + 1) cp)) fun j hj => by
      by_cases h6 : j = 6
      · subst h6
        rw [if_pos rfl]
        show Value.int .i64 (T + (n : Int)) = Value.int .i64 (4 + h.sl + h.jo + rsI m (k + 1))
        rw [hT.out, hrk.out.1, Int.add_assoc (4 + h.sl + h.jo)]
      · rw [if_neg h6]
        rcases (by omega : j = 0 ∨ j = 1 ∨ j = 2 ∨ j = 3 ∨ j = 4 ∨ j = 5 ∨ j = 7 ∨ j = 8) with rfl | rfl | rfl | rfl | rfl | rfl | rfl | rfl <;> rfl)
    have hBt := but_setCell w8 s 6 (.int .i64 (T + (n : Int)))
    have H9 := hideit (H8.out.but hBt (by have := hcs.out; omega))
    have Q9 := hideit (Q8.out.but hBt (by have := hqs.out; omega))
    have hE9 := hideit (hE8.out.but hBt hws.out)
    have O9 := hideit (O8.out.but hBt (by show some lb ≠ some s; have := hlb.out; intro hh; injection hh; omega))
    clear S8 H8 Q8 hE8 O8 hBt hT hrk
    generalize w8.setCell ⟨s, 6, none⟩ (.int .i64 (T + (n : Int))) = w9 at *
    by_cases h1 : n = 1
    · have hkN : k + 1 = N := by
        rw [hN.out]
        rcases hkn with ⟨rfl, rfl⟩ | ⟨rfl, rfl, hm⟩
        · rw [if_pos h1]
        · rw [if_neg (by omega)]
      have hrS : rsI m (k + 1) = Sm := by
        rw [hSm.out]
        unfold rsI lsum
        rcases hkn with ⟨rfl, rfl⟩ | ⟨rfl, rfl, hm⟩
        · rw [if_neg (by decide), if_pos rfl, if_pos h1, h1]
          rfl
        · rw [if_neg (by decide), if_neg (by decide), if_neg (by omega)]
      rw [hrS] at S9
      have h1' : (n : Int) = 1 := by omega
      have hls : Hid (lb ≠ s) := hideit (by have := hlb.out; omega)
      have hlq : Hid (q ≠ lb) := hideit (by have := hlb.out; have := hqs.out; omega)
      obtain ⟨N', hN'⟩ : ∃ N', N' = k + 1 := ⟨_, rfl⟩
      rw [← hN'] at S9 O9
      obtain rfl : N' = N := by rw [hN', hkN]
      have R9 := hideit (show RowAt lb N' (lvF m) w9 from by
        obtain ⟨b2, c2, e2, _, _, _, h5⟩ := O9.out.lies (by omega)
        injection e2 with e2
        injection e2 with e2
        injection e2 with e2
        rw [e2]
        exact h5)
      clear O9 hN hSm hkn hkN hrS hN' hn1 hlb
      have c1 : w9.cell? ⟨c, 1, none⟩ = some (.int .i64 h.se) := H9.out.1 1 (by decide)
      have e6 : w9.cell? ⟨s, 6, none⟩ = some (.int .i64 (4 + h.sl + h.jo + Sm)) := S9.out.1 6 (by decide)
      have e7 : w9.cell? ⟨s, 7, none⟩ = some (.int .i64 0) := S9.out.1 7 (by decide)
      have g7 : w9.frozen? ⟨s, 7, none⟩ = false := S9.out.2.1 7 (by decide)
      have f7 : IntKind.i64.wrap (4 + h.sl + h.jo + Sm + (t : Int)) = 4 + h.sl + h.jo + Sm + (t : Int) := by have := bsl.out; have := bjo.out; have := bS.out; have := bt.out; rw [IntKind.wrap_i64]; omega
      go_upto_region 12 with (fail)
      clear e6 e7 g7 f7 c1
      have S10 := hideit (S9.out.set 7 (.int .i64 (4 + h.sl + h.jo + Sm + (t : Int))))
      have hBt := but_setCell w9 s 7 (.int .i64 (4 + h.sl + h.jo + Sm + (t : Int)))
      have H10 := hideit (H9.out.but hBt (by have := hcs.out; omega))
      have Q10 := hideit (Q9.out.but hBt (by have := hqs.out; omega))
      have hE10 := hideit (hE9.out.but hBt hws.out)
      have R10 := hideit (R9.out.but hBt (by have := hls.out; omega))
      clear S9 H9 Q9 hE9 R9 hBt
      generalize w9.setCell ⟨s, 7, none⟩ (.int .i64 (4 + h.sl + h.jo + Sm + (t : Int))) = w10 at *
      have c1 : w10.cell? ⟨c, 1, none⟩ = some (.int .i64 h.se) := H10.out.1 1 (by decide)
      have e7 : w10.cell? ⟨s, 7, none⟩ = some (.int .i64 (4 + h.sl + h.jo + Sm + (t : Int))) := S10.out.1 7 (by decide)
      have e8 : w10.cell? ⟨s, 8, none⟩ = some (.int .i64 0) := S10.out.1 8 (by decide)
      have g8 : w10.frozen? ⟨s, 8, none⟩ = false := S10.out.2.1 8 (by decide)
      have f8 : IntKind.i64.wrap (4 + h.sl + h.jo + Sm + (t : Int) + h.se) = 4 + h.sl + h.jo + Sm + (t : Int) + h.se := by have := bsl.out; have := bjo.out; have := bS.out; have := bt.out; have := bse.out; rw [IntKind.wrap_i64]; omega
      go_upto_region 13 with (fail)
      clear e7 e8 g8 f8 c1
      have S11 : Hid (RowAt s 9 (lyv (lzF h Sm t) (.slice (some ⟨lb, 0, none⟩) N' cp)) _) := hideit ((S10.out.set 8 (.int .i64 (4 + h.sl + h.jo + Sm + (t : Int) + h.se))).congr fun j hj => by
        rcases (by omega : j = 0 ∨ j = 1 ∨ j = 2 ∨ j = 3 ∨ j = 4 ∨ j = 5 ∨ j = 6 ∨ j = 7 ∨ j = 8) with rfl | rfl | rfl | rfl | rfl | rfl | rfl | rfl | rfl
        · rfl
        · rfl
        · show Value.int .i64 (3 + h.sl) = Value.int .i64 (2 + h.sl + 1); rw [show (3 : Int) + h.sl = 2 + h.sl + 1 by omega]
        · show Value.int .i64 (4 + h.sl) = Value.int .i64 (2 + h.sl + 1 + 1); rw [show (4 : Int) + h.sl = 2 + h.sl + 1 + 1 by omega]
        · show Value.int .i64 (4 + h.sl + h.jo) = Value.int .i64 (2 + h.sl + 1 + 1 + h.jo); rw [show (4 : Int) + h.sl = 2 + h.sl + 1 + 1 by omega]
        · rfl
        · show Value.int .i64 (4 + h.sl + h.jo + Sm) = Value.int .i64 (2 + h.sl + 1 + 1 + h.jo + Sm); rw [show (4 : Int) + h.sl = 2 + h.sl + 1 + 1 by omega]
        · show Value.int .i64 (4 + h.sl + h.jo + Sm + t) = Value.int .i64 (2 + h.sl + 1 + 1 + h.jo + Sm + t); rw [show (4 : Int) + h.sl = 2 + h.sl + 1 + 1 by omega]
        · show Value.int .i64 (4 + h.sl + h.jo + Sm + t + h.se) = Value.int .i64 (2 + h.sl + 1 + 1 + h.jo + Sm + t + h.se); rw [show (4 : Int) + h.sl = 2 + h.sl + 1 + 1 by omega])
      have hBt := but_setCell w10 s 8 (.int .i64 (4 + h.sl + h.jo + Sm + (t : Int) + h.se))
      have Q11 := hideit (Q10.out.but hBt (by have := hqs.out; omega))
      have hE11 := hideit (hE10.out.but hBt hws.out)
      have R11 := hideit (R10.out.but hBt (by have := hls.out; omega))
      clear S10 H10 Q10 hE10 R10 hBt
      generalize w10.setCell ⟨s, 8, none⟩ (.int .i64 (4 + h.sl + h.jo + Sm + (t : Int) + h.se)) = w11 at *
      refine wp_region_lit ?_
      refine wpList_run rfl (.agg (row 9 (lyv (lzF h Sm t) (.slice (some ⟨lb, 0, none⟩) N' cp))).toArray) (exec_loadR 34 (.tmp 4) rfl s 0 9 _ rfl S11.out.range Tryd.underlying34 rfl infoL) ?_
      simp only [Act.put, List.setIfInBounds_toArray, List.set_cons_zero, List.set_cons_succ]
      refine wpList_store_mid rfl 34 (.tmp 2) (.tmp 61) rfl q 0 (row 9 (lyv (lzF h Sm t) (.slice (some ⟨lb, 0, none⟩) N' cp))).toArray rfl rfl (by rw [row_size]; exact Q11.out.there) (by rw [row_size]; exact infoL) (row_one fun j _ => lyv_one _ rfl j) ?_
      rw [show (row 9 (lyv (lzF h Sm t) (.slice (some ⟨lb, 0, none⟩) N' cp))).toArray.toList = row 9 (lyv (lzF h Sm t) (.slice (some ⟨lb, 0, none⟩) N' cp)) from rfl]
      have h9 : Hid (RowAt q 9 (lyv (lzF h Sm t) (.slice (some ⟨lb, 0, none⟩) N' cp)) (w11.setCells q 0 (row 9 (lyv (lzF h Sm t) (.slice (some ⟨lb, 0, none⟩) N' cp))))) := hideit Q11.out.cells
      have R12 := hideit (R11.out.cellsOther hlq.out (row 9 (lyv (lzF h Sm t) (.slice (some ⟨lb, 0, none⟩) N' cp))) 0)
      have hE12 := hideit (below_setCells q hwq.out (row 9 (lyv (lzF h Sm t) (.slice (some ⟨lb, 0, none⟩) N' cp))) 0 _ hE11.out)
      generalize w11.setCells q 0 (row 9 (lyv (lzF h Sm t) (.slice (some ⟨lb, 0, none⟩) N' cp))) = w12 at *
      clear Q11 S11 R11 hE11
      simp only [Act.put]
      go_wp2
      exact bodyPost_ret (ret_row2 Tryd.results11 rfl h9.out Tryd.underlying34 rfl infoL) rfl ⟨lb, cp, rfl, R12.out, hE12.out⟩
    · obtain ⟨rfl, rfl⟩ : k = 0 ∧ n = m := by omega
      have h1' : ¬ (n : Int) = 1 := by omega
      have k := up_any n 16 w9 (by have := bm.out; omega) (by decide) (by decide)
      rw [show (n + 16 - 1) / 16 = 1 by have := bm.out; omega] at k
      replace k := hideit k
      go_wp2_with (go_at_call 31; refine k.out.mono ?_; rintro e w19 ⟨rfl, hw19⟩; rw [hw19]; clear hw19)
      exact ⟨⟨1, 1, _, .inr ⟨rfl, rfl, by have := bm.out; omega⟩, rfl, H9.out, Q9.out, S9.out, O9.out, hE9.out⟩, by simp [intOf]; have := bm.out; omega⟩
end Go.Proofs.YtenlokmoijeehaaDoor
namespace Go.Proofs.YtenlokmoijeehaaDoor
open Go.RowKit Go.BigFrame
set_option maxRecDepth 20000 in
set_option maxHeartbeats 2000000 in
theorem same_any (z : Nat → Int) (o1 o2 : Option Addr) (N c1 c2 : Nat) (f : Nat → Int) (w : World) (h1 : Hid (∀ j, j < N → ∃ a : Addr, o1 = some a ∧ a.block < w.heap.size ∧ w.cell? (a.add j) = some (.int .i64 (f j)))) (h2 : Hid (∀ j, j < N → ∃ a : Addr, o2 = some a ∧ a.block < w.heap.size ∧ w.cell? (a.add j) = some (.int .i64 (f j)))) (hN : N ≤ 8) :
    Calls Tryd.prog 13 #[.agg (row 9 (lyv z (.slice o1 N c1))).toArray, .agg (row 9 (lyv z (.slice o2 N c2))).toArray] w fun e w' => e = .returned (.bool true) ∧ Ext w w' := by
  go_enter Tryd.func13, Tryd.ntmps13
  go_upto_region 0 with (fail)
  refine wp_region_lit ?_
  refine wpList_to rfl (.pointer (some ⟨w.heap.size, 0, none⟩)) (w.alloc (.cells (row 9 (lyv z (.slice o1 N c1))).toArray 34)) (by simp [go_sem]) ?_
  simp only [Act.put, List.setIfInBounds_toArray, List.set_cons_zero, List.set_cons_succ]
  have P1 := hideit (RowAt.new w 9 (lyv z (.slice o1 N c1)) 34)
  have X1 : Ext w (w.alloc (.cells (row 9 (lyv z (.slice o1 N c1))).toArray 34)) := (Below.refl _ _).alloc (Nat.le_refl _) _
  have hE1 := hideit X1
  clear X1
  generalize w.alloc (.cells (row 9 (lyv z (.slice o1 N c1))).toArray 34) = w1 at *
  generalize w.heap.size = p at P1 ⊢
  refine wpList_to rfl (.pointer (some ⟨w1.heap.size, 0, none⟩)) (w1.alloc (.cells (row 9 (lyv z (.slice o2 N c2))).toArray 34)) (by simp [go_sem]) ?_
  simp only [Act.put, List.setIfInBounds_toArray, List.set_cons_zero, List.set_cons_succ]
  have Q2 := hideit (RowAt.new w1 9 (lyv z (.slice o2 N c2)) 34)
  have X1 : Ext w1 (w1.alloc (.cells (row 9 (lyv z (.slice o2 N c2))).toArray 34)) := (Below.refl _ _).alloc (Nat.le_refl _) _
  have P2 := hideit (P1.out.carry X1)
  have hE2 := hideit (Ext.trans hE1.out X1)
  clear X1 P1 hE1
  generalize w1.alloc (.cells (row 9 (lyv z (.slice o2 N c2))).toArray 34) = w2 at *
  generalize w1.heap.size = q at *
  have ep : w2.cell? ⟨p, 5, none⟩ = some (.slice o1 N c1) := P2.out.1 5 (by decide)
  have eq : w2.cell? ⟨q, 5, none⟩ = some (.slice o2 N c2) := Q2.out.1 5 (by decide)
  go_upto_region 3 with (fail)
  clear ep eq
  go_wp2
  go_loopw [5] (fun i X => ∃ k : Nat, k ≤ N ∧ i = .int .i64 k ∧ RowAt p 9 (lyv z (.slice o1 N c1)) X ∧ RowAt q 9 (lyv z (.slice o2 N c2)) X ∧ Ext w X) (fun i _ => N - (intOf i).toNat)
  case atStart => exact ⟨0, Nat.zero_le _, rfl, P2.out, Q2.out, hE2.out⟩
  case round =>
    clear P2 Q2 hE2
    obtain ⟨k, hk, rfl, hP, hQ, hE⟩ := hrel
    have P2 := hideit hP
    have Q2 := hideit hQ
    have hE2 := hideit hE
    clear hP hQ hE
    have ep : wr.cell? ⟨p, 5, none⟩ = some (.slice o1 N c1) := P2.out.1 5 (by decide)
    have eq : wr.cell? ⟨q, 5, none⟩ = some (.slice o2 N c2) := Q2.out.1 5 (by decide)
    by_cases hlt : k < N
    · have k0 : (0 : Int) ≤ (k : Int) := by omega
      have k1 : (k : Int) < (N : Int) := by omega
      have k2 : (k : Int) < 8 := by omega
      obtain ⟨a1, rfl, b1, d1⟩ := h1.out k hlt
      obtain ⟨a2, rfl, b2, d2⟩ := h2.out k hlt
      have g1 : wr.cell? (a1.add k) = some (.int .i64 (f k)) := (World.cell?_of_block (a := a1.add k) (by rw [add_block]; exact Below.block hE2.out a1.block b1)).trans d1
      have g2 : wr.cell? (a2.add k) = some (.int .i64 (f k)) := (World.cell?_of_block (a := a2.add k) (by rw [add_block]; exact Below.block hE2.out a2.block b2)).trans d2
      clear h1 h2 d1 d2 b1 b2
      go_upto_region 6 with (fail)
      go_quiet (fail)
      go_wp2
      exact ⟨⟨k + 1, by omega, by go_num, P2.out, Q2.out, Ext.trans hE2.out (below_drewN _ _)⟩, by simp [intOf]; omega⟩
    · obtain rfl : k = N := by omega
      have hnk : ¬ (k : Int) < (k : Int) := by omega
      clear hlt hk h1 h2
      have p0 : wr.cell? ⟨p, 0, none⟩ = some (.int .i64 (z 0)) := P2.out.1 0 (by decide)
      have q0 : wr.cell? ⟨q, 0, none⟩ = some (.int .i64 (z 0)) := Q2.out.1 0 (by decide)
      have p1 : wr.cell? ⟨p, 1, none⟩ = some (.int .i64 (z 1)) := P2.out.1 1 (by decide)
      have q1 : wr.cell? ⟨q, 1, none⟩ = some (.int .i64 (z 1)) := Q2.out.1 1 (by decide)
      have p2 : wr.cell? ⟨p, 2, none⟩ = some (.int .i64 (z 2)) := P2.out.1 2 (by decide)
      have q2 : wr.cell? ⟨q, 2, none⟩ = some (.int .i64 (z 2)) := Q2.out.1 2 (by decide)
      have p3 : wr.cell? ⟨p, 3, none⟩ = some (.int .i64 (z 3)) := P2.out.1 3 (by decide)
      have q3 : wr.cell? ⟨q, 3, none⟩ = some (.int .i64 (z 3)) := Q2.out.1 3 (by decide)
      have p4 : wr.cell? ⟨p, 4, none⟩ = some (.int .i64 (z 4)) := P2.out.1 4 (by decide)
      have q4 : wr.cell? ⟨q, 4, none⟩ = some (.int .i64 (z 4)) := Q2.out.1 4 (by decide)
      have p6 : wr.cell? ⟨p, 6, none⟩ = some (.int .i64 (z 6)) := P2.out.1 6 (by decide)
      have q6 : wr.cell? ⟨q, 6, none⟩ = some (.int .i64 (z 6)) := Q2.out.1 6 (by decide)
      have p7 : wr.cell? ⟨p, 7, none⟩ = some (.int .i64 (z 7)) := P2.out.1 7 (by decide)
      have q7 : wr.cell? ⟨q, 7, none⟩ = some (.int .i64 (z 7)) := Q2.out.1 7 (by decide)
      have p8 : wr.cell? ⟨p, 8, none⟩ = some (.int .i64 (z 8)) := P2.out.1 8 (by decide)
      have q8 : wr.cell? ⟨q, 8, none⟩ = some (.int .i64 (z 8)) := Q2.out.1 8 (by decide)
      clear P2 Q2
      go_upto_region 8 with (fail)
      refine wp_region_lit ?_
      refine wpList_run rfl (.pointer (some ⟨p, 0, none⟩)) (by simp [go_sem]) ?_
      simp only [Act.put, List.setIfInBounds_toArray, List.set_cons_zero, List.set_cons_succ]
      refine wpList_run rfl (.int .i64 (z 0)) (by simp [go_sem, p0]) ?_
      simp only [Act.put, List.setIfInBounds_toArray, List.set_cons_zero, List.set_cons_succ]
      refine wpList_run rfl (.pointer (some ⟨q, 0, none⟩)) (by simp [go_sem]) ?_
      simp only [Act.put, List.setIfInBounds_toArray, List.set_cons_zero, List.set_cons_succ]
      refine wpList_run rfl (.int .i64 (z 0)) (by simp [go_sem, q0]) ?_
      simp only [Act.put, List.setIfInBounds_toArray, List.set_cons_zero, List.set_cons_succ]
      refine wpList_run rfl (.bool true) (by simp [go_sem]) ?_
      simp only [Act.put, List.setIfInBounds_toArray, List.set_cons_zero, List.set_cons_succ]
      refine wpList_run rfl (.bool true) (by simp [go_sem]) ?_
      simp only [Act.put, List.setIfInBounds_toArray, List.set_cons_zero, List.set_cons_succ]
      refine wpList_runW rfl (.pointer (some ⟨p, 1, none⟩)) (by simp [go_sem]) ?_
      simp only [Act.put, List.setIfInBounds_toArray, List.set_cons_zero, List.set_cons_succ]
      refine wpList_runW rfl (.int .i64 (z 1)) (by simp [go_sem, p1]) ?_
      simp only [Act.put, List.setIfInBounds_toArray, List.set_cons_zero, List.set_cons_succ]
      refine wpList_runW rfl (.pointer (some ⟨q, 1, none⟩)) (by simp [go_sem]) ?_
      simp only [Act.put, List.setIfInBounds_toArray, List.set_cons_zero, List.set_cons_succ]
      refine wpList_runW rfl (.int .i64 (z 1)) (by simp [go_sem, q1]) ?_
      simp only [Act.put, List.setIfInBounds_toArray, List.set_cons_zero, List.set_cons_succ]
      refine wpList_runW rfl (.bool true) (by simp [go_sem]) ?_
      simp only [Act.put, List.setIfInBounds_toArray, List.set_cons_zero, List.set_cons_succ]
      refine wpList_run rfl (.bool true) (by simp [go_sem]) ?_
      simp only [Act.put, List.setIfInBounds_toArray, List.set_cons_zero, List.set_cons_succ]
      refine wpList_run rfl (.bool true) (by simp [go_sem]) ?_
      simp only [Act.put, List.setIfInBounds_toArray, List.set_cons_zero, List.set_cons_succ]
      refine wpList_runW rfl (.pointer (some ⟨p, 2, none⟩)) (by simp [go_sem]) ?_
      simp only [Act.put, List.setIfInBounds_toArray, List.set_cons_zero, List.set_cons_succ]
      refine wpList_runW rfl (.int .i64 (z 2)) (by simp [go_sem, p2]) ?_
      simp only [Act.put, List.setIfInBounds_toArray, List.set_cons_zero, List.set_cons_succ]
      refine wpList_runW rfl (.pointer (some ⟨q, 2, none⟩)) (by simp [go_sem]) ?_
      simp only [Act.put, List.setIfInBounds_toArray, List.set_cons_zero, List.set_cons_succ]
      refine wpList_runW rfl (.int .i64 (z 2)) (by simp [go_sem, q2]) ?_
      simp only [Act.put, List.setIfInBounds_toArray, List.set_cons_zero, List.set_cons_succ]
      refine wpList_runW rfl (.bool true) (by simp [go_sem]) ?_
      simp only [Act.put, List.setIfInBounds_toArray, List.set_cons_zero, List.set_cons_succ]
      refine wpList_run rfl (.bool true) (by simp [go_sem]) ?_
      simp only [Act.put, List.setIfInBounds_toArray, List.set_cons_zero, List.set_cons_succ]
      refine wpList_run rfl (.bool true) (by simp [go_sem]) ?_
      simp only [Act.put, List.setIfInBounds_toArray, List.set_cons_zero, List.set_cons_succ]
      refine wpList_runW rfl (.pointer (some ⟨p, 3, none⟩)) (by simp [go_sem]) ?_
      simp only [Act.put, List.setIfInBounds_toArray, List.set_cons_zero, List.set_cons_succ]
      refine wpList_runW rfl (.int .i64 (z 3)) (by simp [go_sem, p3]) ?_
      simp only [Act.put, List.setIfInBounds_toArray, List.set_cons_zero, List.set_cons_succ]
      refine wpList_runW rfl (.pointer (some ⟨q, 3, none⟩)) (by simp [go_sem]) ?_
      simp only [Act.put, List.setIfInBounds_toArray, List.set_cons_zero, List.set_cons_succ]
      refine wpList_runW rfl (.int .i64 (z 3)) (by simp [go_sem, q3]) ?_
      simp only [Act.put, List.setIfInBounds_toArray, List.set_cons_zero, List.set_cons_succ]
      refine wpList_runW rfl (.bool true) (by simp [go_sem]) ?_
      simp only [Act.put, List.setIfInBounds_toArray, List.set_cons_zero, List.set_cons_succ]
      refine wpList_run rfl (.bool true) (by simp [go_sem]) ?_
      simp only [Act.put, List.setIfInBounds_toArray, List.set_cons_zero, List.set_cons_succ]
      refine wpList_run rfl (.bool true) (by simp [go_sem]) ?_
      simp only [Act.put, List.setIfInBounds_toArray, List.set_cons_zero, List.set_cons_succ]
      refine wpList_runW rfl (.pointer (some ⟨p, 4, none⟩)) (by simp [go_sem]) ?_
      simp only [Act.put, List.setIfInBounds_toArray, List.set_cons_zero, List.set_cons_succ]
      refine wpList_runW rfl (.int .i64 (z 4)) (by simp [go_sem, p4]) ?_
      simp only [Act.put, List.setIfInBounds_toArray, List.set_cons_zero, List.set_cons_succ]
      refine wpList_runW rfl (.pointer (some ⟨q, 4, none⟩)) (by simp [go_sem]) ?_
      simp only [Act.put, List.setIfInBounds_toArray, List.set_cons_zero, List.set_cons_succ]
      refine wpList_runW rfl (.int .i64 (z 4)) (by simp [go_sem, q4]) ?_
      simp only [Act.put, List.setIfInBounds_toArray, List.set_cons_zero, List.set_cons_succ]
      refine wpList_runW rfl (.bool true) (by simp [go_sem]) ?_
      simp only [Act.put, List.setIfInBounds_toArray, List.set_cons_zero, List.set_cons_succ]
      refine wpList_run rfl (.bool true) (by simp [go_sem]) ?_
      simp only [Act.put, List.setIfInBounds_toArray, List.set_cons_zero, List.set_cons_succ]
      refine wpList_run rfl (.bool true) (by simp [go_sem]) ?_
      simp only [Act.put, List.setIfInBounds_toArray, List.set_cons_zero, List.set_cons_succ]
      refine wpList_runW rfl (.pointer (some ⟨p, 6, none⟩)) (by simp [go_sem]) ?_
      simp only [Act.put, List.setIfInBounds_toArray, List.set_cons_zero, List.set_cons_succ]
      refine wpList_runW rfl (.int .i64 (z 6)) (by simp [go_sem, p6]) ?_
      simp only [Act.put, List.setIfInBounds_toArray, List.set_cons_zero, List.set_cons_succ]
      refine wpList_runW rfl (.pointer (some ⟨q, 6, none⟩)) (by simp [go_sem]) ?_
      simp only [Act.put, List.setIfInBounds_toArray, List.set_cons_zero, List.set_cons_succ]
      refine wpList_runW rfl (.int .i64 (z 6)) (by simp [go_sem, q6]) ?_
      simp only [Act.put, List.setIfInBounds_toArray, List.set_cons_zero, List.set_cons_succ]
      refine wpList_runW rfl (.bool true) (by simp [go_sem]) ?_
      simp only [Act.put, List.setIfInBounds_toArray, List.set_cons_zero, List.set_cons_succ]
      refine wpList_run rfl (.bool true) (by simp [go_sem]) ?_
      simp only [Act.put, List.setIfInBounds_toArray, List.set_cons_zero, List.set_cons_succ]
      refine wpList_run rfl (.bool true) (by simp [go_sem]) ?_
      simp only [Act.put, List.setIfInBounds_toArray, List.set_cons_zero, List.set_cons_succ]
      refine wpList_runW rfl (.pointer (some ⟨p, 7, none⟩)) (by simp [go_sem]) ?_
      simp only [Act.put, List.setIfInBounds_toArray, List.set_cons_zero, List.set_cons_succ]
      refine wpList_runW rfl (.int .i64 (z 7)) (by simp [go_sem, p7]) ?_
      simp only [Act.put, List.setIfInBounds_toArray, List.set_cons_zero, List.set_cons_succ]
      refine wpList_runW rfl (.pointer (some ⟨q, 7, none⟩)) (by simp [go_sem]) ?_
      simp only [Act.put, List.setIfInBounds_toArray, List.set_cons_zero, List.set_cons_succ]
      refine wpList_runW rfl (.int .i64 (z 7)) (by simp [go_sem, q7]) ?_
      simp only [Act.put, List.setIfInBounds_toArray, List.set_cons_zero, List.set_cons_succ]
      refine wpList_runW rfl (.bool true) (by simp [go_sem]) ?_
      simp only [Act.put, List.setIfInBounds_toArray, List.set_cons_zero, List.set_cons_succ]
      refine wpList_run rfl (.bool true) (by simp [go_sem]) ?_
      simp only [Act.put, List.setIfInBounds_toArray, List.set_cons_zero, List.set_cons_succ]
      refine wpList_run rfl (.bool true) (by simp [go_sem]) ?_
      simp only [Act.put, List.setIfInBounds_toArray, List.set_cons_zero, List.set_cons_succ]
      refine wpList_runW rfl (.pointer (some ⟨p, 8, none⟩)) (by simp [go_sem]) ?_
      simp only [Act.put, List.setIfInBounds_toArray, List.set_cons_zero, List.set_cons_succ]
      refine wpList_runW rfl (.int .i64 (z 8)) (by simp [go_sem, p8]) ?_
      simp only [Act.put, List.setIfInBounds_toArray, List.set_cons_zero, List.set_cons_succ]
      refine wpList_runW rfl (.pointer (some ⟨q, 8, none⟩)) (by simp [go_sem]) ?_
      simp only [Act.put, List.setIfInBounds_toArray, List.set_cons_zero, List.set_cons_succ]
      refine wpList_runW rfl (.int .i64 (z 8)) (by simp [go_sem, q8]) ?_
      simp only [Act.put, List.setIfInBounds_toArray, List.set_cons_zero, List.set_cons_succ]
      refine wpList_runW rfl (.bool true) (by simp [go_sem]) ?_
      simp only [Act.put, List.setIfInBounds_toArray, List.set_cons_zero, List.set_cons_succ]
      refine wpList_run rfl (.bool true) (by simp [go_sem]) ?_
      simp only [Act.put, List.setIfInBounds_toArray, List.set_cons_zero, List.set_cons_succ]
      go_wp2
      go_ret
      exact ⟨rfl, hE2.out⟩
end Go.Proofs.YtenlokmoijeehaaDoor
