/-
  lives.
-/
import Derived.Test.YtchieinmpcdhfaaPl9
namespace Go.Proofs.Ytchieinmpcdhfaa
open Go.RowKit Go.BigFrame
set_option linter.unusedVariables false
def hd0 : Hd := ⟨0#64, 0, 0, 0, 0, 0, 0, 0, fun _ => 0#8⟩
def hdX (x : Int) (s : Int) : Hd := ⟨1#64, x, 1, 40, s, 1, 8, 1, fun _ => 0#8⟩
theorem zH : (#[.int .u64 0, .int .i64 0, .int .i64 0, .int .i64 0, .int .i64 0, .int .i64 0, .int .i64 0, .int .i64 0, .int .u8 0, .int .u8 0, .int .u8 0, .int .u8 0, .int .u8 0, .int .u8 0, .int .u8 0, .int .u8 0, .int .u8 0, .int .u8 0, .int .u8 0, .int .u8 0, .int .u8 0, .int .u8 0, .int .u8 0, .int .u8 0] : Array Value) = (row 24 (hdv hd0)).toArray := by kernel_rfl
theorem hdv_one (h : Hd) (j : Nat) : (hdv h j).oneCell' = true := by
  unfold hdv
  repeat (split; rfl)
  rfl
theorem zero27 (w : World) : (zeroValue 27).run Try.prog w = .ok (.agg (row 24 (hdv hd0)).toArray) w := by
  have := zH
  rw [← this]
  simp [go_sem]
theorem zero30 (w : World) : (zeroValue 30).run Try.prog w = .ok (.agg (row 35 (rtv rt0)).toArray) w := by
  have := zR
  rw [← this]
  simp [go_sem]
theorem hd_sg (h : Hd) (x : Int) (j : Nat) : (if j = 4 then Value.int .i64 x else hdv h j) = hdv { h with sg := x } j := by
  unfold hdv
  by_cases h4 : j = 4
  · subst h4; rfl
  · simp [h4]
theorem buildH (x : Int) (w : World) : (Instr.build 27 #[(0, .int .u64 1), (1, .int .i64 x), (2, .int .i64 1), (3, .int .i64 40), (4, .int .i64 2), (5, .agg #[.int .i64 1, .int .i64 8, .int .i64 1])]).run Try.prog w = .ok (.agg (row 24 (hdv (hdX x 2))).toArray) w := by
  have e : (row 24 (hdv (hdX x 2))).toArray = #[.int .u64 1, .int .i64 x, .int .i64 1, .int .i64 40, .int .i64 2, .int .i64 1, .int .i64 8, .int .i64 1, .int .u8 0, .int .u8 0, .int .u8 0, .int .u8 0, .int .u8 0, .int .u8 0, .int .u8 0, .int .u8 0, .int .u8 0, .int .u8 0, .int .u8 0, .int .u8 0, .int .u8 0, .int .u8 0, .int .u8 0, .int .u8 0] := by kernel_rfl
  rw [e]
  simp [go_sem]
theorem buildR (w : World) (b : Bool) (x : Int) : (Instr.build 30 #[(1, .bool b), (2, .int .i64 x)]).run Try.prog w = .ok (.agg (row 35 (rtv ⟨0#64, b, x, fun _ => 0#8⟩)).toArray) w := by
  have e : (row 35 (rtv ⟨0#64, b, x, fun _ => 0#8⟩)).toArray = #[.int .u64 0, .bool b, .int .i64 x, .int .u8 0, .int .u8 0, .int .u8 0, .int .u8 0, .int .u8 0, .int .u8 0, .int .u8 0, .int .u8 0, .int .u8 0, .int .u8 0, .int .u8 0, .int .u8 0, .int .u8 0, .int .u8 0, .int .u8 0, .int .u8 0, .int .u8 0, .int .u8 0, .int .u8 0, .int .u8 0, .int .u8 0, .int .u8 0, .int .u8 0, .int .u8 0, .int .u8 0, .int .u8 0, .int .u8 0, .int .u8 0, .int .u8 0, .int .u8 0, .int .u8 0, .int .u8 0] := by kernel_rfl
  rw [e]
  simp [go_sem]
theorem buildR1 (w : World) (b : Bool) : (Instr.build 30 #[(1, .bool b)]).run Try.prog w = .ok (.agg (row 35 (rtv ⟨0#64, b, 0, fun _ => 0#8⟩)).toArray) w := by
  have e : (row 35 (rtv ⟨0#64, b, 0, fun _ => 0#8⟩)).toArray = #[.int .u64 0, .bool b, .int .i64 0, .int .u8 0, .int .u8 0, .int .u8 0, .int .u8 0, .int .u8 0, .int .u8 0, .int .u8 0, .int .u8 0, .int .u8 0, .int .u8 0, .int .u8 0, .int .u8 0, .int .u8 0, .int .u8 0, .int .u8 0, .int .u8 0, .int .u8 0, .int .u8 0, .int .u8 0, .int .u8 0, .int .u8 0, .int .u8 0, .int .u8 0, .int .u8 0, .int .u8 0, .int .u8 0, .int .u8 0, .int .u8 0, .int .u8 0, .int .u8 0, .int .u8 0, .int .u8 0] := by kernel_rfl
  rw [e]
  simp [go_sem]
set_option maxRecDepth 20000 in
set_option maxHeartbeats 4000000 in
theorem head_any (x : Int) (w : World) : Calls Try.prog 22 #[.int .i64 x] w fun e w' => e = .returned (.agg (row 24 (hdv (hdX x 2))).toArray) ∧ Ext w w' := by
  obtain ⟨c, w1, hw, hc, H0, hE⟩ := boxes1 w 24 (hdv hd0) 27
  have hcc : Hid (w.heap.size ≤ c) := by have e := hc.out; show _ ≤ c; omega
  rw [← zH] at hw
  go_enter Try.func22, Try.ntmps22
  go_upto_region 1 with (fail)
  rw [← hw.out, ← hc.out]
  clear hw hc
  refine wp_region_lit ?_
  refine wpList_run rfl (.int .i64 (x)) (by simp [go_sem]) ?_
  simp only [Act.put, List.setIfInBounds_toArray, List.set_cons_zero, List.set_cons_succ]
  refine wpList_run rfl (.agg #[.int .i64 1, .int .i64 8, .int .i64 1]) (by simp [go_sem]) ?_
  simp only [Act.put, List.setIfInBounds_toArray, List.set_cons_zero, List.set_cons_succ]
  refine wpList_run rfl (.agg (row 24 (hdv (hdX x 2))).toArray) (xbuild 27 [(0, .const (.int .u64 1)), (1, .tmp 3), (2, .const (.int .i64 1)), (3, .const (.int .i64 40)), (4, .const (.int .i64 2)), (5, .tmp 4)] rfl _ (buildH x w1)) ?_
  simp only [Act.put, List.setIfInBounds_toArray, List.set_cons_zero, List.set_cons_succ]
  have N0 := hideit (H0.out.cells (g' := hdv (hdX x 2)))
  have NE := hideit (below_setCells c (hcc.out) (row 24 (hdv (hdX x 2))) 0 _ hE.out)
  refine xst rfl (w1.setCells c 0 (row 24 (hdv (hdX x 2)))) (xstore 27 (.tmp 2) (.tmp 5) rfl c 24 _ (hdv (hdX x 2)) rfl rfl H0.out infoH (fun j _ => hdv_one _ j)) ?_
  simp only [Act.put]
  generalize w1.setCells c 0 (row 24 (hdv (hdX x 2))) = x1 at N0 NE ⊢
  replace H0 := N0
  replace hE := NE
  clear N0 NE 
  go_wp2
  refine bodyPost_ret (ret_row rfl rfl H0.out Try.underlying27 rfl infoH) rfl ?_
  exact ⟨rfl, hE.out⟩
set_option maxRecDepth 20000 in
set_option maxHeartbeats 4000000 in
theorem lives_any (w : World) : Calls Try.prog 15 #[] w fun e w' => e = .returned (.bool true) ∧ Ext w w' := by
  have hh : Hid (okH (hdX 10 4)) := ⟨⟨by decide, ⟨by decide, by decide⟩, ⟨by decide, by decide⟩, ⟨by decide, by decide⟩, ⟨by decide, by decide⟩, by decide⟩, ⟨by decide, by decide⟩, ⟨by decide, by decide⟩, ⟨by decide, by decide⟩⟩
  have hk : Hid (okR (hdX 10 4) ⟨0#64, true, 8, fun _ => 0#8⟩) := ⟨hh.out, by decide, by decide, .inl rfl⟩
  have hk0 : Hid (okR (hdX 10 4) ⟨0#64, false, 0, fun _ => 0#8⟩) := ⟨hh.out, by decide, by decide, .inr rfl⟩
  have hE := hideit (Ext.refl w)
  go_enter Try.func15, Try.ntmps15
  go_upto_region 1 with (fail)
  refine wp_region_lit ?_
  refine wpList_call rfl (by simp [go_sem]) ((head_any 10 w).mono ?_)
  rintro e y1 ⟨rfl, hX2⟩
  refine ⟨_, rfl, ?_⟩
  simp only [Act.put, List.setIfInBounds_toArray, List.set_cons_zero, List.set_cons_succ]
  replace hE := hideit (Ext.trans hE.out hX2)
  clear hX2
  have A0 := hideit (RowAt.new y1 24 (hdv hd0) 27)
  have AE := hideit (Below.alloc hE.out (Below.size hE.out) (.cells (row 24 (hdv hd0)).toArray 27))
  have AB := hideit (Below.size hE.out)
  refine wpList_to rfl (.pointer (some ⟨y1.heap.size, 0, none⟩)) (y1.alloc (.cells (row 24 (hdv hd0)).toArray 27)) (xalloc 27 (row 24 (hdv hd0)).toArray rfl (zero27 y1)) ?_
  simp only [Act.put, List.setIfInBounds_toArray, List.set_cons_zero, List.set_cons_succ]
  generalize y1.alloc (.cells (row 24 (hdv hd0)).toArray 27) = x4 at A0 AE ⊢
  obtain ⟨z3, ez3⟩ : ∃ b, b = y1.heap.size := ⟨_, rfl⟩
  rw [← ez3] at A0  AB ⊢
  clear ez3
  have Hz3 := A0
  clear A0
  replace hE := AE
  clear AE
  have ABz3 := AB
  clear AB
  have N0 := hideit (Hz3.out.cells (g' := hdv (hdX 10 2)))
  have NE := hideit (below_setCells z3 (ABz3.out) (row 24 (hdv (hdX 10 2))) 0 _ hE.out)
  refine xst rfl (x4.setCells z3 0 (row 24 (hdv (hdX 10 2)))) (xstore 27 (.tmp 1) (.tmp 16) rfl z3 24 _ (hdv (hdX 10 2)) rfl rfl Hz3.out infoH (fun j _ => hdv_one _ j)) ?_
  simp only [Act.put]
  generalize x4.setCells z3 0 (row 24 (hdv (hdX 10 2))) = x5 at N0 NE ⊢
  replace Hz3 := N0
  replace hE := NE
  clear N0 NE 
  go_upto_region 2 with (fail)
  refine wp_region_lit ?_
  refine wpList_run rfl (.pointer (some ⟨z3, 4, none⟩)) (by simp [go_sem]) ?_
  simp only [Act.put, List.setIfInBounds_toArray, List.set_cons_zero, List.set_cons_succ]
  have M0 : x5.cell? ⟨z3, 4, none⟩ = some (.int .i64 ((hdX 10 2).sg)) := Hz3.out.1 4 (by decide)
  have M1 : x5.frozen? ⟨z3, 4, none⟩ = false := Hz3.out.2.1 4 (by decide)
  have N0 := hideit (Hz3.out.set 4 (.int .i64 4))
  have NE := hideit (hE.out.setCell (p := ⟨z3, 4, none⟩) (ABz3.out) (.int .i64 4))
  refine xst rfl (x5.setCell ⟨z3, 4, none⟩ (.int .i64 4)) (by simp [go_sem, M0, M1]) ?_
  simp only [Act.put]
  generalize x5.setCell ⟨z3, 4, none⟩ (.int .i64 4) = x6 at N0 NE ⊢
  clear M0 M1
  replace N0 := hideit (N0.out.congr (g' := hdv (hdX 10 4)) (fun j hj => hd_sg (hdX 10 2) 4 j))
  replace Hz3 := N0
  replace hE := NE
  clear N0 NE 
  go_upto_region 3 with (fail)
  refine wp_region_lit ?_
  refine wpList_run rfl (.agg (row 35 (rtv ⟨0#64, true, 8, fun _ => 0#8⟩)).toArray) (xbuild 30 [(1, .const (.bool true)), (2, .const (.int .i64 8))] rfl _ (buildR x6 true 8)) ?_
  simp only [Act.put, List.setIfInBounds_toArray, List.set_cons_zero, List.set_cons_succ]
  have A0 := hideit (RowAt.new x6 35 (rtv rt0) 30)
  have A1 := hideit (Hz3.out.alloc (.cells (row 35 (rtv rt0)).toArray 30))
  have AE := hideit (Below.alloc hE.out (Below.size hE.out) (.cells (row 35 (rtv rt0)).toArray 30))
  have AB := hideit (Below.size hE.out)
  have D0 : Hid (z3 ≠ x6.heap.size) := Nat.ne_of_lt Hz3.out.2.2
  refine wpList_to rfl (.pointer (some ⟨x6.heap.size, 0, none⟩)) (x6.alloc (.cells (row 35 (rtv rt0)).toArray 30)) (xalloc 30 (row 35 (rtv rt0)).toArray rfl (zero30 x6)) ?_
  simp only [Act.put, List.setIfInBounds_toArray, List.set_cons_zero, List.set_cons_succ]
  generalize x6.alloc (.cells (row 35 (rtv rt0)).toArray 30) = x8 at A0 A1 AE ⊢
  obtain ⟨z7, ez7⟩ : ∃ b, b = x6.heap.size := ⟨_, rfl⟩
  rw [← ez7] at A0 D0 AB ⊢
  clear ez7
  have Hz7 := A0
  clear A0
  replace Hz3 := A1
  clear A1
  replace hE := AE
  clear AE
  have ABz7 := AB
  clear AB
  have Dz7_0 := D0
  clear D0
  have N0 := hideit (Hz7.out.cells (g' := rtv ⟨0#64, true, 8, fun _ => 0#8⟩))
  have N1 := hideit (Hz3.out.cellsOther (Ne.symm (Dz7_0.out)) (row 35 (rtv ⟨0#64, true, 8, fun _ => 0#8⟩)) 0)
  have NE := hideit (below_setCells z7 (ABz7.out) (row 35 (rtv ⟨0#64, true, 8, fun _ => 0#8⟩)) 0 _ hE.out)
  refine xst rfl (x8.setCells z7 0 (row 35 (rtv ⟨0#64, true, 8, fun _ => 0#8⟩))) (xstore 30 (.tmp 2) (.tmp 18) rfl z7 35 _ (rtv ⟨0#64, true, 8, fun _ => 0#8⟩) rfl rfl Hz7.out infoR (fun j _ => rtv_one _ j)) ?_
  simp only [Act.put]
  generalize x8.setCells z7 0 (row 35 (rtv ⟨0#64, true, 8, fun _ => 0#8⟩)) = x9 at N0 N1 NE ⊢
  replace Hz7 := N0
  replace Hz3 := N1
  replace hE := NE
  clear N0 N1 NE 
  have e10 := hideit (show nxT (hdX 10 4) 8 = 10 by decide)
  have e1 := hideit (show stF (hdX 10 4) 8 = 1 by decide)
  have e5 := hideit (show bdF (hdX 10 4) 2 = 5 by decide)
  go_upto_region 4 with (fail)
  refine wp_region_lit ?_
  refine wpList_run rfl (.agg (row 24 (hdv (hdX 10 4))).toArray) (xload 27 (.tmp 1) rfl z3 0 24 _ rfl Hz3.out.range Try.underlying27 rfl infoH) ?_
  simp only [Act.put, List.setIfInBounds_toArray, List.set_cons_zero, List.set_cons_succ]
  refine wpList_run rfl (.agg (row 35 (rtv ⟨0#64, true, 8, fun _ => 0#8⟩)).toArray) (xload 30 (.tmp 2) rfl z7 0 35 _ rfl Hz7.out.range Try.underlying30 rfl infoR) ?_
  simp only [Act.put, List.setIfInBounds_toArray, List.set_cons_zero, List.set_cons_succ]
  have kk12 := next_go (hdX 10 4) (0#64) 8 (fun _ => 0#8) x9 hk.out
  rw [e10.out] at kk12
  refine wpList_call rfl (by simp [go_sem]) ((kk12).mono ?_)
  rintro e y10 ⟨rfl, hX11⟩
  refine ⟨_, rfl, ?_⟩
  simp only [Act.put, List.setIfInBounds_toArray, List.set_cons_zero, List.set_cons_succ]
  replace Hz3 := hideit (Hz3.out.carry hX11)
  replace Hz7 := hideit (Hz7.out.carry hX11)
  replace hE := hideit (Ext.trans hE.out hX11)
  clear hX11 kk12
  refine wpList_run rfl (.tuple #[.int .i64 8, .int .i64 10, .int .i64 0]) (by simp [go_sem]) ?_
  simp only [Act.put, List.setIfInBounds_toArray, List.set_cons_zero, List.set_cons_succ]
  refine wpList_run rfl (.int .i64 8) (by simp [go_sem]) ?_
  simp only [Act.put, List.setIfInBounds_toArray, List.set_cons_zero, List.set_cons_succ]
  refine wpList_run rfl (.int .i64 10) (by simp [go_sem]) ?_
  simp only [Act.put, List.setIfInBounds_toArray, List.set_cons_zero, List.set_cons_succ]
  refine wpList_run rfl (.int .i64 0) (by simp [go_sem]) ?_
  simp only [Act.put, List.setIfInBounds_toArray, List.set_cons_zero, List.set_cons_succ]
  refine wpList_run rfl (.int .i64 8) (by simp [go_sem]) ?_
  simp only [Act.put, List.setIfInBounds_toArray, List.set_cons_zero, List.set_cons_succ]
  refine wpList_run rfl (.int .i64 10) (by simp [go_sem]) ?_
  simp only [Act.put, List.setIfInBounds_toArray, List.set_cons_zero, List.set_cons_succ]
  refine wpList_run rfl (.int .i64 0) (by simp [go_sem]) ?_
  simp only [Act.put, List.setIfInBounds_toArray, List.set_cons_zero, List.set_cons_succ]
  go_upto_region 5 with (fail)
  refine wp_region_lit ?_
  refine wpList_run rfl (.agg (row 24 (hdv (hdX 10 4))).toArray) (xload 27 (.tmp 1) rfl z3 0 24 _ rfl Hz3.out.range Try.underlying27 rfl infoH) ?_
  simp only [Act.put, List.setIfInBounds_toArray, List.set_cons_zero, List.set_cons_succ]
  refine wpList_run rfl (.agg (row 35 (rtv ⟨0#64, true, 8, fun _ => 0#8⟩)).toArray) (xload 30 (.tmp 2) rfl z7 0 35 _ rfl Hz7.out.range Try.underlying30 rfl infoR) ?_
  simp only [Act.put, List.setIfInBounds_toArray, List.set_cons_zero, List.set_cons_succ]
  have kk15 := steps_go (hdX 10 4) (0#64) 8 (fun _ => 0#8) y10 hk.out
  rw [e1.out] at kk15
  refine wpList_call rfl (by simp [go_sem]) ((kk15).mono ?_)
  rintro e y13 ⟨rfl, hX14⟩
  refine ⟨_, rfl, ?_⟩
  simp only [Act.put, List.setIfInBounds_toArray, List.set_cons_zero, List.set_cons_succ]
  replace Hz3 := hideit (Hz3.out.carry hX14)
  replace Hz7 := hideit (Hz7.out.carry hX14)
  replace hE := hideit (Ext.trans hE.out hX14)
  clear hX14 kk15
  refine wpList_run rfl (.tuple #[.int .i64 1, .int .i64 0]) (by simp [go_sem]) ?_
  simp only [Act.put, List.setIfInBounds_toArray, List.set_cons_zero, List.set_cons_succ]
  refine wpList_run rfl (.int .i64 1) (by simp [go_sem]) ?_
  simp only [Act.put, List.setIfInBounds_toArray, List.set_cons_zero, List.set_cons_succ]
  refine wpList_run rfl (.int .i64 0) (by simp [go_sem]) ?_
  simp only [Act.put, List.setIfInBounds_toArray, List.set_cons_zero, List.set_cons_succ]
  refine wpList_run rfl (.int .i64 1) (by simp [go_sem]) ?_
  simp only [Act.put, List.setIfInBounds_toArray, List.set_cons_zero, List.set_cons_succ]
  refine wpList_run rfl (.int .i64 0) (by simp [go_sem]) ?_
  simp only [Act.put, List.setIfInBounds_toArray, List.set_cons_zero, List.set_cons_succ]
  go_upto_region 6 with (fail)
  refine wp_region_lit ?_
  refine wpList_run rfl (.agg (row 24 (hdv (hdX 10 4))).toArray) (xload 27 (.tmp 1) rfl z3 0 24 _ rfl Hz3.out.range Try.underlying27 rfl infoH) ?_
  simp only [Act.put, List.setIfInBounds_toArray, List.set_cons_zero, List.set_cons_succ]
  refine wpList_run rfl (.agg (row 35 (rtv ⟨0#64, true, 8, fun _ => 0#8⟩)).toArray) (xload 30 (.tmp 2) rfl z7 0 35 _ rfl Hz7.out.range Try.underlying30 rfl infoR) ?_
  simp only [Act.put, List.setIfInBounds_toArray, List.set_cons_zero, List.set_cons_succ]
  refine wpList_call rfl (by simp [go_sem]) ((key_lot (hdX 10 4) (0#64) 8 (fun _ => 0#8) y13 7 hk.out (hideit (by decide)) (hideit (by decide)) (hideit (by decide))).mono ?_)
  rintro e y16 ⟨rfl, hX17⟩
  refine ⟨_, rfl, ?_⟩
  simp only [Act.put, List.setIfInBounds_toArray, List.set_cons_zero, List.set_cons_succ]
  replace Hz3 := hideit (Hz3.out.carry hX17)
  replace Hz7 := hideit (Hz7.out.carry hX17)
  replace hE := hideit (Ext.trans hE.out hX17)
  clear hX17
  refine wpList_run rfl (.tuple #[.int .i64 1, .int .i64 0]) (by simp [go_sem]) ?_
  simp only [Act.put, List.setIfInBounds_toArray, List.set_cons_zero, List.set_cons_succ]
  refine wpList_run rfl (.int .i64 1) (by simp [go_sem]) ?_
  simp only [Act.put, List.setIfInBounds_toArray, List.set_cons_zero, List.set_cons_succ]
  refine wpList_run rfl (.int .i64 0) (by simp [go_sem]) ?_
  simp only [Act.put, List.setIfInBounds_toArray, List.set_cons_zero, List.set_cons_succ]
  refine wpList_run rfl (.int .i64 1) (by simp [go_sem]) ?_
  simp only [Act.put, List.setIfInBounds_toArray, List.set_cons_zero, List.set_cons_succ]
  refine wpList_run rfl (.int .i64 0) (by simp [go_sem]) ?_
  simp only [Act.put, List.setIfInBounds_toArray, List.set_cons_zero, List.set_cons_succ]
  go_upto_region 7 with (fail)
  refine wp_region_lit ?_
  refine wpList_run rfl (.agg (row 24 (hdv (hdX 10 4))).toArray) (xload 27 (.tmp 1) rfl z3 0 24 _ rfl Hz3.out.range Try.underlying27 rfl infoH) ?_
  simp only [Act.put, List.setIfInBounds_toArray, List.set_cons_zero, List.set_cons_succ]
  refine wpList_run rfl (.agg (row 35 (rtv ⟨0#64, true, 8, fun _ => 0#8⟩)).toArray) (xload 30 (.tmp 2) rfl z7 0 35 _ rfl Hz7.out.range Try.underlying30 rfl infoR) ?_
  simp only [Act.put, List.setIfInBounds_toArray, List.set_cons_zero, List.set_cons_succ]
  refine wpList_call rfl (by simp [go_sem]) ((after_end (hdX 10 4) (0#64) 8 (fun _ => 0#8) y16 hk.out e10.out (hideit (by rw [e10.out]; decide))).mono ?_)
  rintro e y18 ⟨rfl, hX19⟩
  refine ⟨_, rfl, ?_⟩
  simp only [Act.put, List.setIfInBounds_toArray, List.set_cons_zero, List.set_cons_succ]
  replace Hz3 := hideit (Hz3.out.carry hX19)
  replace Hz7 := hideit (Hz7.out.carry hX19)
  replace hE := hideit (Ext.trans hE.out hX19)
  clear hX19
  refine wpList_run rfl (.tuple #[.agg (row 35 (rtv ⟨0#64, false, 0, fun _ => 0#8⟩)).toArray, .bool true, .int .i64 0]) (by simp [go_sem]) ?_
  simp only [Act.put, List.setIfInBounds_toArray, List.set_cons_zero, List.set_cons_succ]
  refine wpList_run rfl (.agg (row 35 (rtv ⟨0#64, false, 0, fun _ => 0#8⟩)).toArray) (by simp [go_sem]) ?_
  simp only [Act.put, List.setIfInBounds_toArray, List.set_cons_zero, List.set_cons_succ]
  refine wpList_run rfl (.bool true) (by simp [go_sem]) ?_
  simp only [Act.put, List.setIfInBounds_toArray, List.set_cons_zero, List.set_cons_succ]
  refine wpList_run rfl (.int .i64 0) (by simp [go_sem]) ?_
  simp only [Act.put, List.setIfInBounds_toArray, List.set_cons_zero, List.set_cons_succ]
  have A0 := hideit (RowAt.new y18 35 (rtv rt0) 30)
  have A1 := hideit (Hz3.out.alloc (.cells (row 35 (rtv rt0)).toArray 30))
  have A2 := hideit (Hz7.out.alloc (.cells (row 35 (rtv rt0)).toArray 30))
  have AE := hideit (Below.alloc hE.out (Below.size hE.out) (.cells (row 35 (rtv rt0)).toArray 30))
  have AB := hideit (Below.size hE.out)
  have D0 : Hid (z3 ≠ y18.heap.size) := Nat.ne_of_lt Hz3.out.2.2
  have D1 : Hid (z7 ≠ y18.heap.size) := Nat.ne_of_lt Hz7.out.2.2
  refine wpList_to rfl (.pointer (some ⟨y18.heap.size, 0, none⟩)) (y18.alloc (.cells (row 35 (rtv rt0)).toArray 30)) (xalloc 30 (row 35 (rtv rt0)).toArray rfl (zero30 y18)) ?_
  simp only [Act.put, List.setIfInBounds_toArray, List.set_cons_zero, List.set_cons_succ]
  generalize y18.alloc (.cells (row 35 (rtv rt0)).toArray 30) = x21 at A0 A1 A2 AE ⊢
  obtain ⟨z20, ez20⟩ : ∃ b, b = y18.heap.size := ⟨_, rfl⟩
  rw [← ez20] at A0 D0 D1 AB ⊢
  clear ez20
  have Hz20 := A0
  clear A0
  replace Hz3 := A1
  clear A1
  replace Hz7 := A2
  clear A2
  replace hE := AE
  clear AE
  have ABz20 := AB
  clear AB
  have Dz20_0 := D0
  clear D0
  have Dz20_1 := D1
  clear D1
  have N0 := hideit (Hz20.out.cells (g' := rtv ⟨0#64, false, 0, fun _ => 0#8⟩))
  have N1 := hideit (Hz3.out.cellsOther (Ne.symm (Dz20_0.out)) (row 35 (rtv ⟨0#64, false, 0, fun _ => 0#8⟩)) 0)
  have N2 := hideit (Hz7.out.cellsOther (Ne.symm (Dz20_1.out)) (row 35 (rtv ⟨0#64, false, 0, fun _ => 0#8⟩)) 0)
  have NE := hideit (below_setCells z20 (ABz20.out) (row 35 (rtv ⟨0#64, false, 0, fun _ => 0#8⟩)) 0 _ hE.out)
  refine xst rfl (x21.setCells z20 0 (row 35 (rtv ⟨0#64, false, 0, fun _ => 0#8⟩))) (xstore 30 (.tmp 10) (.tmp 42) rfl z20 35 _ (rtv ⟨0#64, false, 0, fun _ => 0#8⟩) rfl rfl Hz20.out infoR (fun j _ => rtv_one _ j)) ?_
  simp only [Act.put]
  generalize x21.setCells z20 0 (row 35 (rtv ⟨0#64, false, 0, fun _ => 0#8⟩)) = x22 at N0 N1 N2 NE ⊢
  replace Hz20 := N0
  replace Hz3 := N1
  replace Hz7 := N2
  replace hE := NE
  clear N0 N1 N2 NE 
  refine wpList_run rfl (.bool true) (by simp [go_sem]) ?_
  simp only [Act.put, List.setIfInBounds_toArray, List.set_cons_zero, List.set_cons_succ]
  refine wpList_run rfl (.int .i64 0) (by simp [go_sem]) ?_
  simp only [Act.put, List.setIfInBounds_toArray, List.set_cons_zero, List.set_cons_succ]
  go_upto_region 8 with (fail)
  refine wp_region_lit ?_
  refine wpList_run rfl (.agg (row 24 (hdv (hdX 10 4))).toArray) (xload 27 (.tmp 1) rfl z3 0 24 _ rfl Hz3.out.range Try.underlying27 rfl infoH) ?_
  simp only [Act.put, List.setIfInBounds_toArray, List.set_cons_zero, List.set_cons_succ]
  refine wpList_run rfl (.agg (row 35 (rtv ⟨0#64, false, 0, fun _ => 0#8⟩)).toArray) (xbuild 30 [] rfl _ (build30 x22)) ?_
  simp only [Act.put, List.setIfInBounds_toArray, List.set_cons_zero, List.set_cons_succ]
  refine wpList_call rfl (by simp [go_sem]) ((next_idle (hdX 10 4) (0#64) 0 (fun _ => 0#8) x22 hk0.out).mono ?_)
  rintro e y23 ⟨rfl, hX24⟩
  refine ⟨_, rfl, ?_⟩
  simp only [Act.put, List.setIfInBounds_toArray, List.set_cons_zero, List.set_cons_succ]
  replace Hz3 := hideit (Hz3.out.carry hX24)
  replace Hz7 := hideit (Hz7.out.carry hX24)
  replace Hz20 := hideit (Hz20.out.carry hX24)
  replace hE := hideit (Ext.trans hE.out hX24)
  clear hX24
  refine wpList_run rfl (.tuple #[.int .i64 0, .int .i64 0, .int .i64 231]) (by simp [go_sem]) ?_
  simp only [Act.put, List.setIfInBounds_toArray, List.set_cons_zero, List.set_cons_succ]
  refine wpList_run rfl (.int .i64 0) (by simp [go_sem]) ?_
  simp only [Act.put, List.setIfInBounds_toArray, List.set_cons_zero, List.set_cons_succ]
  refine wpList_run rfl (.int .i64 0) (by simp [go_sem]) ?_
  simp only [Act.put, List.setIfInBounds_toArray, List.set_cons_zero, List.set_cons_succ]
  refine wpList_run rfl (.int .i64 231) (by simp [go_sem]) ?_
  simp only [Act.put, List.setIfInBounds_toArray, List.set_cons_zero, List.set_cons_succ]
  refine wpList_run rfl (.int .i64 0) (by simp [go_sem]) ?_
  simp only [Act.put, List.setIfInBounds_toArray, List.set_cons_zero, List.set_cons_succ]
  refine wpList_run rfl (.int .i64 0) (by simp [go_sem]) ?_
  simp only [Act.put, List.setIfInBounds_toArray, List.set_cons_zero, List.set_cons_succ]
  refine wpList_run rfl (.int .i64 231) (by simp [go_sem]) ?_
  simp only [Act.put, List.setIfInBounds_toArray, List.set_cons_zero, List.set_cons_succ]
  go_upto_region 9 with (fail)
  refine wp_region_lit ?_
  refine wpList_run rfl (.int .i64 0) (by simp [go_sem]) ?_
  simp only [Act.put, List.setIfInBounds_toArray, List.set_cons_zero, List.set_cons_succ]
  refine wpList_run rfl (.bool true) (by simp [go_sem]) ?_
  simp only [Act.put, List.setIfInBounds_toArray, List.set_cons_zero, List.set_cons_succ]
  refine wpList_run rfl (.bool true) (by simp [go_sem]) ?_
  simp only [Act.put, List.setIfInBounds_toArray, List.set_cons_zero, List.set_cons_succ]
  refine wpList_runW rfl (.int .i64 0) (by simp [go_sem]) ?_
  simp only [Act.put, List.setIfInBounds_toArray, List.set_cons_zero, List.set_cons_succ]
  refine wpList_runW rfl (.bool true) (by simp [go_sem]) ?_
  simp only [Act.put, List.setIfInBounds_toArray, List.set_cons_zero, List.set_cons_succ]
  refine wpList_run rfl (.bool true) (by simp [go_sem]) ?_
  simp only [Act.put, List.setIfInBounds_toArray, List.set_cons_zero, List.set_cons_succ]
  refine wpList_run rfl (.bool true) (by simp [go_sem]) ?_
  simp only [Act.put, List.setIfInBounds_toArray, List.set_cons_zero, List.set_cons_succ]
  refine wpList_runW rfl (.int .i64 0) (by simp [go_sem]) ?_
  simp only [Act.put, List.setIfInBounds_toArray, List.set_cons_zero, List.set_cons_succ]
  refine wpList_runW rfl (.bool true) (by simp [go_sem]) ?_
  simp only [Act.put, List.setIfInBounds_toArray, List.set_cons_zero, List.set_cons_succ]
  refine wpList_run rfl (.bool true) (by simp [go_sem]) ?_
  simp only [Act.put, List.setIfInBounds_toArray, List.set_cons_zero, List.set_cons_succ]
  refine wpList_run rfl (.bool true) (by simp [go_sem]) ?_
  simp only [Act.put, List.setIfInBounds_toArray, List.set_cons_zero, List.set_cons_succ]
  refine wpList_runW rfl (.int .i64 0) (by simp [go_sem]) ?_
  simp only [Act.put, List.setIfInBounds_toArray, List.set_cons_zero, List.set_cons_succ]
  refine wpList_runW rfl (.bool true) (by simp [go_sem]) ?_
  simp only [Act.put, List.setIfInBounds_toArray, List.set_cons_zero, List.set_cons_succ]
  refine wpList_run rfl (.bool true) (by simp [go_sem]) ?_
  simp only [Act.put, List.setIfInBounds_toArray, List.set_cons_zero, List.set_cons_succ]
  refine wpList_run rfl (.bool true) (by simp [go_sem]) ?_
  simp only [Act.put, List.setIfInBounds_toArray, List.set_cons_zero, List.set_cons_succ]
  refine wpList_runW rfl (.int .i64 231) (by simp [go_sem]) ?_
  simp only [Act.put, List.setIfInBounds_toArray, List.set_cons_zero, List.set_cons_succ]
  refine wpList_runW rfl (.bool true) (by simp [go_sem]) ?_
  simp only [Act.put, List.setIfInBounds_toArray, List.set_cons_zero, List.set_cons_succ]
  refine wpList_run rfl (.bool true) (by simp [go_sem]) ?_
  simp only [Act.put, List.setIfInBounds_toArray, List.set_cons_zero, List.set_cons_succ]
  refine wpList_run rfl (.bool true) (by simp [go_sem]) ?_
  simp only [Act.put, List.setIfInBounds_toArray, List.set_cons_zero, List.set_cons_succ]
  refine wpList_runW rfl (.int .i64 8) (by simp [go_sem]) ?_
  simp only [Act.put, List.setIfInBounds_toArray, List.set_cons_zero, List.set_cons_succ]
  refine wpList_runW rfl (.bool true) (by simp [go_sem]) ?_
  simp only [Act.put, List.setIfInBounds_toArray, List.set_cons_zero, List.set_cons_succ]
  refine wpList_run rfl (.bool true) (by simp [go_sem]) ?_
  simp only [Act.put, List.setIfInBounds_toArray, List.set_cons_zero, List.set_cons_succ]
  refine wpList_run rfl (.bool true) (by simp [go_sem]) ?_
  simp only [Act.put, List.setIfInBounds_toArray, List.set_cons_zero, List.set_cons_succ]
  refine wpList_runW rfl (.int .i64 10) (by simp [go_sem]) ?_
  simp only [Act.put, List.setIfInBounds_toArray, List.set_cons_zero, List.set_cons_succ]
  refine wpList_runW rfl (.bool true) (by simp [go_sem]) ?_
  simp only [Act.put, List.setIfInBounds_toArray, List.set_cons_zero, List.set_cons_succ]
  refine wpList_run rfl (.bool true) (by simp [go_sem]) ?_
  simp only [Act.put, List.setIfInBounds_toArray, List.set_cons_zero, List.set_cons_succ]
  refine wpList_run rfl (.bool true) (by simp [go_sem]) ?_
  simp only [Act.put, List.setIfInBounds_toArray, List.set_cons_zero, List.set_cons_succ]
  refine wpList_runW rfl (.int .i64 1) (by simp [go_sem]) ?_
  simp only [Act.put, List.setIfInBounds_toArray, List.set_cons_zero, List.set_cons_succ]
  refine wpList_runW rfl (.bool true) (by simp [go_sem]) ?_
  simp only [Act.put, List.setIfInBounds_toArray, List.set_cons_zero, List.set_cons_succ]
  refine wpList_run rfl (.bool true) (by simp [go_sem]) ?_
  simp only [Act.put, List.setIfInBounds_toArray, List.set_cons_zero, List.set_cons_succ]
  refine wpList_run rfl (.bool true) (by simp [go_sem]) ?_
  simp only [Act.put, List.setIfInBounds_toArray, List.set_cons_zero, List.set_cons_succ]
  refine wpList_runW rfl (.int .i64 1) (by simp [go_sem]) ?_
  simp only [Act.put, List.setIfInBounds_toArray, List.set_cons_zero, List.set_cons_succ]
  refine wpList_runW rfl (.bool true) (by simp [go_sem]) ?_
  simp only [Act.put, List.setIfInBounds_toArray, List.set_cons_zero, List.set_cons_succ]
  refine wpList_run rfl (.bool true) (by simp [go_sem]) ?_
  simp only [Act.put, List.setIfInBounds_toArray, List.set_cons_zero, List.set_cons_succ]
  refine wpList_run rfl (.bool true) (by simp [go_sem]) ?_
  simp only [Act.put, List.setIfInBounds_toArray, List.set_cons_zero, List.set_cons_succ]
  refine wpList_runW rfl (.bool true) (by simp [go_sem]) ?_
  simp only [Act.put, List.setIfInBounds_toArray, List.set_cons_zero, List.set_cons_succ]
  refine wpList_run rfl (.bool true) (by simp [go_sem]) ?_
  simp only [Act.put, List.setIfInBounds_toArray, List.set_cons_zero, List.set_cons_succ]
  refine wpList_run rfl (.bool true) (by simp [go_sem]) ?_
  simp only [Act.put, List.setIfInBounds_toArray, List.set_cons_zero, List.set_cons_succ]
  refine wpList_runW rfl (.pointer (some ⟨z20, 1, none⟩)) (by simp [go_sem]) ?_
  simp only [Act.put, List.setIfInBounds_toArray, List.set_cons_zero, List.set_cons_succ]
  have m25 : y23.cell? ⟨z20, 1, none⟩ = some (.bool false) := Hz20.out.1 1 (by decide)
  refine wpList_runW rfl (.bool false) (by simp [go_sem, m25]) ?_
  simp only [Act.put, List.setIfInBounds_toArray, List.set_cons_zero, List.set_cons_succ]
  clear m25
  refine wpList_runW rfl (.bool true) (by simp [go_sem]) ?_
  simp only [Act.put, List.setIfInBounds_toArray, List.set_cons_zero, List.set_cons_succ]
  refine wpList_run rfl (.bool true) (by simp [go_sem]) ?_
  simp only [Act.put, List.setIfInBounds_toArray, List.set_cons_zero, List.set_cons_succ]
  refine wpList_run rfl (.bool true) (by simp [go_sem]) ?_
  simp only [Act.put, List.setIfInBounds_toArray, List.set_cons_zero, List.set_cons_succ]
  refine wpList_runW rfl (.agg (row 24 (hdv (hdX 10 4))).toArray) (xload 27 (.tmp 1) rfl z3 0 24 _ rfl Hz3.out.range Try.underlying27 rfl infoH) ?_
  simp only [Act.put, List.setIfInBounds_toArray, List.set_cons_zero, List.set_cons_succ]
  refine wpList_runW rfl (.agg (row 35 (rtv ⟨0#64, true, 8, fun _ => 0#8⟩)).toArray) (xload 30 (.tmp 2) rfl z7 0 35 _ rfl Hz7.out.range Try.underlying30 rfl infoR) ?_
  simp only [Act.put, List.setIfInBounds_toArray, List.set_cons_zero, List.set_cons_succ]
  refine wpList_callW rfl (by simp [go_sem]) ((may_any (hdX 10 4) ⟨0#64, true, 8, fun _ => 0#8⟩ y23 true (iff_of_true rfl hk.out)).mono ?_)
  rintro e y26 ⟨rfl, hX27⟩
  refine ⟨_, rfl, ?_⟩
  simp only [Act.put, List.setIfInBounds_toArray, List.set_cons_zero, List.set_cons_succ]
  replace Hz3 := hideit (Hz3.out.carry hX27)
  replace Hz7 := hideit (Hz7.out.carry hX27)
  replace Hz20 := hideit (Hz20.out.carry hX27)
  replace hE := hideit (Ext.trans hE.out hX27)
  clear hX27
  refine wpList_run rfl (.bool true) (by simp [go_sem]) ?_
  simp only [Act.put, List.setIfInBounds_toArray, List.set_cons_zero, List.set_cons_succ]
  refine wpList_run rfl (.bool true) (by simp [go_sem]) ?_
  simp only [Act.put, List.setIfInBounds_toArray, List.set_cons_zero, List.set_cons_succ]
  refine wpList_runW rfl (.agg (row 24 (hdv (hdX 10 4))).toArray) (xload 27 (.tmp 1) rfl z3 0 24 _ rfl Hz3.out.range Try.underlying27 rfl infoH) ?_
  simp only [Act.put, List.setIfInBounds_toArray, List.set_cons_zero, List.set_cons_succ]
  have kk30 := bound_ok (hdX 10 4) 2 y26 hh.out (by decide)
  rw [e5.out] at kk30
  refine wpList_callW rfl (by simp [go_sem]) ((kk30).mono ?_)
  rintro e y28 ⟨rfl, hX29⟩
  refine ⟨_, rfl, ?_⟩
  simp only [Act.put, List.setIfInBounds_toArray, List.set_cons_zero, List.set_cons_succ]
  replace Hz3 := hideit (Hz3.out.carry hX29)
  replace Hz7 := hideit (Hz7.out.carry hX29)
  replace Hz20 := hideit (Hz20.out.carry hX29)
  replace hE := hideit (Ext.trans hE.out hX29)
  clear hX29 kk30
  refine wpList_runW rfl (.bool true) (by simp [go_sem]) ?_
  simp only [Act.put, List.setIfInBounds_toArray, List.set_cons_zero, List.set_cons_succ]
  refine wpList_run rfl (.bool true) (by simp [go_sem]) ?_
  simp only [Act.put, List.setIfInBounds_toArray, List.set_cons_zero, List.set_cons_succ]
  refine wpList_run rfl (.bool true) (by simp [go_sem]) ?_
  simp only [Act.put, List.setIfInBounds_toArray, List.set_cons_zero]
  go_wp2
  go_ret
  exact ⟨rfl, hE.out⟩
end Go.Proofs.Ytchieinmpcdhfaa
