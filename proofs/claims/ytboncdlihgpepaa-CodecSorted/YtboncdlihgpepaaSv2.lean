/-
  Two Sorted gone over, one beside the other.
-/
import Derived.Test.YtboncdlihgpepaaSv3
namespace Go.Proofs.Ytboncdlihgpepaa
open Go.RowKit Go.BigFrame Go.Maps Go.ChangeMaps Go.MapKept
set_option linter.unusedVariables false
open Go.Shelf Go.Lib Go.Sort
attribute [local go_sem] Oper.semAt_some
set_option maxRecDepth 20000 in
set_option maxHeartbeats 4000000 in
theorem over_go {sb mb xb : Nat} {L : List KV} {v : Value} {w : World} (h : SoAt sb mb L w) (hd : DcAt xb L v w) (hle : L.length ≤ 4398046511104) (most : Int) : Calls Try.prog 41 #[.pointer (some ⟨sb, 0, none⟩), .pointer (some ⟨xb, 0, none⟩), .int .i64 most] w fun e w' => e = .returned (.bool true) ∧ Ext w w' := by
  obtain ⟨ov, cv, hv, hlc, hbb⟩ := hd.sl.form
  subst hv
  have hC := hideit hd.row
  have hC0 := hideit hd.row
  replace hbb := hideit hbb
  replace h := hideit h
  clear hd
  have wr1 : IntKind.i64.wrap 1 = 1 := by rw [IntKind.wrap_i64]; rfl
  have wr2 : IntKind.i64.wrap 2 = 2 := by rw [IntKind.wrap_i64]; rfl
  refine (callsIn_wide (n := 4)).1 (callsIn_of_wp_marks Try.func41 rfl trivial ?_ rfl)
  refine wpIn_wide.2 ?_
  simp only [Try.ntmps41, List.size_toArray, List.length_cons, List.length_nil, Nat.reduceAdd, Nat.reduceSub, Array.replicate_succ, Array.replicate_zero, List.push_toArray, List.append_toArray, List.nil_append, List.cons_append]
  have hE := hideit (Ext.refl w)
  have hMk : Hid (MkS w [] w) := ⟨(fun D hD => by cases hD), (fun D hD => by cases hD), List.nodup_nil⟩
  go_upto_region 0 with (fail)
  refine wp_region_lit ?_
  have A0 := hideit (row1_new w (.pointer (some ⟨xb, 0, none⟩)) 60)
  have XB : Ext w (w.alloc (.cells #[.pointer (some ⟨xb, 0, none⟩)] 60)) := (Below.refl _ _).alloc (Nat.le_refl _) _
  have A1 := hideit (hC.out.carry XB)
  have L0 := hideit (hMk.out.ext XB)
  have AE := hideit (Ext.trans hE.out (XB))
  have AB := hideit (hE.out.size)
  have D0 : Hid (xb ≠ w.heap.size) := Nat.ne_of_lt hC.out.2.2
  clear XB
  refine wpList_to rfl (.pointer (some ⟨w.heap.size, 0, none⟩)) (w.alloc (.cells #[.pointer (some ⟨xb, 0, none⟩)] 60)) (by simp [go_sem]) ?_
  simp only [Act.put, List.setIfInBounds_toArray, List.set_cons_zero, List.set_cons_succ]
  generalize w.alloc (.cells #[.pointer (some ⟨xb, 0, none⟩)] 60) = x1 at A0 A1 L0 AE ⊢
  obtain ⟨c4, ec4⟩ : ∃ b, b = w.heap.size := ⟨_, rfl⟩
  have ABc4 : Hid (w.heap.size ≤ c4) := by rw [ec4]; exact AB.out
  clear AB
  rw [← ec4] at A0 D0 ⊢
  clear ec4
  have Hc4 := A0
  clear A0
  replace hC := A1
  clear A1
  replace hMk := L0
  clear L0
  replace hE := AE
  clear AE
  have Dc4_0 := D0
  clear D0
  have A0 := hideit (row1_new x1 (.int .i64 (most)) 3)
  have XB : Ext x1 (x1.alloc (.cells #[.int .i64 (most)] 3)) := (Below.refl _ _).alloc (Nat.le_refl _) _
  have A1 := hideit (hC.out.carry XB)
  have A2 := hideit (Hc4.out.carry XB)
  have L0 := hideit (hMk.out.ext XB)
  have AE := hideit (Ext.trans hE.out (XB))
  have AB := hideit (hE.out.size)
  have D0 : Hid (xb ≠ x1.heap.size) := Nat.ne_of_lt hC.out.2.2
  have D1 : Hid (c4 ≠ x1.heap.size) := Nat.ne_of_lt Hc4.out.2.2
  clear XB
  refine wpList_to rfl (.pointer (some ⟨x1.heap.size, 0, none⟩)) (x1.alloc (.cells #[.int .i64 (most)] 3)) (by simp [go_sem]) ?_
  simp only [Act.put, List.setIfInBounds_toArray, List.set_cons_zero, List.set_cons_succ]
  generalize x1.alloc (.cells #[.int .i64 (most)] 3) = x2 at A0 A1 A2 L0 AE ⊢
  obtain ⟨c5, ec5⟩ : ∃ b, b = x1.heap.size := ⟨_, rfl⟩
  have ABc5 : Hid (w.heap.size ≤ c5) := by rw [ec5]; exact AB.out
  clear AB
  rw [← ec5] at A0 D0 D1 ⊢
  clear ec5
  have Hc5 := A0
  clear A0
  replace hC := A1
  clear A1
  replace Hc4 := A2
  clear A2
  replace hMk := L0
  clear L0
  replace hE := AE
  clear AE
  have Dc5_0 := D0
  clear D0
  have Dc5_1 := D1
  clear D1
  have A0 := hideit (row1_new x2 (.bool false) 4)
  have XB : Ext x2 (x2.alloc (.cells #[.bool false] 4)) := (Below.refl _ _).alloc (Nat.le_refl _) _
  have A1 := hideit (hC.out.carry XB)
  have A2 := hideit (Hc4.out.carry XB)
  have A3 := hideit (Hc5.out.carry XB)
  have L0 := hideit (hMk.out.ext XB)
  have AE := hideit (Ext.trans hE.out (XB))
  have AB := hideit (hE.out.size)
  have D0 : Hid (xb ≠ x2.heap.size) := Nat.ne_of_lt hC.out.2.2
  have D1 : Hid (c4 ≠ x2.heap.size) := Nat.ne_of_lt Hc4.out.2.2
  have D2 : Hid (c5 ≠ x2.heap.size) := Nat.ne_of_lt Hc5.out.2.2
  clear XB
  refine wpList_to rfl (.pointer (some ⟨x2.heap.size, 0, none⟩)) (x2.alloc (.cells #[.bool false] 4)) (by simp [go_sem]) ?_
  simp only [Act.put, List.setIfInBounds_toArray, List.set_cons_zero, List.set_cons_succ]
  generalize x2.alloc (.cells #[.bool false] 4) = x3 at A0 A1 A2 A3 L0 AE ⊢
  obtain ⟨c6, ec6⟩ : ∃ b, b = x2.heap.size := ⟨_, rfl⟩
  have ABc6 : Hid (w.heap.size ≤ c6) := by rw [ec6]; exact AB.out
  clear AB
  rw [← ec6] at A0 D0 D1 D2 ⊢
  clear ec6
  have Hc6 := A0
  clear A0
  replace hC := A1
  clear A1
  replace Hc4 := A2
  clear A2
  replace Hc5 := A3
  clear A3
  replace hMk := L0
  clear L0
  replace hE := AE
  clear AE
  have Dc6_0 := D0
  clear D0
  have Dc6_1 := D1
  clear D1
  have Dc6_2 := D2
  clear D2
  go_upto_region 1 with (fail)
  refine wp_region_lit ?_
  have A0 := hideit (row1_new x3 (.int .i64 0) 3)
  have XB : Ext x3 (x3.alloc (.cells #[.int .i64 0] 3)) := (Below.refl _ _).alloc (Nat.le_refl _) _
  have A1 := hideit (hC.out.carry XB)
  have A2 := hideit (Hc4.out.carry XB)
  have A3 := hideit (Hc5.out.carry XB)
  have A4 := hideit (Hc6.out.carry XB)
  have L0 := hideit (hMk.out.ext XB)
  have AE := hideit (Ext.trans hE.out (XB))
  have AB := hideit (hE.out.size)
  have D0 : Hid (xb ≠ x3.heap.size) := Nat.ne_of_lt hC.out.2.2
  have D1 : Hid (c4 ≠ x3.heap.size) := Nat.ne_of_lt Hc4.out.2.2
  have D2 : Hid (c5 ≠ x3.heap.size) := Nat.ne_of_lt Hc5.out.2.2
  have D3 : Hid (c6 ≠ x3.heap.size) := Nat.ne_of_lt Hc6.out.2.2
  clear XB
  refine wpList_to rfl (.pointer (some ⟨x3.heap.size, 0, none⟩)) (x3.alloc (.cells #[.int .i64 0] 3)) (by simp [go_sem]) ?_
  simp only [Act.put, List.setIfInBounds_toArray, List.set_cons_zero, List.set_cons_succ]
  generalize x3.alloc (.cells #[.int .i64 0] 3) = x4 at A0 A1 A2 A3 A4 L0 AE ⊢
  obtain ⟨c7, ec7⟩ : ∃ b, b = x3.heap.size := ⟨_, rfl⟩
  have ABc7 : Hid (w.heap.size ≤ c7) := by rw [ec7]; exact AB.out
  clear AB
  rw [← ec7] at A0 D0 D1 D2 D3 ⊢
  clear ec7
  have Hc7 := A0
  clear A0
  replace hC := A1
  clear A1
  replace Hc4 := A2
  clear A2
  replace Hc5 := A3
  clear A3
  replace Hc6 := A4
  clear A4
  replace hMk := L0
  clear L0
  replace hE := AE
  clear AE
  have Dc7_0 := D0
  clear D0
  have Dc7_1 := D1
  clear D1
  have Dc7_2 := D2
  clear D2
  have Dc7_3 := D3
  clear D3
  have M0 : x4.cell? ⟨c7, 0, none⟩ = some (.int .i64 0) := Hc7.out.1 0 (by decide)
  have M1 : x4.frozen? ⟨c7, 0, none⟩ = false := Hc7.out.2.1 0 (by decide)
  have N0 := hideit (Hc7.out.set 0 (.int .i64 0))
  have N1 := hideit (hC.out.other ⟨c7, 0, none⟩ (.int .i64 0) (Ne.symm (Dc7_0.out)))
  have N2 := hideit (Hc4.out.other ⟨c7, 0, none⟩ (.int .i64 0) (Ne.symm (Dc7_1.out)))
  have N3 := hideit (Hc5.out.other ⟨c7, 0, none⟩ (.int .i64 0) (Ne.symm (Dc7_2.out)))
  have N4 := hideit (Hc6.out.other ⟨c7, 0, none⟩ (.int .i64 0) (Ne.symm (Dc7_3.out)))
  have NE := hideit (hE.out.setCell (p := ⟨c7, 0, none⟩) (ABc7.out) (.int .i64 0))
  have NL0 := hideit (show MkS w _ (x4.setCell ⟨c7, 0, none⟩ (.int .i64 0)) from hMk.out.set Hc7.out (by decide) _)
  refine xst rfl (x4.setCell ⟨c7, 0, none⟩ (.int .i64 0)) (by simp [go_sem, M0, M1]) ?_
  simp only [Act.put]
  generalize x4.setCell ⟨c7, 0, none⟩ (.int .i64 0) = x5 at N0 N1 N2 N3 N4 NE NL0 ⊢
  clear M0 M1
  replace Hc7 := N0
  replace hC := N1
  replace Hc4 := N2
  replace Hc5 := N3
  replace Hc6 := N4
  replace hMk := NL0
  replace hE := NE
  clear N0 N1 N2 N3 N4 NE NL0
  go_wp2
  refine wp_loop_rounds 3 ?_
  rw [rounds_succ]
  go_upto_region 2 with (fail)
  refine wp_region_lit ?_
  have m6 : x5.cell? ⟨c7, 0, none⟩ = some (.int .i64 0) := Hc7.out.1 0 (by decide)
  refine xm [some (.int .i64 0), some (.bool true)] (by kernel_rfl) (by simp [xr, go_sem, m6]) ?_
  simp only [xw, p0, p1, p2, p3]
  clear m6
  go_upto_region 4 with (fail)
  refine wp_region_lit ?_
  have A0 := hideit (row1_new x5 (.int .i64 0) 3)
  have XB : Ext x5 (x5.alloc (.cells #[.int .i64 0] 3)) := (Below.refl _ _).alloc (Nat.le_refl _) _
  have A1 := hideit (hC.out.carry XB)
  have A2 := hideit (Hc4.out.carry XB)
  have A3 := hideit (Hc5.out.carry XB)
  have A4 := hideit (Hc6.out.carry XB)
  have A5 := hideit (Hc7.out.carry XB)
  have L0 := hideit (hMk.out.ext XB)
  have AE := hideit (Ext.trans hE.out (XB))
  have AB := hideit (hE.out.size)
  have D0 : Hid (xb ≠ x5.heap.size) := Nat.ne_of_lt hC.out.2.2
  have D1 : Hid (c4 ≠ x5.heap.size) := Nat.ne_of_lt Hc4.out.2.2
  have D2 : Hid (c5 ≠ x5.heap.size) := Nat.ne_of_lt Hc5.out.2.2
  have D3 : Hid (c6 ≠ x5.heap.size) := Nat.ne_of_lt Hc6.out.2.2
  have D4 : Hid (c7 ≠ x5.heap.size) := Nat.ne_of_lt Hc7.out.2.2
  clear XB
  refine wpList_to rfl (.pointer (some ⟨x5.heap.size, 0, none⟩)) (x5.alloc (.cells #[.int .i64 0] 3)) (by simp [go_sem]) ?_
  simp only [Act.put, List.setIfInBounds_toArray, List.set_cons_zero, List.set_cons_succ]
  generalize x5.alloc (.cells #[.int .i64 0] 3) = x7 at A0 A1 A2 A3 A4 A5 L0 AE ⊢
  obtain ⟨c80, ec80⟩ : ∃ b, b = x5.heap.size := ⟨_, rfl⟩
  have ABc80 : Hid (w.heap.size ≤ c80) := by rw [ec80]; exact AB.out
  clear AB
  rw [← ec80] at A0 D0 D1 D2 D3 D4 ⊢
  clear ec80
  have Hc80 := A0
  clear A0
  replace hC := A1
  clear A1
  replace Hc4 := A2
  clear A2
  replace Hc5 := A3
  clear A3
  replace Hc6 := A4
  clear A4
  replace Hc7 := A5
  clear A5
  replace hMk := L0
  clear L0
  replace hE := AE
  clear AE
  have Dc80_0 := D0
  clear D0
  have Dc80_1 := D1
  clear D1
  have Dc80_2 := D2
  clear D2
  have Dc80_3 := D3
  clear D3
  have Dc80_4 := D4
  clear D4
  have M0 : x7.cell? ⟨c80, 0, none⟩ = some (.int .i64 0) := Hc80.out.1 0 (by decide)
  have M1 : x7.frozen? ⟨c80, 0, none⟩ = false := Hc80.out.2.1 0 (by decide)
  have N0 := hideit (Hc80.out.set 0 (.int .i64 0))
  have N1 := hideit (hC.out.other ⟨c80, 0, none⟩ (.int .i64 0) (Ne.symm (Dc80_0.out)))
  have N2 := hideit (Hc4.out.other ⟨c80, 0, none⟩ (.int .i64 0) (Ne.symm (Dc80_1.out)))
  have N3 := hideit (Hc5.out.other ⟨c80, 0, none⟩ (.int .i64 0) (Ne.symm (Dc80_2.out)))
  have N4 := hideit (Hc6.out.other ⟨c80, 0, none⟩ (.int .i64 0) (Ne.symm (Dc80_3.out)))
  have N5 := hideit (Hc7.out.other ⟨c80, 0, none⟩ (.int .i64 0) (Ne.symm (Dc80_4.out)))
  have NE := hideit (hE.out.setCell (p := ⟨c80, 0, none⟩) (ABc80.out) (.int .i64 0))
  have NL0 := hideit (show MkS w _ (x7.setCell ⟨c80, 0, none⟩ (.int .i64 0)) from hMk.out.set Hc80.out (by decide) _)
  refine xst rfl (x7.setCell ⟨c80, 0, none⟩ (.int .i64 0)) (by simp [go_sem, M0, M1]) ?_
  simp only [Act.put]
  generalize x7.setCell ⟨c80, 0, none⟩ (.int .i64 0) = x8 at N0 N1 N2 N3 N4 N5 NE NL0 ⊢
  clear M0 M1
  replace Hc80 := N0
  replace hC := N1
  replace Hc4 := N2
  replace Hc5 := N3
  replace Hc6 := N4
  replace Hc7 := N5
  replace hMk := NL0
  replace hE := NE
  clear N0 N1 N2 N3 N4 N5 NE NL0
  go_upto_region 5 with (fail)
  refine wp_region_lit ?_
  refine xm [some (.pointer (some ⟨sb, 0, none⟩))] (by kernel_rfl) (by simp [xr, go_sem]) ?_
  simp only [xw, p0, p1, p2, p3]
  refine wpList_call rfl (by simp [go_sem]) ((all_box (some ⟨sb, 0, none⟩) x8).mono ?_)
  rintro e y9 ⟨ba0, rfl, hba0, hX10⟩
  refine ⟨_, rfl, ?_⟩
  simp only [Act.put, List.setIfInBounds_toArray, List.set_cons_zero, List.set_cons_succ]
  replace hC := hideit (hC.out.carry hX10)
  replace Hc4 := hideit (Hc4.out.carry hX10)
  replace Hc5 := hideit (Hc5.out.carry hX10)
  replace Hc6 := hideit (Hc6.out.carry hX10)
  replace Hc7 := hideit (Hc7.out.carry hX10)
  replace Hc80 := hideit (Hc80.out.carry hX10)
  replace hMk := hideit (hMk.out.ext hX10)
  replace hE := hideit (Ext.trans hE.out (hX10))
  clear hX10
  refine xm [some (.bool false)] (by kernel_rfl) (by simp [xr, go_sem, fnil]) ?_
  simp only [xw, p0, p1, p2, p3]
  go_upto_region 7 with (fail)
  refine wp_region_lit ?_
  refine xm [some (.pointer (some ⟨sb, 0, none⟩))] (by kernel_rfl) (by simp [xr, go_sem]) ?_
  simp only [xw, p0, p1, p2, p3]
  refine wpList_call rfl (by simp [go_sem]) ((all_box (some ⟨sb, 0, none⟩) y9).mono ?_)
  rintro e y11 ⟨bb0, rfl, hbb0, hX12⟩
  refine ⟨_, rfl, ?_⟩
  simp only [Act.put, List.setIfInBounds_toArray, List.set_cons_zero, List.set_cons_succ]
  replace hC := hideit (hC.out.carry hX12)
  replace Hc4 := hideit (Hc4.out.carry hX12)
  replace Hc5 := hideit (Hc5.out.carry hX12)
  replace Hc6 := hideit (Hc6.out.carry hX12)
  replace Hc7 := hideit (Hc7.out.carry hX12)
  replace Hc80 := hideit (Hc80.out.carry hX12)
  replace hMk := hideit (hMk.out.ext hX12)
  replace hE := hideit (Ext.trans hE.out (hX12))
  clear hX12
  go_wp2
  have hI0 : Hid (OvI w xb most 0 c4 c5 c6 c7 c80 [] 0 y11) := ⟨hE.out, Hc4.out, Hc5.out, Hc6.out, Hc7.out.congr (fun j hj => by first | rfl | (rw [if_pos (by omega)])), Hc80.out.congr (fun j hj => by first | rfl | (rw [if_pos (by omega)]; rfl)), ABc80.out, ⟨Ne.symm (Dc80_1.out), Ne.symm (Dc80_2.out), Ne.symm (Dc80_3.out), Ne.symm (Dc80_4.out)⟩, hMk.out.1, hMk.out.2.1, hMk.out.2.2⟩
  have hDB := hI0.out.lts
  have hBw := Below.size hE.out
  have hSo := h.out.ext hE.out
  have hbx := hbb0.out
  clear hC Hc4 Hc5 Hc6 Hc7 Hc80 hbb0 hMk
  obtain ⟨B0, hB0⟩ : ∃ B0, B0 = y11.heap.size := ⟨_, rfl⟩
  rename_i K0 hK0
  have hJJ0 : ∀ (D0 m : Nat) (W : World), (m = L.length ∨ (m : Int) = most) → B0 ≤ D0 → OvI w xb most 0 c4 c5 c6 c7 c80 [] m W → W.heap[D0]? = some (.deferred (some [])) → K0 { tmps := #[.pointer (some ⟨sb, 0, none⟩), .pointer (some ⟨xb, 0, none⟩), .int .i64 (most), undef, .pointer (some ⟨c4, 0, none⟩), .pointer (some ⟨c5, 0, none⟩), .pointer (some ⟨c6, 0, none⟩), .pointer (some ⟨c7, 0, none⟩), .pointer (some ⟨c80, 0, none⟩), undef, undef, undef, undef, undef, .int .i64 0, .bool true, undef, undef, .pointer (some ⟨sb, 0, none⟩), .func (.func 48) #[] #[.pointer (some ⟨ba0, 0, none⟩)], .bool false, .pointer (some ⟨sb, 0, none⟩), .func (.func 48) #[] #[.pointer (some ⟨bb0, 0, none⟩)], undef, undef, undef, undef, undef, undef, undef, undef, undef, undef, undef, undef, undef, undef, undef, undef, undef, undef, undef, undef, undef, undef, undef, undef, undef, undef, undef, undef, undef, undef, undef, undef, undef, undef, undef, undef, undef, undef, undef, undef, undef, undef, undef, undef, undef, undef, undef, undef, undef, undef, undef, undef, undef, undef, undef, undef, undef, undef, undef, undef, undef, undef, undef, undef, undef, undef, undef, undef, undef, undef, undef, undef, undef, undef, undef, undef], defers := [{ target := .collected D0, args := #[] }] } W := by
    intro D0 m W hm hD hI hK
    refine hK0 _ _ ?_
    clear hK0
    have hMk := hideit (hI.marks.cons (D := D0) (fun D' h' => Nat.lt_of_lt_of_le (hDB D' h') (by rw [← hB0]; exact hD)) (Nat.le_trans hBw (by rw [← hB0]; exact hD)) hK)
    have hE := hideit hI.ext
    have hC := hideit (hC0.out.carry hI.ext)
    have Hc4 := hideit hI.r4
    have Hc5 := hideit hI.r5
    have Hc6 := hideit hI.r6
    have Hc7 := hideit hI.r7
    have Hc80 := hideit hI.r8
    clear hI hK hI0 hDB hBw hSo hbx hB0
    go_upto_region 14 with (fail)
    rename_i K9 hK9
    have hJ : ∀ (g54 g55 g56 g57 g58 g59 g60 g61 g62 g63 g64 g65 g66 g67 g68 : Value) (W9 : World), Ext W W9 → K9 { tmps := #[.pointer (some ⟨sb, 0, none⟩), .pointer (some ⟨xb, 0, none⟩), .int .i64 (most), undef, .pointer (some ⟨c4, 0, none⟩), .pointer (some ⟨c5, 0, none⟩), .pointer (some ⟨c6, 0, none⟩), .pointer (some ⟨c7, 0, none⟩), .pointer (some ⟨c80, 0, none⟩), undef, undef, undef, undef, undef, .int .i64 0, .bool true, undef, undef, .pointer (some ⟨sb, 0, none⟩), .func (.func 48) #[] #[.pointer (some ⟨ba0, 0, none⟩)], .bool false, .pointer (some ⟨sb, 0, none⟩), .func (.func 48) #[] #[.pointer (some ⟨bb0, 0, none⟩)], undef, undef, undef, undef, undef, undef, undef, undef, undef, undef, undef, undef, undef, undef, undef, undef, undef, undef, undef, undef, undef, undef, undef, undef, undef, undef, undef, undef, undef, undef, undef, g54, g55, g56, g57, g58, g59, g60, g61, g62, g63, g64, g65, g66, g67, g68, .bool false, undef, undef, undef, undef, undef, undef, undef, undef, undef, undef, undef, undef, undef, undef, undef, undef, undef, undef, undef, undef, undef, undef, undef, undef, undef, undef, undef, undef, undef], defers := [{ target := .collected D0, args := #[] }] } W9 := by
      intro g54 g55 g56 g57 g58 g59 g60 g61 g62 g63 g64 g65 g66 g67 g68 W9 hX9
      refine hK9 _ _ ?_
      clear hK9
      replace hC := hideit (hC.out.carry hX9)
      replace Hc4 := hideit (Hc4.out.carry hX9)
      replace Hc5 := hideit (Hc5.out.carry hX9)
      replace Hc6 := hideit (Hc6.out.carry hX9)
      replace Hc7 := hideit (Hc7.out.carry hX9)
      replace Hc80 := hideit (Hc80.out.carry hX9)
      replace hMk := hideit (hMk.out.ext hX9)
      replace hE := hideit (Ext.trans hE.out hX9)
      clear hX9
      go_upto_region 16 with (fail)
      refine wp_region_lit ?_
      have m141 : W9.cell? ⟨c7, 0, none⟩ = some (.int .i64 0) := Hc7.out.1 0 (by decide)
      refine xm [some (.int .i64 0)] (by kernel_rfl) (by simp [xr, go_sem, m141]) ?_
      simp only [xw, p0, p1, p2, p3]
      clear m141
      go_upto_region 17 with (fail)
      refine wp_region_lit ?_
      have A0 := hideit (row1_new W9 (.int .i64 0) 3)
      have XB : Ext W9 (W9.alloc (.cells #[.int .i64 0] 3)) := (Below.refl _ _).alloc (Nat.le_refl _) _
      have A1 := hideit (hC.out.carry XB)
      have A2 := hideit (Hc4.out.carry XB)
      have A3 := hideit (Hc5.out.carry XB)
      have A4 := hideit (Hc6.out.carry XB)
      have A5 := hideit (Hc7.out.carry XB)
      have A6 := hideit (Hc80.out.carry XB)
      have L0 := hideit (hMk.out.ext XB)
      have AE := hideit (Ext.trans hE.out (XB))
      have AB := hideit (hE.out.size)
      have D0 : Hid (xb ≠ W9.heap.size) := Nat.ne_of_lt hC.out.2.2
      have D1 : Hid (c4 ≠ W9.heap.size) := Nat.ne_of_lt Hc4.out.2.2
      have D2 : Hid (c5 ≠ W9.heap.size) := Nat.ne_of_lt Hc5.out.2.2
      have D3 : Hid (c6 ≠ W9.heap.size) := Nat.ne_of_lt Hc6.out.2.2
      have D4 : Hid (c7 ≠ W9.heap.size) := Nat.ne_of_lt Hc7.out.2.2
      have D5 : Hid (c80 ≠ W9.heap.size) := Nat.ne_of_lt Hc80.out.2.2
      clear XB
      refine wpList_to rfl (.pointer (some ⟨W9.heap.size, 0, none⟩)) (W9.alloc (.cells #[.int .i64 0] 3)) (by simp [go_sem]) ?_
      simp only [Act.put, List.setIfInBounds_toArray, List.set_cons_zero, List.set_cons_succ]
      generalize W9.alloc (.cells #[.int .i64 0] 3) = x142 at A0 A1 A2 A3 A4 A5 A6 L0 AE ⊢
      obtain ⟨c7a, ec7a⟩ : ∃ b, b = W9.heap.size := ⟨_, rfl⟩
      have ABc7a : Hid (w.heap.size ≤ c7a) := by rw [ec7a]; exact AB.out
      clear AB
      rw [← ec7a] at A0 D0 D1 D2 D3 D4 D5 ⊢
      clear ec7a
      have Hc7a := A0
      clear A0
      replace hC := A1
      clear A1
      replace Hc4 := A2
      clear A2
      replace Hc5 := A3
      clear A3
      replace Hc6 := A4
      clear A4
      replace Hc7 := A5
      clear A5
      replace Hc80 := A6
      clear A6
      replace hMk := L0
      clear L0
      replace hE := AE
      clear AE
      have Dc7a_0 := D0
      clear D0
      have Dc7a_1 := D1
      clear D1
      have Dc7a_2 := D2
      clear D2
      have Dc7a_3 := D3
      clear D3
      have Dc7a_4 := D4
      clear D4
      have Dc7a_5 := D5
      clear D5
      have M0 : x142.cell? ⟨c7a, 0, none⟩ = some (.int .i64 0) := Hc7a.out.1 0 (by decide)
      have M1 : x142.frozen? ⟨c7a, 0, none⟩ = false := Hc7a.out.2.1 0 (by decide)
      have N0 := hideit (Hc7a.out.set 0 (.int .i64 0))
      have N1 := hideit (hC.out.other ⟨c7a, 0, none⟩ (.int .i64 0) (Ne.symm (Dc7a_0.out)))
      have N2 := hideit (Hc4.out.other ⟨c7a, 0, none⟩ (.int .i64 0) (Ne.symm (Dc7a_1.out)))
      have N3 := hideit (Hc5.out.other ⟨c7a, 0, none⟩ (.int .i64 0) (Ne.symm (Dc7a_2.out)))
      have N4 := hideit (Hc6.out.other ⟨c7a, 0, none⟩ (.int .i64 0) (Ne.symm (Dc7a_3.out)))
      have N5 := hideit (Hc7.out.other ⟨c7a, 0, none⟩ (.int .i64 0) (Ne.symm (Dc7a_4.out)))
      have N6 := hideit (Hc80.out.other ⟨c7a, 0, none⟩ (.int .i64 0) (Ne.symm (Dc7a_5.out)))
      have NE := hideit (hE.out.setCell (p := ⟨c7a, 0, none⟩) (ABc7a.out) (.int .i64 0))
      have NL0 := hideit (show MkS w _ (x142.setCell ⟨c7a, 0, none⟩ (.int .i64 0)) from hMk.out.set Hc7a.out (by decide) _)
      refine xst rfl (x142.setCell ⟨c7a, 0, none⟩ (.int .i64 0)) (by simp [go_sem, M0, M1]) ?_
      simp only [Act.put]
      generalize x142.setCell ⟨c7a, 0, none⟩ (.int .i64 0) = x143 at N0 N1 N2 N3 N4 N5 N6 NE NL0 ⊢
      clear M0 M1
      replace Hc7a := N0
      replace hC := N1
      replace Hc4 := N2
      replace Hc5 := N3
      replace Hc6 := N4
      replace Hc7 := N5
      replace Hc80 := N6
      replace hMk := NL0
      replace hE := NE
      clear N0 N1 N2 N3 N4 N5 N6 NE NL0
      go_upto_region 3 with (fail)
      refine wp_region_lit ?_
      have m144 : x143.cell? ⟨c7a, 0, none⟩ = some (.int .i64 0) := Hc7a.out.1 0 (by decide)
      refine xm [some (.int .i64 0)] (by kernel_rfl) (by simp [xr, go_sem, m144]) ?_
      simp only [xw, p0, p1, p2, p3]
      clear m144
      refine xm [some (.int .i64 1)] (by kernel_rfl) (by simp [xr, go_sem, wr1]) ?_
      simp only [xw, p0, p1, p2, p3]
      have M0 : x143.cell? ⟨c7a, 0, none⟩ = some (.int .i64 0) := Hc7a.out.1 0 (by decide)
      have M1 : x143.frozen? ⟨c7a, 0, none⟩ = false := Hc7a.out.2.1 0 (by decide)
      have N0 := hideit (Hc7a.out.set 0 (.int .i64 1))
      have N1 := hideit (hC.out.other ⟨c7a, 0, none⟩ (.int .i64 1) (Ne.symm (Dc7a_0.out)))
      have N2 := hideit (Hc4.out.other ⟨c7a, 0, none⟩ (.int .i64 1) (Ne.symm (Dc7a_1.out)))
      have N3 := hideit (Hc5.out.other ⟨c7a, 0, none⟩ (.int .i64 1) (Ne.symm (Dc7a_2.out)))
      have N4 := hideit (Hc6.out.other ⟨c7a, 0, none⟩ (.int .i64 1) (Ne.symm (Dc7a_3.out)))
      have N5 := hideit (Hc7.out.other ⟨c7a, 0, none⟩ (.int .i64 1) (Ne.symm (Dc7a_4.out)))
      have N6 := hideit (Hc80.out.other ⟨c7a, 0, none⟩ (.int .i64 1) (Ne.symm (Dc7a_5.out)))
      have NE := hideit (hE.out.setCell (p := ⟨c7a, 0, none⟩) (ABc7a.out) (.int .i64 1))
      have NL0 := hideit (show MkS w _ (x143.setCell ⟨c7a, 0, none⟩ (.int .i64 1)) from hMk.out.set Hc7a.out (by decide) _)
      refine xst rfl (x143.setCell ⟨c7a, 0, none⟩ (.int .i64 1)) (by simp [go_sem, M0, M1]) ?_
      simp only [Act.put]
      generalize x143.setCell ⟨c7a, 0, none⟩ (.int .i64 1) = x145 at N0 N1 N2 N3 N4 N5 N6 NE NL0 ⊢
      clear M0 M1
      replace Hc7a := N0
      replace hC := N1
      replace Hc4 := N2
      replace Hc5 := N3
      replace Hc6 := N4
      replace Hc7 := N5
      replace Hc80 := N6
      replace hMk := NL0
      replace hE := NE
      clear N0 N1 N2 N3 N4 N5 N6 NE NL0
      go_wp2
      rw [rounds_succ]
      go_upto_region 2 with (fail)
      refine wp_region_lit ?_
      have m146 : x145.cell? ⟨c7a, 0, none⟩ = some (.int .i64 1) := Hc7a.out.1 0 (by decide)
      refine xm [some (.int .i64 1), some (.bool true)] (by kernel_rfl) (by simp [xr, go_sem, m146]) ?_
      simp only [xw, p0, p1, p2, p3]
      clear m146
      go_upto_region 4 with (fail)
      refine wp_region_lit ?_
      have A0 := hideit (row1_new x145 (.int .i64 0) 3)
      have XB : Ext x145 (x145.alloc (.cells #[.int .i64 0] 3)) := (Below.refl _ _).alloc (Nat.le_refl _) _
      have A1 := hideit (hC.out.carry XB)
      have A2 := hideit (Hc4.out.carry XB)
      have A3 := hideit (Hc5.out.carry XB)
      have A4 := hideit (Hc6.out.carry XB)
      have A5 := hideit (Hc7a.out.carry XB)
      have L0 := hideit (hMk.out.ext XB)
      have AE := hideit (Ext.trans hE.out (XB))
      have AB := hideit (hE.out.size)
      have D0 : Hid (xb ≠ x145.heap.size) := Nat.ne_of_lt hC.out.2.2
      have D1 : Hid (c4 ≠ x145.heap.size) := Nat.ne_of_lt Hc4.out.2.2
      have D2 : Hid (c5 ≠ x145.heap.size) := Nat.ne_of_lt Hc5.out.2.2
      have D3 : Hid (c6 ≠ x145.heap.size) := Nat.ne_of_lt Hc6.out.2.2
      have D4 : Hid (c7a ≠ x145.heap.size) := Nat.ne_of_lt Hc7a.out.2.2
      clear XB
      refine wpList_to rfl (.pointer (some ⟨x145.heap.size, 0, none⟩)) (x145.alloc (.cells #[.int .i64 0] 3)) (by simp [go_sem]) ?_
      simp only [Act.put, List.setIfInBounds_toArray, List.set_cons_zero, List.set_cons_succ]
      generalize x145.alloc (.cells #[.int .i64 0] 3) = x147 at A0 A1 A2 A3 A4 A5 L0 AE ⊢
      obtain ⟨c81, ec81⟩ : ∃ b, b = x145.heap.size := ⟨_, rfl⟩
      have ABc81 : Hid (w.heap.size ≤ c81) := by rw [ec81]; exact AB.out
      clear AB
      rw [← ec81] at A0 D0 D1 D2 D3 D4 ⊢
      clear ec81
      have Hc81 := A0
      clear A0
      replace hC := A1
      clear A1
      replace Hc4 := A2
      clear A2
      replace Hc5 := A3
      clear A3
      replace Hc6 := A4
      clear A4
      replace Hc7a := A5
      clear A5
      replace hMk := L0
      clear L0
      replace hE := AE
      clear AE
      have Dc81_0 := D0
      clear D0
      have Dc81_1 := D1
      clear D1
      have Dc81_2 := D2
      clear D2
      have Dc81_3 := D3
      clear D3
      have Dc81_4 := D4
      clear D4
      have M0 : x147.cell? ⟨c81, 0, none⟩ = some (.int .i64 0) := Hc81.out.1 0 (by decide)
      have M1 : x147.frozen? ⟨c81, 0, none⟩ = false := Hc81.out.2.1 0 (by decide)
      have N0 := hideit (Hc81.out.set 0 (.int .i64 0))
      have N1 := hideit (hC.out.other ⟨c81, 0, none⟩ (.int .i64 0) (Ne.symm (Dc81_0.out)))
      have N2 := hideit (Hc4.out.other ⟨c81, 0, none⟩ (.int .i64 0) (Ne.symm (Dc81_1.out)))
      have N3 := hideit (Hc5.out.other ⟨c81, 0, none⟩ (.int .i64 0) (Ne.symm (Dc81_2.out)))
      have N4 := hideit (Hc6.out.other ⟨c81, 0, none⟩ (.int .i64 0) (Ne.symm (Dc81_3.out)))
      have N5 := hideit (Hc7a.out.other ⟨c81, 0, none⟩ (.int .i64 0) (Ne.symm (Dc81_4.out)))
      have NE := hideit (hE.out.setCell (p := ⟨c81, 0, none⟩) (ABc81.out) (.int .i64 0))
      have NL0 := hideit (show MkS w _ (x147.setCell ⟨c81, 0, none⟩ (.int .i64 0)) from hMk.out.set Hc81.out (by decide) _)
      refine xst rfl (x147.setCell ⟨c81, 0, none⟩ (.int .i64 0)) (by simp [go_sem, M0, M1]) ?_
      simp only [Act.put]
      generalize x147.setCell ⟨c81, 0, none⟩ (.int .i64 0) = x148 at N0 N1 N2 N3 N4 N5 NE NL0 ⊢
      clear M0 M1
      replace Hc81 := N0
      replace hC := N1
      replace Hc4 := N2
      replace Hc5 := N3
      replace Hc6 := N4
      replace Hc7a := N5
      replace hMk := NL0
      replace hE := NE
      clear N0 N1 N2 N3 N4 N5 NE NL0
      go_upto_region 5 with (fail)
      refine wp_region_lit ?_
      refine xm [some (.pointer (some ⟨sb, 0, none⟩))] (by kernel_rfl) (by simp [xr, go_sem]) ?_
      simp only [xw, p0, p1, p2, p3]
      refine wpList_call rfl (by simp [go_sem]) ((all_box (some ⟨sb, 0, none⟩) x148).mono ?_)
      rintro e y149 ⟨ba1, rfl, hba1, hX150⟩
      refine ⟨_, rfl, ?_⟩
      simp only [Act.put, List.setIfInBounds_toArray, List.set_cons_zero, List.set_cons_succ]
      replace hC := hideit (hC.out.carry hX150)
      replace Hc4 := hideit (Hc4.out.carry hX150)
      replace Hc5 := hideit (Hc5.out.carry hX150)
      replace Hc6 := hideit (Hc6.out.carry hX150)
      replace Hc7a := hideit (Hc7a.out.carry hX150)
      replace Hc81 := hideit (Hc81.out.carry hX150)
      replace hMk := hideit (hMk.out.ext hX150)
      replace hE := hideit (Ext.trans hE.out (hX150))
      clear hX150
      refine xm [some (.bool false)] (by kernel_rfl) (by simp [xr, go_sem, fnil]) ?_
      simp only [xw, p0, p1, p2, p3]
      go_upto_region 7 with (fail)
      refine wp_region_lit ?_
      refine xm [some (.pointer (some ⟨sb, 0, none⟩))] (by kernel_rfl) (by simp [xr, go_sem]) ?_
      simp only [xw, p0, p1, p2, p3]
      refine wpList_call rfl (by simp [go_sem]) ((all_box (some ⟨sb, 0, none⟩) y149).mono ?_)
      rintro e y151 ⟨bb1, rfl, hbb1, hX152⟩
      refine ⟨_, rfl, ?_⟩
      simp only [Act.put, List.setIfInBounds_toArray, List.set_cons_zero, List.set_cons_succ]
      replace hC := hideit (hC.out.carry hX152)
      replace Hc4 := hideit (Hc4.out.carry hX152)
      replace Hc5 := hideit (Hc5.out.carry hX152)
      replace Hc6 := hideit (Hc6.out.carry hX152)
      replace Hc7a := hideit (Hc7a.out.carry hX152)
      replace Hc81 := hideit (Hc81.out.carry hX152)
      replace hMk := hideit (hMk.out.ext hX152)
      replace hE := hideit (Ext.trans hE.out (hX152))
      clear hX152
      go_wp2
      have hI0 : Hid (OvI w xb most 1 c4 c5 c6 c7a c81 [D0] 0 y151) := ⟨hE.out, Hc4.out, Hc5.out, Hc6.out, Hc7a.out.congr (fun j hj => by first | rfl | (rw [if_pos (by omega)])), Hc81.out.congr (fun j hj => by first | rfl | (rw [if_pos (by omega)]; rfl)), ABc81.out, ⟨Ne.symm (Dc81_1.out), Ne.symm (Dc81_2.out), Ne.symm (Dc81_3.out), Ne.symm (Dc81_4.out)⟩, hMk.out.1, hMk.out.2.1, hMk.out.2.2⟩
      have hDB := hI0.out.lts
      have hBw := Below.size hE.out
      have hSo := h.out.ext hE.out
      have hbx := hbb1.out
      clear hC Hc4 Hc5 Hc6 Hc7a Hc81 hbb1 hMk
      obtain ⟨B0, hB0⟩ : ∃ B0, B0 = y151.heap.size := ⟨_, rfl⟩
      rename_i K1 hK1
      have hJJ1 : ∀ (D1 m : Nat) (W : World), m = L.length → B0 ≤ D1 → OvI w xb most 1 c4 c5 c6 c7a c81 [D0] m W → W.heap[D1]? = some (.deferred (some [])) → K1 { tmps := #[.pointer (some ⟨sb, 0, none⟩), .pointer (some ⟨xb, 0, none⟩), .int .i64 (most), undef, .pointer (some ⟨c4, 0, none⟩), .pointer (some ⟨c5, 0, none⟩), .pointer (some ⟨c6, 0, none⟩), .pointer (some ⟨c7a, 0, none⟩), .pointer (some ⟨c81, 0, none⟩), undef, undef, undef, undef, undef, .int .i64 1, .bool true, .int .i64 0, .int .i64 1, .pointer (some ⟨sb, 0, none⟩), .func (.func 48) #[] #[.pointer (some ⟨ba1, 0, none⟩)], .bool false, .pointer (some ⟨sb, 0, none⟩), .func (.func 48) #[] #[.pointer (some ⟨bb1, 0, none⟩)], undef, undef, undef, undef, undef, undef, undef, undef, undef, undef, undef, undef, undef, undef, undef, undef, undef, undef, undef, undef, undef, undef, undef, undef, undef, undef, undef, undef, undef, undef, undef, g54, g55, g56, g57, g58, g59, g60, g61, g62, g63, g64, g65, g66, g67, g68, .bool false, .int .i64 0, undef, undef, undef, undef, undef, undef, undef, undef, undef, undef, undef, undef, undef, undef, undef, undef, undef, undef, undef, undef, undef, undef, undef, undef, undef, undef, undef, undef], defers := [{ target := .collected D1, args := #[] }, { target := .collected D0, args := #[] }] } W := by
        intro D1 m W hm hD hI hK
        refine hK1 _ _ ?_
        clear hK1
        have hMk := hideit (hI.marks.cons (D := D1) (fun D' h' => Nat.lt_of_lt_of_le (hDB D' h') (by rw [← hB0]; exact hD)) (Nat.le_trans hBw (by rw [← hB0]; exact hD)) hK)
        have hE := hideit hI.ext
        have hC := hideit (hC0.out.carry hI.ext)
        have Hc4 := hideit hI.r4
        have Hc5 := hideit hI.r5
        have Hc6 := hideit hI.r6
        have Hc7a := hideit hI.r7
        have Hc81 := hideit hI.r8
        clear hI hK hI0 hDB hBw hSo hbx hB0
        have e14 : (m : Int) = (L.length : Int) := by omega
        replace hm := hideit hm
        replace e14 := hideit e14
        go_upto_region 14 with (fail)
        replace hC := hideit hC.out.drew
        replace Hc4 := hideit Hc4.out.drew
        replace Hc5 := hideit Hc5.out.drew
        replace Hc6 := hideit Hc6.out.drew
        replace Hc7a := hideit Hc7a.out.drew
        replace Hc81 := hideit Hc81.out.drew
        replace hMk := hideit (hMk.out.ext (Ext.draw (Ext.refl W)))
        replace hE := hideit (Ext.draw hE.out)
        refine wp_region_lad (fun X => Ext W.drew X) [(false, 0), (false, 1), (false, 2), (false, 3), (false, 4), (false, 5), (false, 6), (false, 7), (false, 8), (false, 9), (false, 10), (false, 11), (false, 12), (false, 13), (false, 14), (false, 15)] (by kernel_rfl) (by kernel_rfl) (by decide +kernel) (by decide +kernel) (by decide +kernel) (by decide +kernel) (Ext.refl _) ?_
        refine wpX_f _ (.int .i64 (m : Int)) rfl rfl (fun X hX => by have m241 : X.cell? ⟨c81, 0, none⟩ = some (.int .i64 (m : Int)) := (Hc81.out.carry hX).1 0 (by decide); simp [go_sem, m241]) ?_
        simp only [List.getElem_toArray, List.getElem_cons_zero, Act.put, List.setIfInBounds_toArray, List.set_cons_zero, List.set_cons_succ]
        refine wpX_f _ (.pointer (some ⟨xb, 0, none⟩)) rfl rfl (fun X hX => by have m242 : X.cell? ⟨c4, 0, none⟩ = some (.pointer (some ⟨xb, 0, none⟩)) := (Hc4.out.carry hX).1 0 (by decide); simp [go_sem, m242]) ?_
        simp only [List.getElem_toArray, List.getElem_cons_zero, List.getElem_cons_succ, Act.put, List.setIfInBounds_toArray, List.set_cons_zero, List.set_cons_succ]
        refine wpX_f _ (.pointer (some ⟨xb, 0, none⟩)) rfl rfl (fun X _ => by simp [go_sem]) ?_
        simp only [List.getElem_toArray, List.getElem_cons_zero, List.getElem_cons_succ, Act.put, List.setIfInBounds_toArray, List.set_cons_zero, List.set_cons_succ]
        refine wpX_f _ (.pointer (some ⟨xb, 0, none⟩)) rfl rfl (fun X _ => by simp [go_sem]) ?_
        simp only [List.getElem_toArray, List.getElem_cons_zero, List.getElem_cons_succ, Act.put, List.setIfInBounds_toArray, List.set_cons_zero, List.set_cons_succ]
        refine wpX_f _ (.slice ov L.length cv) rfl rfl (fun X hX => by have m243 : X.cell? ⟨xb, 0, none⟩ = some (.slice ov L.length cv) := (hC.out.carry hX).1 0 (by decide); simp [go_sem, m243]) ?_
        simp only [List.getElem_toArray, List.getElem_cons_zero, List.getElem_cons_succ, Act.put, List.setIfInBounds_toArray, List.set_cons_zero, List.set_cons_succ]
        refine wpX_f _ (.int .i64 (L.length : Int)) rfl rfl (fun X _ => by simp [go_sem]) ?_
        simp only [List.getElem_toArray, List.getElem_cons_zero, List.getElem_cons_succ, Act.put, List.setIfInBounds_toArray, List.set_cons_zero, List.set_cons_succ]
        refine wpX_f _ (.bool false) rfl rfl (fun X _ => by simp [go_sem, e14.out]) ?_
        simp only [List.getElem_toArray, List.getElem_cons_zero, List.getElem_cons_succ, Act.put, List.setIfInBounds_toArray, List.set_cons_zero, List.set_cons_succ]
        refine wpX_f _ (.bool false) rfl rfl (fun X _ => by simp [go_sem]) ?_
        simp only [List.getElem_toArray, List.getElem_cons_zero, List.getElem_cons_succ, Act.put, List.setIfInBounds_toArray, List.set_cons_zero, List.set_cons_succ]
        refine wpX_fskip _ rfl rfl ?_
        simp only [List.getElem_toArray, List.getElem_cons_zero, List.getElem_cons_succ, Act.put, List.setIfInBounds_toArray, List.set_cons_zero, List.set_cons_succ]
        refine wpX_fskip _ rfl rfl ?_
        simp only [List.getElem_toArray, List.getElem_cons_zero, List.getElem_cons_succ, Act.put, List.setIfInBounds_toArray, List.set_cons_zero, List.set_cons_succ]
        refine wpX_fskip _ rfl rfl ?_
        simp only [List.getElem_toArray, List.getElem_cons_zero, List.getElem_cons_succ, Act.put, List.setIfInBounds_toArray, List.set_cons_zero, List.set_cons_succ]
        refine wpX_fskip _ rfl rfl ?_
        simp only [List.getElem_toArray, List.getElem_cons_zero, List.getElem_cons_succ, Act.put, List.setIfInBounds_toArray, List.set_cons_zero, List.set_cons_succ]
        refine wpX_fskip _ rfl rfl ?_
        simp only [List.getElem_toArray, List.getElem_cons_zero, List.getElem_cons_succ, Act.put, List.setIfInBounds_toArray, List.set_cons_zero, List.set_cons_succ]
        refine wpX_fskip _ rfl rfl ?_
        simp only [List.getElem_toArray, List.getElem_cons_zero, List.getElem_cons_succ, Act.put, List.setIfInBounds_toArray, List.set_cons_zero, List.set_cons_succ]
        refine wpX_fskip _ rfl rfl ?_
        simp only [List.getElem_toArray, List.getElem_cons_zero, List.getElem_cons_succ, Act.put, List.setIfInBounds_toArray, List.set_cons_zero, List.set_cons_succ]
        refine wpX_f _ (.bool false) rfl rfl (fun X _ => by simp [go_sem]) ?_
        simp only [List.getElem_toArray, List.getElem_cons_zero, List.getElem_cons_succ, Act.put, List.setIfInBounds_toArray, List.set_cons_zero, List.set_cons_succ]
        refine wpX_nil ?_
        go_upto_region 16 with (fail)
        refine wp_region_lit ?_
        have m244 : W.drew.cell? ⟨c7a, 0, none⟩ = some (.int .i64 1) := Hc7a.out.1 0 (by decide)
        refine xm [some (.int .i64 1)] (by kernel_rfl) (by simp [xr, go_sem, m244]) ?_
        simp only [xw, p0, p1, p2, p3]
        clear m244
        go_upto_region 17 with (fail)
        refine wp_region_lit ?_
        have A0 := hideit (row1_new W.drew (.int .i64 0) 3)
        have XB : Ext W.drew (W.drew.alloc (.cells #[.int .i64 0] 3)) := (Below.refl _ _).alloc (Nat.le_refl _) _
        have A1 := hideit (hC.out.carry XB)
        have A2 := hideit (Hc4.out.carry XB)
        have A3 := hideit (Hc5.out.carry XB)
        have A4 := hideit (Hc6.out.carry XB)
        have A5 := hideit (Hc7a.out.carry XB)
        have A6 := hideit (Hc81.out.carry XB)
        have L0 := hideit (hMk.out.ext XB)
        have AE := hideit (Ext.trans hE.out (XB))
        have AB := hideit (hE.out.size)
        have D0 : Hid (xb ≠ W.drew.heap.size) := Nat.ne_of_lt hC.out.2.2
        have D1 : Hid (c4 ≠ W.drew.heap.size) := Nat.ne_of_lt Hc4.out.2.2
        have D2 : Hid (c5 ≠ W.drew.heap.size) := Nat.ne_of_lt Hc5.out.2.2
        have D3 : Hid (c6 ≠ W.drew.heap.size) := Nat.ne_of_lt Hc6.out.2.2
        have D4 : Hid (c7a ≠ W.drew.heap.size) := Nat.ne_of_lt Hc7a.out.2.2
        have D5 : Hid (c81 ≠ W.drew.heap.size) := Nat.ne_of_lt Hc81.out.2.2
        clear XB
        refine wpList_to rfl (.pointer (some ⟨W.drew.heap.size, 0, none⟩)) (W.drew.alloc (.cells #[.int .i64 0] 3)) (by simp [go_sem]) ?_
        simp only [Act.put, List.setIfInBounds_toArray, List.set_cons_zero, List.set_cons_succ]
        generalize W.drew.alloc (.cells #[.int .i64 0] 3) = x245 at A0 A1 A2 A3 A4 A5 A6 L0 AE ⊢
        obtain ⟨c7b, ec7b⟩ : ∃ b, b = W.drew.heap.size := ⟨_, rfl⟩
        have ABc7b : Hid (w.heap.size ≤ c7b) := by rw [ec7b]; exact AB.out
        clear AB
        rw [← ec7b] at A0 D0 D1 D2 D3 D4 D5 ⊢
        clear ec7b
        have Hc7b := A0
        clear A0
        replace hC := A1
        clear A1
        replace Hc4 := A2
        clear A2
        replace Hc5 := A3
        clear A3
        replace Hc6 := A4
        clear A4
        replace Hc7a := A5
        clear A5
        replace Hc81 := A6
        clear A6
        replace hMk := L0
        clear L0
        replace hE := AE
        clear AE
        have Dc7b_0 := D0
        clear D0
        have Dc7b_1 := D1
        clear D1
        have Dc7b_2 := D2
        clear D2
        have Dc7b_3 := D3
        clear D3
        have Dc7b_4 := D4
        clear D4
        have Dc7b_5 := D5
        clear D5
        have M0 : x245.cell? ⟨c7b, 0, none⟩ = some (.int .i64 0) := Hc7b.out.1 0 (by decide)
        have M1 : x245.frozen? ⟨c7b, 0, none⟩ = false := Hc7b.out.2.1 0 (by decide)
        have N0 := hideit (Hc7b.out.set 0 (.int .i64 1))
        have N1 := hideit (hC.out.other ⟨c7b, 0, none⟩ (.int .i64 1) (Ne.symm (Dc7b_0.out)))
        have N2 := hideit (Hc4.out.other ⟨c7b, 0, none⟩ (.int .i64 1) (Ne.symm (Dc7b_1.out)))
        have N3 := hideit (Hc5.out.other ⟨c7b, 0, none⟩ (.int .i64 1) (Ne.symm (Dc7b_2.out)))
        have N4 := hideit (Hc6.out.other ⟨c7b, 0, none⟩ (.int .i64 1) (Ne.symm (Dc7b_3.out)))
        have N5 := hideit (Hc7a.out.other ⟨c7b, 0, none⟩ (.int .i64 1) (Ne.symm (Dc7b_4.out)))
        have N6 := hideit (Hc81.out.other ⟨c7b, 0, none⟩ (.int .i64 1) (Ne.symm (Dc7b_5.out)))
        have NE := hideit (hE.out.setCell (p := ⟨c7b, 0, none⟩) (ABc7b.out) (.int .i64 1))
        have NL0 := hideit (show MkS w _ (x245.setCell ⟨c7b, 0, none⟩ (.int .i64 1)) from hMk.out.set Hc7b.out (by decide) _)
        refine xst rfl (x245.setCell ⟨c7b, 0, none⟩ (.int .i64 1)) (by simp [go_sem, M0, M1]) ?_
        simp only [Act.put]
        generalize x245.setCell ⟨c7b, 0, none⟩ (.int .i64 1) = x246 at N0 N1 N2 N3 N4 N5 N6 NE NL0 ⊢
        clear M0 M1
        replace Hc7b := N0
        replace hC := N1
        replace Hc4 := N2
        replace Hc5 := N3
        replace Hc6 := N4
        replace Hc7a := N5
        replace Hc81 := N6
        replace hMk := NL0
        replace hE := NE
        clear N0 N1 N2 N3 N4 N5 N6 NE NL0
        go_upto_region 3 with (fail)
        refine wp_region_lit ?_
        have m247 : x246.cell? ⟨c7b, 0, none⟩ = some (.int .i64 1) := Hc7b.out.1 0 (by decide)
        refine xm [some (.int .i64 1)] (by kernel_rfl) (by simp [xr, go_sem, m247]) ?_
        simp only [xw, p0, p1, p2, p3]
        clear m247
        refine xm [some (.int .i64 2)] (by kernel_rfl) (by simp [xr, go_sem, wr2]) ?_
        simp only [xw, p0, p1, p2, p3]
        have M0 : x246.cell? ⟨c7b, 0, none⟩ = some (.int .i64 1) := Hc7b.out.1 0 (by decide)
        have M1 : x246.frozen? ⟨c7b, 0, none⟩ = false := Hc7b.out.2.1 0 (by decide)
        have N0 := hideit (Hc7b.out.set 0 (.int .i64 2))
        have N1 := hideit (hC.out.other ⟨c7b, 0, none⟩ (.int .i64 2) (Ne.symm (Dc7b_0.out)))
        have N2 := hideit (Hc4.out.other ⟨c7b, 0, none⟩ (.int .i64 2) (Ne.symm (Dc7b_1.out)))
        have N3 := hideit (Hc5.out.other ⟨c7b, 0, none⟩ (.int .i64 2) (Ne.symm (Dc7b_2.out)))
        have N4 := hideit (Hc6.out.other ⟨c7b, 0, none⟩ (.int .i64 2) (Ne.symm (Dc7b_3.out)))
        have N5 := hideit (Hc7a.out.other ⟨c7b, 0, none⟩ (.int .i64 2) (Ne.symm (Dc7b_4.out)))
        have N6 := hideit (Hc81.out.other ⟨c7b, 0, none⟩ (.int .i64 2) (Ne.symm (Dc7b_5.out)))
        have NE := hideit (hE.out.setCell (p := ⟨c7b, 0, none⟩) (ABc7b.out) (.int .i64 2))
        have NL0 := hideit (show MkS w _ (x246.setCell ⟨c7b, 0, none⟩ (.int .i64 2)) from hMk.out.set Hc7b.out (by decide) _)
        refine xst rfl (x246.setCell ⟨c7b, 0, none⟩ (.int .i64 2)) (by simp [go_sem, M0, M1]) ?_
        simp only [Act.put]
        generalize x246.setCell ⟨c7b, 0, none⟩ (.int .i64 2) = x248 at N0 N1 N2 N3 N4 N5 N6 NE NL0 ⊢
        clear M0 M1
        replace Hc7b := N0
        replace hC := N1
        replace Hc4 := N2
        replace Hc5 := N3
        replace Hc6 := N4
        replace Hc7a := N5
        replace Hc81 := N6
        replace hMk := NL0
        replace hE := NE
        clear N0 N1 N2 N3 N4 N5 N6 NE NL0
        go_wp2
        rw [rounds_succ]
        go_upto_region 2 with (fail)
        refine wp_region_lit ?_
        have m249 : x248.cell? ⟨c7b, 0, none⟩ = some (.int .i64 2) := Hc7b.out.1 0 (by decide)
        refine xm [some (.int .i64 2), some (.bool false)] (by kernel_rfl) (by simp [xr, go_sem, m249]) ?_
        simp only [xw, p0, p1, p2, p3]
        clear m249
        go_upto_region 18 with (fail)
        refine wp_region_lit ?_
        refine xm [some (.pointer none)] (by kernel_rfl) (by simp [xr, go_sem]) ?_
        simp only [xw, p0, p1, p2, p3]
        go_upto_region 19 with (fail)
        refine wp_region_lit ?_
        refine xm [some (.pointer none)] (by kernel_rfl) (by simp [xr, go_sem]) ?_
        simp only [xw, p0, p1, p2, p3]
        refine wpList_call rfl (by simp [go_sem]) ((nil_set 1 ⟨#[120]⟩ x248).mono ?_)
        rintro e yy ⟨rfl, hyy⟩
        refine ⟨_, rfl, ?_⟩
        simp only [Act.put, List.setIfInBounds_toArray, List.set_cons_zero, List.set_cons_succ]
        replace hyy := hyy.symm
        subst hyy
        go_upto_region 20 with (fail)
        refine wp_region_lit ?_
        refine xm [some (.pointer none)] (by kernel_rfl) (by simp [xr, go_sem]) ?_
        simp only [xw, p0, p1, p2, p3]
        refine wpList_call rfl (by simp [go_sem]) ((nil_clear x248).mono ?_)
        rintro e yy ⟨rfl, hyy⟩
        refine ⟨_, rfl, ?_⟩
        simp only [Act.put, List.setIfInBounds_toArray, List.set_cons_zero, List.set_cons_succ]
        replace hyy := hyy.symm
        subst hyy
        go_upto_region 21 with (fail)
        refine wp_region_lit ?_
        refine xm [some (.pointer none)] (by kernel_rfl) (by simp [xr, go_sem]) ?_
        simp only [xw, p0, p1, p2, p3]
        refine wpList_call rfl (by simp [go_sem]) ((nil_get 1 x248).mono ?_)
        rintro e yy ⟨rfl, hyy⟩
        refine ⟨_, rfl, ?_⟩
        simp only [Act.put, List.setIfInBounds_toArray, List.set_cons_zero, List.set_cons_succ]
        replace hyy := hyy.symm
        subst hyy
        refine xm [some (.tuple #[.string ByteArray.empty, .bool false]), some (.string ByteArray.empty), some (.bool false), some (.string ByteArray.empty), some (.bool false)] (by kernel_rfl) (by simp [xr, go_sem]) ?_
        simp only [xw, p0, p1, p2, p3]
        go_upto_region 22 with (fail)
        refine wp_region_lit ?_
        refine xm [some (.pointer none)] (by kernel_rfl) (by simp [xr, go_sem]) ?_
        simp only [xw, p0, p1, p2, p3]
        refine wpList_call rfl (by simp [go_sem]) ((all_box none x248).mono ?_)
        rintro e y250 ⟨bn, rfl, hbn, hX251⟩
        refine ⟨_, rfl, ?_⟩
        simp only [Act.put, List.setIfInBounds_toArray, List.set_cons_zero, List.set_cons_succ]
        replace hC := hideit (hC.out.carry hX251)
        replace Hc4 := hideit (Hc4.out.carry hX251)
        replace Hc5 := hideit (Hc5.out.carry hX251)
        replace Hc6 := hideit (Hc6.out.carry hX251)
        replace Hc7b := hideit (Hc7b.out.carry hX251)
        replace hMk := hideit (hMk.out.ext hX251)
        replace hE := hideit (Ext.trans hE.out (hX251))
        clear hX251
        refine xm [some (.bool false)] (by kernel_rfl) (by simp [xr, go_sem, fnil]) ?_
        simp only [xw, p0, p1, p2, p3]
        go_upto_region 24 with (fail)
        refine wp_region_lit ?_
        refine xm [some (.pointer none)] (by kernel_rfl) (by simp [xr, go_sem]) ?_
        simp only [xw, p0, p1, p2, p3]
        refine wpList_call rfl (by simp [go_sem]) ((all_box none y250).mono ?_)
        rintro e y252 ⟨bm, rfl, hbm, hX253⟩
        refine ⟨_, rfl, ?_⟩
        simp only [Act.put, List.setIfInBounds_toArray, List.set_cons_zero, List.set_cons_succ]
        replace hC := hideit (hC.out.carry hX253)
        replace Hc4 := hideit (Hc4.out.carry hX253)
        replace Hc5 := hideit (Hc5.out.carry hX253)
        replace Hc6 := hideit (Hc6.out.carry hX253)
        replace Hc7b := hideit (Hc7b.out.carry hX253)
        replace hMk := hideit (hMk.out.ext hX253)
        replace hE := hideit (Ext.trans hE.out (hX253))
        clear hX253
        go_wp2
        have hBw := Below.size hE.out
        have hDB := hMk.out.lts
        have hbx := hbm.out
        have hJ0 : Ext w y252 ∧ RowAt c6 1 (fun _ => .bool false) y252 ∧ MkS w [D1, D0] y252 := ⟨hE.out, Hc6.out, hMk.out⟩
        clear hC Hc4 Hc5 hbn hbm
        refine (wpIn_wide (n := 4)).1 ?_
        refine wpIn_rangeFunc_ownG (F := Fence.wide) (n := 4) rfl (by decide) (gf := 48) (lb := #[.pointer (some ⟨bm, 0, none⟩)]) rfl trivial (enters_of Try.func48 (by kernel_rfl) rfl)
          (nil_stops 3 (by decide) (B := y252.heap.size) hbx) kpC_t (fun W l o o' _ h hc _ => kpC_b W l o o' h hc) (Below.refl _ _) (fun _ => rfl)
          (fun pre W => Ext w W ∧ RowAt c6 1 (fun _ => .bool false) W ∧ MkS w [D1, D0] W) (fun _ _ _ => False)
          (fun s A B row hs hg hr => ⟨Below.grown hs.1 hg (Below.size hs.1) (fun k e => Nat.le_trans hBw (hr k e).1), hs.2.1.own hg (fun k e => (hr k e).2), hs.2.2.own hDB hg hr⟩)
          (fun c s A B row hs hg hr => hs) hJ0
          (fun q => { tmps := #[.pointer (some ⟨sb, 0, none⟩), .pointer (some ⟨xb, 0, none⟩), .int .i64 (most), undef, .pointer (some ⟨c4, 0, none⟩), .pointer (some ⟨c5, 0, none⟩), .pointer (some ⟨c6, 0, none⟩), .pointer (some ⟨c7b, 0, none⟩), .pointer (some ⟨c81, 0, none⟩), undef, undef, .pointer none, .string ByteArray.empty, .bool false, .int .i64 2, .bool false, .int .i64 1, .int .i64 2, .pointer (some ⟨sb, 0, none⟩), .func (.func 48) #[] #[.pointer (some ⟨ba1, 0, none⟩)], .bool false, .pointer (some ⟨sb, 0, none⟩), .func (.func 48) #[] #[.pointer (some ⟨bb1, 0, none⟩)], undef, undef, undef, undef, undef, undef, undef, undef, undef, undef, undef, undef, undef, undef, undef, undef, undef, undef, undef, undef, undef, undef, undef, undef, undef, undef, undef, undef, undef, undef, undef, .int .i64 (m : Int), .pointer (some ⟨xb, 0, none⟩), .pointer (some ⟨xb, 0, none⟩), .pointer (some ⟨xb, 0, none⟩), .slice ov L.length cv, .int .i64 (L.length : Int), .bool false, .bool false, undef, undef, undef, undef, undef, undef, undef, .bool false, .int .i64 1, .pointer none, .tuple #[], .pointer none, .tuple #[], .tuple #[.string ByteArray.empty, .bool false], .pointer none, .tuple #[.string ByteArray.empty, .bool false], .string ByteArray.empty, .bool false, .pointer none, .func (.func 48) #[] #[.pointer (some ⟨bn, 0, none⟩)], .bool false, .pointer none, .func (.func 48) #[] #[.pointer (some ⟨bm, 0, none⟩)], .int .i64 q.1, .string q.2, undef, undef, undef, undef, undef, undef, undef, undef, undef, undef, undef, undef], defers := [] }) ?as2 ?bo2 ?do2 ?st2
        case as2 =>
          intro l x W K hK
          gi_wp2
          exact hK
        case bo2 =>
          rintro l pre q W hI hlen
          cases hlen
        case do2 =>
          rename_i K hKK
          rintro D2 xs W hD hS ⟨hE1, hR1, hM1⟩ hK
          refine hKK _ _ ?_
          clear hKK
          have hMk := hideit (hM1.cons (D := D2) (fun D' h' => Nat.lt_of_lt_of_le (hDB D' h') hD) (Nat.le_trans hBw hD) hK)
          have hE := hideit hE1
          have Hc6 := hideit hR1
          clear hE1 hR1 hM1 hJ0 hDB hBw hbx hK
          go_upto_region 26 with (fail)
          refine wp_region_lit ?_
          refine xm [some (.bool false), some (.bool true), some (.bool true), some (.pointer none)] (by kernel_rfl) (by simp [xr, go_sem]) ?_
          simp only [xw, p0, p1, p2, p3]
          refine wpList_callW rfl (by simp [go_sem]) ((nil_del 1 W).mono ?_)
          rintro e yy ⟨rfl, hyy⟩
          refine ⟨_, rfl, ?_⟩
          simp only [Act.put, List.setIfInBounds_toArray, List.set_cons_zero, List.set_cons_succ]
          replace hyy := hyy.symm
          subst hyy
          refine xm [some (.bool true), some (.bool true), some (.bool true), some (.pointer none)] (by kernel_rfl) (by simp [xr, go_sem]) ?_
          simp only [xw, p0, p1, p2, p3]
          refine wpList_callW rfl (by simp [go_sem]) ((nil_len W).mono ?_)
          rintro e yy ⟨rfl, hyy⟩
          refine ⟨_, rfl, ?_⟩
          simp only [Act.put, List.setIfInBounds_toArray, List.set_cons_zero, List.set_cons_succ]
          replace hyy := hyy.symm
          subst hyy
          refine xm [some (.bool true), some (.bool true)] (by kernel_rfl) (by simp [xr, go_sem]) ?_
          simp only [xw, p0, p1, p2, p3]
          have M0 : W.cell? ⟨c6, 0, none⟩ = some (.bool false) := Hc6.out.1 0 (by decide)
          have M1 : W.frozen? ⟨c6, 0, none⟩ = false := Hc6.out.2.1 0 (by decide)
          have N0 := hideit (Hc6.out.set 0 (.bool true))
          have NE := hideit (hE.out.setCell (p := ⟨c6, 0, none⟩) (ABc6.out) (.bool true))
          have NL0 := hideit (show MkS w _ (W.setCell ⟨c6, 0, none⟩ (.bool true)) from hMk.out.set Hc6.out (by decide) _)
          refine xst rfl (W.setCell ⟨c6, 0, none⟩ (.bool true)) (by simp [go_sem, M0, M1]) ?_
          simp only [Act.put]
          generalize W.setCell ⟨c6, 0, none⟩ (.bool true) = x901 at N0 NE NL0 ⊢
          clear M0 M1
          replace Hc6 := N0
          replace hMk := NL0
          replace hE := NE
          clear N0 NE NL0
          go_wp2
          refine leaves_marks (c := c6) (v := .bool true) (fun X hX => ?_) (fun X hX => ⟨rfl, hX⟩) [D2, D1, D0] _ hMk.out.1 hMk.out.2.1 hMk.out.2.2 hE.out (Hc6.out.congr (fun j hj => by rw [if_pos (by omega)]))
          have hc := hX.1 0 (by decide)
          simp [results, Try.results41, go_sem, hc]
        case st2 =>
          rintro D c pre W hD hS hI hK
          exact hI.elim
      clear hK1
      refine (wpIn_wide (n := 4)).1 ?_
      refine wpIn_rangeFunc_ownG (F := Fence.wide) (n := 4) rfl (by decide) (gf := 48) (lb := #[.pointer (some ⟨bb1, 0, none⟩)]) rfl trivial (enters_of Try.func48 (by kernel_rfl) rfl)
        (all_stops 3 (by decide) (B := y151.heap.size) hSo hle hbx (Nat.le_refl _)) kpC_t (fun W l o o' _ h hc _ => kpC_b W l o o' h hc) (Below.refl _ _) (fun _ => rfl)
        (fun pre W => OvI w xb most 1 c4 c5 c6 c7a c81 [D0] pre.length W)
        (fun c pre W => (c = .exit 2 ∧ (1 : Int) = 0 ∧ (pre.length : Int) = most ∧ OvI w xb most 1 c4 c5 c6 c7a c81 [D0] pre.length W) ∨ (c = .ret ∧ ¬ pre <+: L))
        (fun s A B row hs hg hr => hs.own hDB hBw hg hr)
        (fun c s A B row hs hg hr => hs.imp (fun ⟨a, b, c, d⟩ => ⟨a, b, c, d.own hDB hBw hg hr⟩) id)
        hI0.out
        (fun q => { tmps := #[.pointer (some ⟨sb, 0, none⟩), .pointer (some ⟨xb, 0, none⟩), .int .i64 (most), undef, .pointer (some ⟨c4, 0, none⟩), .pointer (some ⟨c5, 0, none⟩), .pointer (some ⟨c6, 0, none⟩), .pointer (some ⟨c7a, 0, none⟩), .pointer (some ⟨c81, 0, none⟩), .int .i64 q.1, .string q.2, undef, undef, undef, .int .i64 1, .bool true, .int .i64 0, .int .i64 1, .pointer (some ⟨sb, 0, none⟩), .func (.func 48) #[] #[.pointer (some ⟨ba1, 0, none⟩)], .bool false, .pointer (some ⟨sb, 0, none⟩), .func (.func 48) #[] #[.pointer (some ⟨bb1, 0, none⟩)], .int .i64 q.1, .string q.2, undef, undef, undef, undef, undef, undef, undef, undef, undef, undef, undef, undef, undef, undef, undef, undef, undef, undef, undef, undef, undef, undef, undef, undef, undef, undef, undef, undef, undef, g54, g55, g56, g57, g58, g59, g60, g61, g62, g63, g64, g65, g66, g67, g68, .bool false, .int .i64 0, undef, undef, undef, undef, undef, undef, undef, undef, undef, undef, undef, undef, undef, undef, undef, undef, undef, undef, undef, undef, undef, undef, undef, undef, undef, undef, undef, undef], defers := [] }) ?as1 ?bo1 ?do1 ?st1
      case as1 =>
        intro l x W K hK
        gi_wp2
        exact hK
      case bo1 =>
        rintro l pre q W hI hlen
        obtain ⟨m, hm⟩ : ∃ m, m = pre.length := ⟨_, rfl⟩
        rw [← hm] at hI hlen
        obtain ⟨b, hov, hbx2, hb⟩ := hbb.out (by omega)
        obtain ⟨p, hp⟩ : ∃ p, L.getD m kd = p := ⟨_, rfl⟩
        obtain ⟨r, hr⟩ : ∃ r, r = !(decide (p.1 = q.1) && decide (p.2.toList = q.2.toList)) := ⟨_, rfl⟩
        have hc8 : c81 < y151.heap.size := hI0.out.r8.2.2
        have h4 := hideit hI.r4
        have h5 := hideit hI.r5
        have h6 := hideit hI.r6
        have h7 := hideit hI.r7
        have h8 := hideit hI.r8
        have hx := hideit (hC0.out.carry hI.ext)
        replace hb := hideit (hb.carry hI.ext)
        replace hI := hideit hI
        replace hp := hideit hp
        replace hr := hideit hr
        replace hm := hideit hm
        replace hc8 := hideit hc8
        clear hI0 hDB hBw hSo hbx hE hbx2 hJJ1
        have i1 : ¬ (L.length : Int) ≤ (m : Int) := by omega
        have i2 : (m : Int) < (L.length : Int) := by omega
        refine wpIn_block ?_
        refine wpIn_seq ?_
        refine wpIn_seq ?_
        replace h4 := hideit h4.out.drew
        replace h5 := hideit h5.out.drew
        replace h7 := hideit h7.out.drew
        replace h8 := hideit h8.out.drew
        replace hx := hideit hx.out.drew
        refine round_lad (by kernel_rfl) (fun h => by obtain ⟨_, _, h⟩ := h; exact h) (by kernel_rfl) ?_
        refine wpAny_lad (fun X => Ext W.drew X) [(false, 0), (false, 1), (false, 2), (false, 3), (false, 4), (false, 5), (false, 6), (false, 7), (false, 8), (false, 9), (false, 10), (false, 11), (false, 12), (false, 13), (false, 14), (false, 15), (false, 16), (false, 17), (false, 18), (false, 19)] (by kernel_rfl) (by decide +kernel) (by decide +kernel) (by decide +kernel) (by decide +kernel) (Ext.refl _) ?_
        refine wpX_f _ (.int .i64 (m : Int)) rfl rfl (fun X hX => by have m1 : X.cell? ⟨c81, 0, none⟩ = some (.int .i64 (m : Int)) := (h8.out.carry hX).1 0 (by decide); simp [go_sem, m1]) ?_
        simp only [List.getElem_toArray, List.getElem_cons_zero, Act.put, List.setIfInBounds_toArray, List.set_cons_zero, List.set_cons_succ]
        refine wpX_f _ (.pointer (some ⟨xb, 0, none⟩)) rfl rfl (fun X hX => by have m2 : X.cell? ⟨c4, 0, none⟩ = some (.pointer (some ⟨xb, 0, none⟩)) := (h4.out.carry hX).1 0 (by decide); simp [go_sem, m2]) ?_
        simp only [List.getElem_toArray, List.getElem_cons_zero, List.getElem_cons_succ, Act.put, List.setIfInBounds_toArray, List.set_cons_zero, List.set_cons_succ]
        refine wpX_f _ (.pointer (some ⟨xb, 0, none⟩)) rfl rfl (fun X _ => by simp [go_sem]) ?_
        simp only [List.getElem_toArray, List.getElem_cons_zero, List.getElem_cons_succ, Act.put, List.setIfInBounds_toArray, List.set_cons_zero, List.set_cons_succ]
        refine wpX_f _ (.pointer (some ⟨xb, 0, none⟩)) rfl rfl (fun X _ => by simp [go_sem]) ?_
        simp only [List.getElem_toArray, List.getElem_cons_zero, List.getElem_cons_succ, Act.put, List.setIfInBounds_toArray, List.set_cons_zero, List.set_cons_succ]
        refine wpX_f _ (.slice ov L.length cv) rfl rfl (fun X hX => by have m3 : X.cell? ⟨xb, 0, none⟩ = some (.slice ov L.length cv) := (hx.out.carry hX).1 0 (by decide); simp [go_sem, m3]) ?_
        simp only [List.getElem_toArray, List.getElem_cons_zero, List.getElem_cons_succ, Act.put, List.setIfInBounds_toArray, List.set_cons_zero, List.set_cons_succ]
        refine wpX_f _ (.int .i64 (L.length : Int)) rfl rfl (fun X _ => by simp [go_sem]) ?_
        simp only [List.getElem_toArray, List.getElem_cons_zero, List.getElem_cons_succ, Act.put, List.setIfInBounds_toArray, List.set_cons_zero, List.set_cons_succ]
        refine wpX_f _ (.bool false) rfl rfl (fun X _ => by simp [go_sem, hlen]) ?_
        simp only [List.getElem_toArray, List.getElem_cons_zero, List.getElem_cons_succ, Act.put, List.setIfInBounds_toArray, List.set_cons_zero, List.set_cons_succ]
        refine wpX_f _ (.bool false) rfl rfl (fun X _ => by simp [go_sem]) ?_
        simp only [List.getElem_toArray, List.getElem_cons_zero, List.getElem_cons_succ, Act.put, List.setIfInBounds_toArray, List.set_cons_zero, List.set_cons_succ]
        refine wpX_f _ (.pointer (some ⟨xb, 0, none⟩)) rfl rfl (fun X hX => by have m4 : X.cell? ⟨c4, 0, none⟩ = some (.pointer (some ⟨xb, 0, none⟩)) := (h4.out.carry hX).1 0 (by decide); simp [go_sem, m4]) ?_
        simp only [List.getElem_toArray, List.getElem_cons_zero, List.getElem_cons_succ, Act.put, List.setIfInBounds_toArray, List.set_cons_zero, List.set_cons_succ]
        refine wpX_f _ (.pointer (some ⟨xb, 0, none⟩)) rfl rfl (fun X _ => by simp [go_sem]) ?_
        simp only [List.getElem_toArray, List.getElem_cons_zero, List.getElem_cons_succ, Act.put, List.setIfInBounds_toArray, List.set_cons_zero, List.set_cons_succ]
        refine wpX_f _ (.pointer (some ⟨xb, 0, none⟩)) rfl rfl (fun X _ => by simp [go_sem]) ?_
        simp only [List.getElem_toArray, List.getElem_cons_zero, List.getElem_cons_succ, Act.put, List.setIfInBounds_toArray, List.set_cons_zero, List.set_cons_succ]
        refine wpX_f _ (.slice ov L.length cv) rfl rfl (fun X hX => by have m5 : X.cell? ⟨xb, 0, none⟩ = some (.slice ov L.length cv) := (hx.out.carry hX).1 0 (by decide); simp [go_sem, m5]) ?_
        simp only [List.getElem_toArray, List.getElem_cons_zero, List.getElem_cons_succ, Act.put, List.setIfInBounds_toArray, List.set_cons_zero, List.set_cons_succ]
        refine wpX_f _ (.int .i64 (m : Int)) rfl rfl (fun X hX => by have m6 : X.cell? ⟨c81, 0, none⟩ = some (.int .i64 (m : Int)) := (h8.out.carry hX).1 0 (by decide); simp [go_sem, m6]) ?_
        simp only [List.getElem_toArray, List.getElem_cons_zero, List.getElem_cons_succ, Act.put, List.setIfInBounds_toArray, List.set_cons_zero, List.set_cons_succ]
        refine wpX_f _ (.pointer (some ⟨b, m * 2, none⟩)) rfl rfl (fun X _ => by simp [go_sem, i2, hov]) ?_
        simp only [List.getElem_toArray, List.getElem_cons_zero, List.getElem_cons_succ, Act.put, List.setIfInBounds_toArray, List.set_cons_zero, List.set_cons_succ]
        refine wpX_f _ (.agg (row 2 (pV [p])).toArray) rfl rfl (fun X hX => xload 90 (.tmp 38) rfl b (m * 2) 2 (pV [p]) rfl ((hb.out.drew.carry hX).sub (m * 2) 2 (by omega) (pV [p]) (fun j hj => by rw [pV_at L hj, hp.out])) Try.underlying90 rfl inf90) ?_
        simp only [List.getElem_toArray, List.getElem_cons_zero, List.getElem_cons_succ, Act.put, List.setIfInBounds_toArray, List.set_cons_zero, List.set_cons_succ]
        refine wpX_f _ (.int .i64 (q.1)) rfl rfl (fun X _ => by simp [go_sem]) ?_
        simp only [List.getElem_toArray, List.getElem_cons_zero, List.getElem_cons_succ, Act.put, List.setIfInBounds_toArray, List.set_cons_zero, List.set_cons_succ]
        refine wpX_f _ (.string q.2) rfl rfl (fun X _ => by simp [go_sem]) ?_
        simp only [List.getElem_toArray, List.getElem_cons_zero, List.getElem_cons_succ, Act.put, List.setIfInBounds_toArray, List.set_cons_zero, List.set_cons_succ]
        refine wpX_f _ (.agg #[.int .i64 q.1, .string q.2]) rfl rfl (fun X _ => by simp [go_sem]) ?_
        simp only [List.getElem_toArray, List.getElem_cons_zero, List.getElem_cons_succ, Act.put, List.setIfInBounds_toArray, List.set_cons_zero, List.set_cons_succ]
        refine wpX_f _ (.bool r) rfl rfl (fun X hX => xcmp .neq 90 90 (.tmp 39) (.tmp 42) rfl _ _ rfl rfl (by kernel_rfl) _ (neq90r p q r hr.out _)) ?_
        simp only [List.getElem_toArray, List.getElem_cons_zero, List.getElem_cons_succ, Act.put, List.setIfInBounds_toArray, List.set_cons_zero, List.set_cons_succ]
        refine wpX_f _ (.bool r) rfl rfl (fun X _ => by simp [go_sem]) ?_
        simp only [List.getElem_toArray, List.getElem_cons_zero, List.getElem_cons_succ, Act.put, List.setIfInBounds_toArray, List.set_cons_zero, List.set_cons_succ]
        refine wpX_nil ?_
        change Code.wpIn (Fence.wide.inRound l) _ _ _ _ _ _
        have hI1 := hideit (hI.out.carry (Ext.refl W).draw)
        have hKO : KeepsOthers W W.drew := KeepsOthers.drew W
        have hKc : KpC y151.heap.size W W.drew := kpC_of_ext (Ext.refl W).draw
        clear hI
        cases r with
        | true =>
          refine wpIn_cond_true rfl ?_
          refine wpIn_seq ?_
          refine round_lit (by kernel_rfl) (fun h => by obtain ⟨_, _, h⟩ := h; exact h) ?_
          have e1 := h6.out.drew.1 0 (by decide)
          have e2 := h6.out.drew.2.1 0 (by decide)
          refine wpList_st rfl (W.drew.setCell ⟨c6, 0, none⟩ (.bool false)) (by simp [go_sem, e1, e2]) ?_
          refine wpList_nil ?_
          change Code.wpIn (Fence.wide.inRound l) _ _ _ _ _ _
          refine wpIn_ret ?_
          refine ⟨(hKO.trans (KeepsOthers.setCell _ _ _)).from _, .inr ⟨rfl, fun hpre => ?_⟩⟩
          obtain ⟨rest, hrest⟩ := hpre
          have e3 : L.getD m kd = q := by
            rw [← hrest, hm.out, List.append_assoc, List.getD_eq_getElem?_getD, List.getElem?_append_right (Nat.le_refl _)]
            simp
          rw [hp.out] at e3
          have e4 := hr.out
          rw [e3] at e4
          simp at e4
        | false =>
          refine wpIn_cond_false rfl ?_
          refine wpIn_skip ?_
          change Code.wpIn (Fence.wide.inRound l) _ _ _ _ _ _
          refine wpIn_seq ?_
          have hm1 : IntKind.i64.wrap ((m : Int) + 1) = (m : Int) + 1 := by rw [IntKind.wrap_i64]; omega
          refine round_lit (by kernel_rfl) (fun h => by obtain ⟨_, _, h⟩ := h; exact h) ?_
          have m7 : W.drew.cell? ⟨c81, 0, none⟩ = some (.int .i64 (m : Int)) := h8.out.1 0 (by decide)
          refine xm [some (.int .i64 (m : Int))] (by kernel_rfl) (by simp [xr, go_sem, m7]) ?_
          simp only [xw, p0, p1, p2, p3]
          clear m7
          refine xm [some (.int .i64 ((m : Int) + 1))] (by kernel_rfl) (by simp [xr, go_sem, hm1]) ?_
          simp only [xw, p0, p1, p2, p3]
          have e1 := h8.out.1 0 (by decide)
          have e2 := h8.out.2.1 0 (by decide)
          refine xst rfl (W.drew.setCell ⟨c81, 0, none⟩ (.int .i64 ((m : Int) + 1))) (by simp [go_sem, e1, e2]) ?_
          have hI2 := hideit hI1.out.set8
          have hKO2 := hKO.trans (KeepsOthers.setCell W.drew ⟨c81, 0, none⟩ (.int .i64 ((m : Int) + 1)))
          have hKc2 := kpC_t hKc (kpC_of_but (but_setCell W.drew c81 0 (.int .i64 ((m : Int) + 1))) hc8.out)
          generalize W.drew.setCell ⟨c81, 0, none⟩ (.int .i64 ((m : Int) + 1)) = W2 at hI2 hKO2 hKc2 ⊢
          clear e1 e2 hI1 hKO hKc h4 h5 h6 h7 h8 hx hb
          simp only [Act.put]
          refine wpList_nil ?_
          change Code.wpIn (Fence.wide.inRound l) _ _ _ _ _ _
          refine wpIn_seq ?_
          have h5 := hideit hI2.out.r5
          have h7 := hideit hI2.out.r7
          have h8 := hideit hI2.out.r8
          refine round_lit (by kernel_rfl) (fun h => by obtain ⟨_, _, h⟩ := h; exact h) ?_
          have m8 : W2.cell? ⟨c7a, 0, none⟩ = some (.int .i64 1) := h7.out.1 0 (by decide)
          refine xm [some (.int .i64 1), some (.bool false), some (.bool false), none, none, none, some (.bool false)] (by kernel_rfl) (by simp [xr, go_sem, m8]) ?_
          simp only [xw, p0, p1, p2, p3]
          clear m8
          change Code.wpIn (Fence.wide.inRound l) _ _ _ _ _ _
          refine wpIn_cond_false rfl ?_
          refine wpIn_skip ?_
          refine ⟨hKO2.from _, hKc2, ?_⟩
          show OvI w xb most 1 c4 c5 c6 c7a c81 [D0] (pre ++ [q]).length W2
          rw [List.length_append, List.length_singleton, ← hm.out]
          exact hI2.out
      case do1 =>
        rintro D1 xs W hD hS hI hK
        rw [hS] at hI
        exact hJJ1 D1 L.length W rfl (by rw [hB0]; exact hD) hI hK
      case st1 =>
        rintro D1 c pre W hD hSp hIx hK
        rcases hIx with ⟨rfl, hrd, hmost, hI⟩ | ⟨rfl, hno⟩
        · exact absurd hrd (by decide)
        · exact absurd hSp hno
    clear hK9
    by_cases hml2 : m = L.length
    · have e14 : (m : Int) = (L.length : Int) := by omega
      replace hC := hideit hC.out.drew
      replace Hc4 := hideit Hc4.out.drew
      replace Hc5 := hideit Hc5.out.drew
      replace Hc6 := hideit Hc6.out.drew
      replace Hc7 := hideit Hc7.out.drew
      replace Hc80 := hideit Hc80.out.drew
      replace hMk := hideit (hMk.out.ext (Ext.draw (Ext.refl W)))
      replace hE := hideit (Ext.draw hE.out)
      refine wp_region_lad (fun X => Ext W.drew X) [(false, 0), (false, 1), (false, 2), (false, 3), (false, 4), (false, 5), (false, 6), (false, 7), (false, 8), (false, 9), (false, 10), (false, 11), (false, 12), (false, 13), (false, 14), (false, 15)] (by kernel_rfl) (by kernel_rfl) (by decide +kernel) (by decide +kernel) (by decide +kernel) (by decide +kernel) (Ext.refl _) ?_
      refine wpX_f _ (.int .i64 (m : Int)) rfl rfl (fun X hX => by have m141 : X.cell? ⟨c80, 0, none⟩ = some (.int .i64 (m : Int)) := (Hc80.out.carry hX).1 0 (by decide); simp [go_sem, m141]) ?_
      simp only [List.getElem_toArray, List.getElem_cons_zero, Act.put, List.setIfInBounds_toArray, List.set_cons_zero, List.set_cons_succ]
      refine wpX_f _ (.pointer (some ⟨xb, 0, none⟩)) rfl rfl (fun X hX => by have m142 : X.cell? ⟨c4, 0, none⟩ = some (.pointer (some ⟨xb, 0, none⟩)) := (Hc4.out.carry hX).1 0 (by decide); simp [go_sem, m142]) ?_
      simp only [List.getElem_toArray, List.getElem_cons_zero, List.getElem_cons_succ, Act.put, List.setIfInBounds_toArray, List.set_cons_zero, List.set_cons_succ]
      refine wpX_f _ (.pointer (some ⟨xb, 0, none⟩)) rfl rfl (fun X _ => by simp [go_sem]) ?_
      simp only [List.getElem_toArray, List.getElem_cons_zero, List.getElem_cons_succ, Act.put, List.setIfInBounds_toArray, List.set_cons_zero, List.set_cons_succ]
      refine wpX_f _ (.pointer (some ⟨xb, 0, none⟩)) rfl rfl (fun X _ => by simp [go_sem]) ?_
      simp only [List.getElem_toArray, List.getElem_cons_zero, List.getElem_cons_succ, Act.put, List.setIfInBounds_toArray, List.set_cons_zero, List.set_cons_succ]
      refine wpX_f _ (.slice ov L.length cv) rfl rfl (fun X hX => by have m143 : X.cell? ⟨xb, 0, none⟩ = some (.slice ov L.length cv) := (hC.out.carry hX).1 0 (by decide); simp [go_sem, m143]) ?_
      simp only [List.getElem_toArray, List.getElem_cons_zero, List.getElem_cons_succ, Act.put, List.setIfInBounds_toArray, List.set_cons_zero, List.set_cons_succ]
      refine wpX_f _ (.int .i64 (L.length : Int)) rfl rfl (fun X _ => by simp [go_sem]) ?_
      simp only [List.getElem_toArray, List.getElem_cons_zero, List.getElem_cons_succ, Act.put, List.setIfInBounds_toArray, List.set_cons_zero, List.set_cons_succ]
      refine wpX_f _ (.bool false) rfl rfl (fun X _ => by simp [go_sem, e14]) ?_
      simp only [List.getElem_toArray, List.getElem_cons_zero, List.getElem_cons_succ, Act.put, List.setIfInBounds_toArray, List.set_cons_zero, List.set_cons_succ]
      refine wpX_f _ (.bool false) rfl rfl (fun X _ => by simp [go_sem]) ?_
      simp only [List.getElem_toArray, List.getElem_cons_zero, List.getElem_cons_succ, Act.put, List.setIfInBounds_toArray, List.set_cons_zero, List.set_cons_succ]
      refine wpX_fskip _ rfl rfl ?_
      simp only [List.getElem_toArray, List.getElem_cons_zero, List.getElem_cons_succ, Act.put, List.setIfInBounds_toArray, List.set_cons_zero, List.set_cons_succ]
      refine wpX_fskip _ rfl rfl ?_
      simp only [List.getElem_toArray, List.getElem_cons_zero, List.getElem_cons_succ, Act.put, List.setIfInBounds_toArray, List.set_cons_zero, List.set_cons_succ]
      refine wpX_fskip _ rfl rfl ?_
      simp only [List.getElem_toArray, List.getElem_cons_zero, List.getElem_cons_succ, Act.put, List.setIfInBounds_toArray, List.set_cons_zero, List.set_cons_succ]
      refine wpX_fskip _ rfl rfl ?_
      simp only [List.getElem_toArray, List.getElem_cons_zero, List.getElem_cons_succ, Act.put, List.setIfInBounds_toArray, List.set_cons_zero, List.set_cons_succ]
      refine wpX_fskip _ rfl rfl ?_
      simp only [List.getElem_toArray, List.getElem_cons_zero, List.getElem_cons_succ, Act.put, List.setIfInBounds_toArray, List.set_cons_zero, List.set_cons_succ]
      refine wpX_fskip _ rfl rfl ?_
      simp only [List.getElem_toArray, List.getElem_cons_zero, List.getElem_cons_succ, Act.put, List.setIfInBounds_toArray, List.set_cons_zero, List.set_cons_succ]
      refine wpX_fskip _ rfl rfl ?_
      simp only [List.getElem_toArray, List.getElem_cons_zero, List.getElem_cons_succ, Act.put, List.setIfInBounds_toArray, List.set_cons_zero, List.set_cons_succ]
      refine wpX_f _ (.bool false) rfl rfl (fun X _ => by simp [go_sem]) ?_
      simp only [List.getElem_toArray, List.getElem_cons_zero, List.getElem_cons_succ, Act.put, List.setIfInBounds_toArray, List.set_cons_zero, List.set_cons_succ]
      refine wpX_nil ?_
      exact hJ _ _ _ _ _ _ _ _ _ _ _ _ _ _ _ _ (Ext.refl W).draw
    · have hmost := hm.resolve_left hml2
      have e14 : ¬ (m : Int) = (L.length : Int) := by omega
      replace hC := hideit hC.out.drew
      replace Hc4 := hideit Hc4.out.drew
      replace Hc5 := hideit Hc5.out.drew
      replace Hc6 := hideit Hc6.out.drew
      replace Hc7 := hideit Hc7.out.drew
      replace Hc80 := hideit Hc80.out.drew
      replace hMk := hideit (hMk.out.ext (Ext.draw (Ext.refl W)))
      replace hE := hideit (Ext.draw hE.out)
      refine wp_region_lad (fun X => Ext W.drew X) [(false, 0), (false, 1), (false, 2), (false, 3), (false, 4), (false, 5), (false, 6), (false, 7), (false, 8), (false, 9), (false, 10), (false, 11), (false, 12), (false, 13), (false, 14), (false, 15)] (by kernel_rfl) (by kernel_rfl) (by decide +kernel) (by decide +kernel) (by decide +kernel) (by decide +kernel) (Ext.refl _) ?_
      refine wpX_f _ (.int .i64 (m : Int)) rfl rfl (fun X hX => by have m141 : X.cell? ⟨c80, 0, none⟩ = some (.int .i64 (m : Int)) := (Hc80.out.carry hX).1 0 (by decide); simp [go_sem, m141]) ?_
      simp only [List.getElem_toArray, List.getElem_cons_zero, Act.put, List.setIfInBounds_toArray, List.set_cons_zero, List.set_cons_succ]
      refine wpX_f _ (.pointer (some ⟨xb, 0, none⟩)) rfl rfl (fun X hX => by have m142 : X.cell? ⟨c4, 0, none⟩ = some (.pointer (some ⟨xb, 0, none⟩)) := (Hc4.out.carry hX).1 0 (by decide); simp [go_sem, m142]) ?_
      simp only [List.getElem_toArray, List.getElem_cons_zero, List.getElem_cons_succ, Act.put, List.setIfInBounds_toArray, List.set_cons_zero, List.set_cons_succ]
      refine wpX_f _ (.pointer (some ⟨xb, 0, none⟩)) rfl rfl (fun X _ => by simp [go_sem]) ?_
      simp only [List.getElem_toArray, List.getElem_cons_zero, List.getElem_cons_succ, Act.put, List.setIfInBounds_toArray, List.set_cons_zero, List.set_cons_succ]
      refine wpX_f _ (.pointer (some ⟨xb, 0, none⟩)) rfl rfl (fun X _ => by simp [go_sem]) ?_
      simp only [List.getElem_toArray, List.getElem_cons_zero, List.getElem_cons_succ, Act.put, List.setIfInBounds_toArray, List.set_cons_zero, List.set_cons_succ]
      refine wpX_f _ (.slice ov L.length cv) rfl rfl (fun X hX => by have m143 : X.cell? ⟨xb, 0, none⟩ = some (.slice ov L.length cv) := (hC.out.carry hX).1 0 (by decide); simp [go_sem, m143]) ?_
      simp only [List.getElem_toArray, List.getElem_cons_zero, List.getElem_cons_succ, Act.put, List.setIfInBounds_toArray, List.set_cons_zero, List.set_cons_succ]
      refine wpX_f _ (.int .i64 (L.length : Int)) rfl rfl (fun X _ => by simp [go_sem]) ?_
      simp only [List.getElem_toArray, List.getElem_cons_zero, List.getElem_cons_succ, Act.put, List.setIfInBounds_toArray, List.set_cons_zero, List.set_cons_succ]
      refine wpX_f _ (.bool true) rfl rfl (fun X _ => by simp [go_sem, e14]) ?_
      simp only [List.getElem_toArray, List.getElem_cons_zero, List.getElem_cons_succ, Act.put, List.setIfInBounds_toArray, List.set_cons_zero, List.set_cons_succ]
      refine wpX_f _ (.bool true) rfl rfl (fun X _ => by simp [go_sem]) ?_
      simp only [List.getElem_toArray, List.getElem_cons_zero, List.getElem_cons_succ, Act.put, List.setIfInBounds_toArray, List.set_cons_zero, List.set_cons_succ]
      refine wpX_f _ (.int .i64 0) rfl rfl (fun X hX => by have m144 : X.cell? ⟨c7, 0, none⟩ = some (.int .i64 0) := (Hc7.out.carry hX).1 0 (by decide); simp [go_sem, m144]) ?_
      simp only [List.getElem_toArray, List.getElem_cons_zero, List.getElem_cons_succ, Act.put, List.setIfInBounds_toArray, List.set_cons_zero, List.set_cons_succ]
      refine wpX_f _ (.bool false) rfl rfl (fun X _ => by simp [go_sem]) ?_
      simp only [List.getElem_toArray, List.getElem_cons_zero, List.getElem_cons_succ, Act.put, List.setIfInBounds_toArray, List.set_cons_zero, List.set_cons_succ]
      refine wpX_f _ (.bool false) rfl rfl (fun X _ => by simp [go_sem]) ?_
      simp only [List.getElem_toArray, List.getElem_cons_zero, List.getElem_cons_succ, Act.put, List.setIfInBounds_toArray, List.set_cons_zero, List.set_cons_succ]
      refine wpX_f _ (.int .i64 (m : Int)) rfl rfl (fun X hX => by have m145 : X.cell? ⟨c80, 0, none⟩ = some (.int .i64 (m : Int)) := (Hc80.out.carry hX).1 0 (by decide); simp [go_sem, m145]) ?_
      simp only [List.getElem_toArray, List.getElem_cons_zero, List.getElem_cons_succ, Act.put, List.setIfInBounds_toArray, List.set_cons_zero, List.set_cons_succ]
      refine wpX_f _ (.int .i64 (most)) rfl rfl (fun X hX => by have m146 : X.cell? ⟨c5, 0, none⟩ = some (.int .i64 (most)) := (Hc5.out.carry hX).1 0 (by decide); simp [go_sem, m146]) ?_
      simp only [List.getElem_toArray, List.getElem_cons_zero, List.getElem_cons_succ, Act.put, List.setIfInBounds_toArray, List.set_cons_zero, List.set_cons_succ]
      refine wpX_f _ (.bool false) rfl rfl (fun X _ => by simp [go_sem, hmost]) ?_
      simp only [List.getElem_toArray, List.getElem_cons_zero, List.getElem_cons_succ, Act.put, List.setIfInBounds_toArray, List.set_cons_zero, List.set_cons_succ]
      refine wpX_f _ (.bool false) rfl rfl (fun X _ => by simp [go_sem]) ?_
      simp only [List.getElem_toArray, List.getElem_cons_zero, List.getElem_cons_succ, Act.put, List.setIfInBounds_toArray, List.set_cons_zero, List.set_cons_succ]
      refine wpX_f _ (.bool false) rfl rfl (fun X _ => by simp [go_sem]) ?_
      simp only [List.getElem_toArray, List.getElem_cons_zero, List.getElem_cons_succ, Act.put, List.setIfInBounds_toArray, List.set_cons_zero, List.set_cons_succ]
      refine wpX_nil ?_
      exact hJ _ _ _ _ _ _ _ _ _ _ _ _ _ _ _ _ (Ext.refl W).draw
  clear hK0
  refine (wpIn_wide (n := 4)).1 ?_
  refine wpIn_rangeFunc_ownG (F := Fence.wide) (n := 4) rfl (by decide) (gf := 48) (lb := #[.pointer (some ⟨bb0, 0, none⟩)]) rfl trivial (enters_of Try.func48 (by kernel_rfl) rfl)
    (all_stops 3 (by decide) (B := y11.heap.size) hSo hle hbx (Nat.le_refl _)) kpC_t (fun W l o o' _ h hc _ => kpC_b W l o o' h hc) (Below.refl _ _) (fun _ => rfl)
    (fun pre W => OvI w xb most 0 c4 c5 c6 c7 c80 [] pre.length W)
    (fun c pre W => (c = .exit 2 ∧ (0 : Int) = 0 ∧ (pre.length : Int) = most ∧ OvI w xb most 0 c4 c5 c6 c7 c80 [] pre.length W) ∨ (c = .ret ∧ ¬ pre <+: L))
    (fun s A B row hs hg hr => hs.own hDB hBw hg hr)
    (fun c s A B row hs hg hr => hs.imp (fun ⟨a, b, c, d⟩ => ⟨a, b, c, d.own hDB hBw hg hr⟩) id)
    hI0.out
    (fun q => { tmps := #[.pointer (some ⟨sb, 0, none⟩), .pointer (some ⟨xb, 0, none⟩), .int .i64 (most), undef, .pointer (some ⟨c4, 0, none⟩), .pointer (some ⟨c5, 0, none⟩), .pointer (some ⟨c6, 0, none⟩), .pointer (some ⟨c7, 0, none⟩), .pointer (some ⟨c80, 0, none⟩), .int .i64 q.1, .string q.2, undef, undef, undef, .int .i64 0, .bool true, undef, undef, .pointer (some ⟨sb, 0, none⟩), .func (.func 48) #[] #[.pointer (some ⟨ba0, 0, none⟩)], .bool false, .pointer (some ⟨sb, 0, none⟩), .func (.func 48) #[] #[.pointer (some ⟨bb0, 0, none⟩)], .int .i64 q.1, .string q.2, undef, undef, undef, undef, undef, undef, undef, undef, undef, undef, undef, undef, undef, undef, undef, undef, undef, undef, undef, undef, undef, undef, undef, undef, undef, undef, undef, undef, undef, undef, undef, undef, undef, undef, undef, undef, undef, undef, undef, undef, undef, undef, undef, undef, undef, undef, undef, undef, undef, undef, undef, undef, undef, undef, undef, undef, undef, undef, undef, undef, undef, undef, undef, undef, undef, undef, undef, undef, undef, undef, undef, undef, undef, undef], defers := [] }) ?as0 ?bo0 ?do0 ?st0
  case as0 =>
    intro l x W K hK
    gi_wp2
    exact hK
  case bo0 =>
    rintro l pre q W hI hlen
    obtain ⟨m, hm⟩ : ∃ m, m = pre.length := ⟨_, rfl⟩
    rw [← hm] at hI hlen
    obtain ⟨b, hov, hbx2, hb⟩ := hbb.out (by omega)
    obtain ⟨p, hp⟩ : ∃ p, L.getD m kd = p := ⟨_, rfl⟩
    obtain ⟨r, hr⟩ : ∃ r, r = !(decide (p.1 = q.1) && decide (p.2.toList = q.2.toList)) := ⟨_, rfl⟩
    have hc8 : c80 < y11.heap.size := hI0.out.r8.2.2
    have h4 := hideit hI.r4
    have h5 := hideit hI.r5
    have h6 := hideit hI.r6
    have h7 := hideit hI.r7
    have h8 := hideit hI.r8
    have hx := hideit (hC0.out.carry hI.ext)
    replace hb := hideit (hb.carry hI.ext)
    replace hI := hideit hI
    replace hp := hideit hp
    replace hr := hideit hr
    replace hm := hideit hm
    replace hc8 := hideit hc8
    clear hI0 hDB hBw hSo hbx hE hbx2 hJJ0
    have i1 : ¬ (L.length : Int) ≤ (m : Int) := by omega
    have i2 : (m : Int) < (L.length : Int) := by omega
    refine wpIn_block ?_
    refine wpIn_seq ?_
    refine wpIn_seq ?_
    replace h4 := hideit h4.out.drew
    replace h5 := hideit h5.out.drew
    replace h7 := hideit h7.out.drew
    replace h8 := hideit h8.out.drew
    replace hx := hideit hx.out.drew
    refine round_lad (by kernel_rfl) (fun h => by obtain ⟨_, _, h⟩ := h; exact h) (by kernel_rfl) ?_
    refine wpAny_lad (fun X => Ext W.drew X) [(false, 0), (false, 1), (false, 2), (false, 3), (false, 4), (false, 5), (false, 6), (false, 7), (false, 8), (false, 9), (false, 10), (false, 11), (false, 12), (false, 13), (false, 14), (false, 15), (false, 16), (false, 17), (false, 18), (false, 19)] (by kernel_rfl) (by decide +kernel) (by decide +kernel) (by decide +kernel) (by decide +kernel) (Ext.refl _) ?_
    refine wpX_f _ (.int .i64 (m : Int)) rfl rfl (fun X hX => by have m1 : X.cell? ⟨c80, 0, none⟩ = some (.int .i64 (m : Int)) := (h8.out.carry hX).1 0 (by decide); simp [go_sem, m1]) ?_
    simp only [List.getElem_toArray, List.getElem_cons_zero, Act.put, List.setIfInBounds_toArray, List.set_cons_zero, List.set_cons_succ]
    refine wpX_f _ (.pointer (some ⟨xb, 0, none⟩)) rfl rfl (fun X hX => by have m2 : X.cell? ⟨c4, 0, none⟩ = some (.pointer (some ⟨xb, 0, none⟩)) := (h4.out.carry hX).1 0 (by decide); simp [go_sem, m2]) ?_
    simp only [List.getElem_toArray, List.getElem_cons_zero, List.getElem_cons_succ, Act.put, List.setIfInBounds_toArray, List.set_cons_zero, List.set_cons_succ]
    refine wpX_f _ (.pointer (some ⟨xb, 0, none⟩)) rfl rfl (fun X _ => by simp [go_sem]) ?_
    simp only [List.getElem_toArray, List.getElem_cons_zero, List.getElem_cons_succ, Act.put, List.setIfInBounds_toArray, List.set_cons_zero, List.set_cons_succ]
    refine wpX_f _ (.pointer (some ⟨xb, 0, none⟩)) rfl rfl (fun X _ => by simp [go_sem]) ?_
    simp only [List.getElem_toArray, List.getElem_cons_zero, List.getElem_cons_succ, Act.put, List.setIfInBounds_toArray, List.set_cons_zero, List.set_cons_succ]
    refine wpX_f _ (.slice ov L.length cv) rfl rfl (fun X hX => by have m3 : X.cell? ⟨xb, 0, none⟩ = some (.slice ov L.length cv) := (hx.out.carry hX).1 0 (by decide); simp [go_sem, m3]) ?_
    simp only [List.getElem_toArray, List.getElem_cons_zero, List.getElem_cons_succ, Act.put, List.setIfInBounds_toArray, List.set_cons_zero, List.set_cons_succ]
    refine wpX_f _ (.int .i64 (L.length : Int)) rfl rfl (fun X _ => by simp [go_sem]) ?_
    simp only [List.getElem_toArray, List.getElem_cons_zero, List.getElem_cons_succ, Act.put, List.setIfInBounds_toArray, List.set_cons_zero, List.set_cons_succ]
    refine wpX_f _ (.bool false) rfl rfl (fun X _ => by simp [go_sem, hlen]) ?_
    simp only [List.getElem_toArray, List.getElem_cons_zero, List.getElem_cons_succ, Act.put, List.setIfInBounds_toArray, List.set_cons_zero, List.set_cons_succ]
    refine wpX_f _ (.bool false) rfl rfl (fun X _ => by simp [go_sem]) ?_
    simp only [List.getElem_toArray, List.getElem_cons_zero, List.getElem_cons_succ, Act.put, List.setIfInBounds_toArray, List.set_cons_zero, List.set_cons_succ]
    refine wpX_f _ (.pointer (some ⟨xb, 0, none⟩)) rfl rfl (fun X hX => by have m4 : X.cell? ⟨c4, 0, none⟩ = some (.pointer (some ⟨xb, 0, none⟩)) := (h4.out.carry hX).1 0 (by decide); simp [go_sem, m4]) ?_
    simp only [List.getElem_toArray, List.getElem_cons_zero, List.getElem_cons_succ, Act.put, List.setIfInBounds_toArray, List.set_cons_zero, List.set_cons_succ]
    refine wpX_f _ (.pointer (some ⟨xb, 0, none⟩)) rfl rfl (fun X _ => by simp [go_sem]) ?_
    simp only [List.getElem_toArray, List.getElem_cons_zero, List.getElem_cons_succ, Act.put, List.setIfInBounds_toArray, List.set_cons_zero, List.set_cons_succ]
    refine wpX_f _ (.pointer (some ⟨xb, 0, none⟩)) rfl rfl (fun X _ => by simp [go_sem]) ?_
    simp only [List.getElem_toArray, List.getElem_cons_zero, List.getElem_cons_succ, Act.put, List.setIfInBounds_toArray, List.set_cons_zero, List.set_cons_succ]
    refine wpX_f _ (.slice ov L.length cv) rfl rfl (fun X hX => by have m5 : X.cell? ⟨xb, 0, none⟩ = some (.slice ov L.length cv) := (hx.out.carry hX).1 0 (by decide); simp [go_sem, m5]) ?_
    simp only [List.getElem_toArray, List.getElem_cons_zero, List.getElem_cons_succ, Act.put, List.setIfInBounds_toArray, List.set_cons_zero, List.set_cons_succ]
    refine wpX_f _ (.int .i64 (m : Int)) rfl rfl (fun X hX => by have m6 : X.cell? ⟨c80, 0, none⟩ = some (.int .i64 (m : Int)) := (h8.out.carry hX).1 0 (by decide); simp [go_sem, m6]) ?_
    simp only [List.getElem_toArray, List.getElem_cons_zero, List.getElem_cons_succ, Act.put, List.setIfInBounds_toArray, List.set_cons_zero, List.set_cons_succ]
    refine wpX_f _ (.pointer (some ⟨b, m * 2, none⟩)) rfl rfl (fun X _ => by simp [go_sem, i2, hov]) ?_
    simp only [List.getElem_toArray, List.getElem_cons_zero, List.getElem_cons_succ, Act.put, List.setIfInBounds_toArray, List.set_cons_zero, List.set_cons_succ]
    refine wpX_f _ (.agg (row 2 (pV [p])).toArray) rfl rfl (fun X hX => xload 90 (.tmp 38) rfl b (m * 2) 2 (pV [p]) rfl ((hb.out.drew.carry hX).sub (m * 2) 2 (by omega) (pV [p]) (fun j hj => by rw [pV_at L hj, hp.out])) Try.underlying90 rfl inf90) ?_
    simp only [List.getElem_toArray, List.getElem_cons_zero, List.getElem_cons_succ, Act.put, List.setIfInBounds_toArray, List.set_cons_zero, List.set_cons_succ]
    refine wpX_f _ (.int .i64 (q.1)) rfl rfl (fun X _ => by simp [go_sem]) ?_
    simp only [List.getElem_toArray, List.getElem_cons_zero, List.getElem_cons_succ, Act.put, List.setIfInBounds_toArray, List.set_cons_zero, List.set_cons_succ]
    refine wpX_f _ (.string q.2) rfl rfl (fun X _ => by simp [go_sem]) ?_
    simp only [List.getElem_toArray, List.getElem_cons_zero, List.getElem_cons_succ, Act.put, List.setIfInBounds_toArray, List.set_cons_zero, List.set_cons_succ]
    refine wpX_f _ (.agg #[.int .i64 q.1, .string q.2]) rfl rfl (fun X _ => by simp [go_sem]) ?_
    simp only [List.getElem_toArray, List.getElem_cons_zero, List.getElem_cons_succ, Act.put, List.setIfInBounds_toArray, List.set_cons_zero, List.set_cons_succ]
    refine wpX_f _ (.bool r) rfl rfl (fun X hX => xcmp .neq 90 90 (.tmp 39) (.tmp 42) rfl _ _ rfl rfl (by kernel_rfl) _ (neq90r p q r hr.out _)) ?_
    simp only [List.getElem_toArray, List.getElem_cons_zero, List.getElem_cons_succ, Act.put, List.setIfInBounds_toArray, List.set_cons_zero, List.set_cons_succ]
    refine wpX_f _ (.bool r) rfl rfl (fun X _ => by simp [go_sem]) ?_
    simp only [List.getElem_toArray, List.getElem_cons_zero, List.getElem_cons_succ, Act.put, List.setIfInBounds_toArray, List.set_cons_zero, List.set_cons_succ]
    refine wpX_nil ?_
    change Code.wpIn (Fence.wide.inRound l) _ _ _ _ _ _
    have hI1 := hideit (hI.out.carry (Ext.refl W).draw)
    have hKO : KeepsOthers W W.drew := KeepsOthers.drew W
    have hKc : KpC y11.heap.size W W.drew := kpC_of_ext (Ext.refl W).draw
    clear hI
    cases r with
    | true =>
      refine wpIn_cond_true rfl ?_
      refine wpIn_seq ?_
      refine round_lit (by kernel_rfl) (fun h => by obtain ⟨_, _, h⟩ := h; exact h) ?_
      have e1 := h6.out.drew.1 0 (by decide)
      have e2 := h6.out.drew.2.1 0 (by decide)
      refine wpList_st rfl (W.drew.setCell ⟨c6, 0, none⟩ (.bool false)) (by simp [go_sem, e1, e2]) ?_
      refine wpList_nil ?_
      change Code.wpIn (Fence.wide.inRound l) _ _ _ _ _ _
      refine wpIn_ret ?_
      refine ⟨(hKO.trans (KeepsOthers.setCell _ _ _)).from _, .inr ⟨rfl, fun hpre => ?_⟩⟩
      obtain ⟨rest, hrest⟩ := hpre
      have e3 : L.getD m kd = q := by
        rw [← hrest, hm.out, List.append_assoc, List.getD_eq_getElem?_getD, List.getElem?_append_right (Nat.le_refl _)]
        simp
      rw [hp.out] at e3
      have e4 := hr.out
      rw [e3] at e4
      simp at e4
    | false =>
      refine wpIn_cond_false rfl ?_
      refine wpIn_skip ?_
      change Code.wpIn (Fence.wide.inRound l) _ _ _ _ _ _
      refine wpIn_seq ?_
      have hm1 : IntKind.i64.wrap ((m : Int) + 1) = (m : Int) + 1 := by rw [IntKind.wrap_i64]; omega
      refine round_lit (by kernel_rfl) (fun h => by obtain ⟨_, _, h⟩ := h; exact h) ?_
      have m7 : W.drew.cell? ⟨c80, 0, none⟩ = some (.int .i64 (m : Int)) := h8.out.1 0 (by decide)
      refine xm [some (.int .i64 (m : Int))] (by kernel_rfl) (by simp [xr, go_sem, m7]) ?_
      simp only [xw, p0, p1, p2, p3]
      clear m7
      refine xm [some (.int .i64 ((m : Int) + 1))] (by kernel_rfl) (by simp [xr, go_sem, hm1]) ?_
      simp only [xw, p0, p1, p2, p3]
      have e1 := h8.out.1 0 (by decide)
      have e2 := h8.out.2.1 0 (by decide)
      refine xst rfl (W.drew.setCell ⟨c80, 0, none⟩ (.int .i64 ((m : Int) + 1))) (by simp [go_sem, e1, e2]) ?_
      have hI2 := hideit hI1.out.set8
      have hKO2 := hKO.trans (KeepsOthers.setCell W.drew ⟨c80, 0, none⟩ (.int .i64 ((m : Int) + 1)))
      have hKc2 := kpC_t hKc (kpC_of_but (but_setCell W.drew c80 0 (.int .i64 ((m : Int) + 1))) hc8.out)
      generalize W.drew.setCell ⟨c80, 0, none⟩ (.int .i64 ((m : Int) + 1)) = W2 at hI2 hKO2 hKc2 ⊢
      clear e1 e2 hI1 hKO hKc h4 h5 h6 h7 h8 hx hb
      simp only [Act.put]
      refine wpList_nil ?_
      change Code.wpIn (Fence.wide.inRound l) _ _ _ _ _ _
      refine wpIn_seq ?_
      have h5 := hideit hI2.out.r5
      have h7 := hideit hI2.out.r7
      have h8 := hideit hI2.out.r8
      by_cases hq : ((m + 1 : Nat) : Int) = most
      · have hq2 : (m : Int) + 1 = most := by omega
        refine round_lit (by kernel_rfl) (fun h => by obtain ⟨_, _, h⟩ := h; exact h) ?_
        have m8 : W2.cell? ⟨c7, 0, none⟩ = some (.int .i64 0) := h7.out.1 0 (by decide)
        have m9 : W2.cell? ⟨c80, 0, none⟩ = some (.int .i64 ((m + 1 : Nat) : Int)) := h8.out.1 0 (by decide)
        have m10 : W2.cell? ⟨c5, 0, none⟩ = some (.int .i64 (most)) := h5.out.1 0 (by decide)
        refine xm [some (.int .i64 0), some (.bool true), some (.bool true), some (.int .i64 ((m + 1 : Nat) : Int)), some (.int .i64 (most)), some (.bool true), some (.bool true)] (by kernel_rfl) (by simp [xr, go_sem, m8, m9, m10, hq2]) ?_
        simp only [xw, p0, p1, p2, p3]
        clear m8
        clear m9
        clear m10
        change Code.wpIn (Fence.wide.inRound l) _ _ _ _ _ _
        refine wpIn_cond_true rfl ?_
        refine wpIn_exit ?_
        refine ⟨hKO2.from _, .inl ⟨by simp, by simp, ?_, ?_⟩⟩
        · rw [List.length_append, List.length_singleton, ← hm.out]
          exact hq
        · rw [List.length_append, List.length_singleton, ← hm.out]
          exact hI2.out
      · have hq2 : ¬ (m : Int) + 1 = most := by omega
        refine round_lit (by kernel_rfl) (fun h => by obtain ⟨_, _, h⟩ := h; exact h) ?_
        have m8 : W2.cell? ⟨c7, 0, none⟩ = some (.int .i64 0) := h7.out.1 0 (by decide)
        have m9 : W2.cell? ⟨c80, 0, none⟩ = some (.int .i64 ((m + 1 : Nat) : Int)) := h8.out.1 0 (by decide)
        have m10 : W2.cell? ⟨c5, 0, none⟩ = some (.int .i64 (most)) := h5.out.1 0 (by decide)
        refine xm [some (.int .i64 0), some (.bool true), some (.bool true), some (.int .i64 ((m + 1 : Nat) : Int)), some (.int .i64 (most)), some (.bool false), some (.bool false)] (by kernel_rfl) (by simp [xr, go_sem, m8, m9, m10, hq2]) ?_
        simp only [xw, p0, p1, p2, p3]
        clear m8
        clear m9
        clear m10
        change Code.wpIn (Fence.wide.inRound l) _ _ _ _ _ _
        refine wpIn_cond_false rfl ?_
        refine wpIn_skip ?_
        refine ⟨hKO2.from _, hKc2, ?_⟩
        show OvI w xb most 0 c4 c5 c6 c7 c80 [] (pre ++ [q]).length W2
        rw [List.length_append, List.length_singleton, ← hm.out]
        exact hI2.out
  case do0 =>
    rintro D0 xs W hD hS hI hK
    rw [hS] at hI
    exact hJJ0 D0 L.length W (.inl rfl) (by rw [hB0]; exact hD) hI hK
  case st0 =>
    rintro D0 c pre W hD hSp hIx hK
    rcases hIx with ⟨rfl, hrd, hmost, hI⟩ | ⟨rfl, hno⟩
    · refine wpIn_wide.2 ?_
      have hfin := hideit (hJJ0 D0 pre.length W (.inr hmost) (by rw [hB0]; exact hD) hI hK)
      clear hJJ0
      go_wp2
      exact hfin.out
    · exact absurd hSp hno
end Go.Proofs.Ytboncdlihgpepaa
