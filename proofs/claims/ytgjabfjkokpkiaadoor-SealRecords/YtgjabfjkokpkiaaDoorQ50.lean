/-
  What bytes say of a root. A root's block, there and back.
-/
import Derived.Test.YtgjabfjkokpkiaaDoorQ1
import Derived.Test.YtgjabfjkokpkiaaDoorQ49
import Derived.Test.YtgjabfjkokpkiaaDoorQ14
namespace Go.Proofs.YtgjabfjkokpkiaaDoor
open Go.RowKit Go.BigFrame
set_option linter.unusedVariables false
set_option maxRecDepth 20000
theorem build39 (w : World) : (Instr.build 39 #[]).run Tryd.prog w = .ok (.agg (row 35 (rtV 0#64 false 0 fun _ => 0#8)).toArray) w := by kernel_rfl
def isRt (K : Nat → BitVec 8) (h : Hd) (l : Nat) (f : Nat → BitVec 8) (g : BitVec 64) (b : Bool) (s : Nat) (H : Nat → BitVec 8) : Prop := mbB h b (s : Int) = true ∧ l = 512 ∧ ∀ j, j < 512 → f j = rkF K h g b s H j
def RrQ (K : Nat → BitVec 8) (h : Hd) (l : Nat) (f : Nat → BitVec 8) (w : World) (e : Ending) (w' : World) : Prop := ∃ g b s H, s < 4294967296 ∧ RtOf l f g b s H ∧ ((isRt K h l f g b s H ∧ e = .returned (.tuple #[.agg (row 35 (rtV g b ((s : Nat) : Int) H)).toArray, .int .i64 0])) ∨ (¬ isRt K h l f g b s H ∧ e = .returned (.tuple #[.agg (row 35 (rtV 0#64 false 0 fun _ => 0#8)).toArray, .int .i64 160]))) ∧ Ext w w'
set_option maxRecDepth 20000 in
set_option maxHeartbeats 4000000 in
theorem rr_any (K : Nat → BitVec 8) (h : Hd) (v : Value) (l : Nat) (f : Nat → BitVec 8) (w : World) (hV : BV v l f w) (hC : TabC w) (hl : l ≤ 140737488351232) (hk : okH h) : Calls Tryd.prog 14 #[.agg (row 32 (yv K)).toArray, .agg (row 24 (hdv h)).toArray, v] w fun e w' => RrQ K h l f w e w' := by
  have hE := hideit (Ext.refl w)
  go_enter Tryd.func14, Tryd.ntmps14
  go_upto_region 0 with (fail)
  refine wp_region_lit ?_
  have A0 := hideit (RowAt.new w 32 (yv K) 31)
  have XB : Ext w (w.alloc (.cells (row 32 (yv K)).toArray 31)) := (Below.refl _ _).alloc (Nat.le_refl _) _
  have AE := hideit (Ext.trans hE.out (XB))
  have AB := hideit (hE.out.size)
  clear XB
  refine wpList_to rfl (.pointer (some ⟨w.heap.size, 0, none⟩)) (w.alloc (.cells (row 32 (yv K)).toArray 31)) (by simp [go_sem]) ?_
  simp only [zp0, zp1, zp2, zp3]
  generalize w.alloc (.cells (row 32 (yv K)).toArray 31) = x1 at A0 AE ⊢
  obtain ⟨c3, ec3⟩ : ∃ b, b = w.heap.size := ⟨_, rfl⟩
  have ABc3 : Hid (w.heap.size ≤ c3) := by rw [ec3]; exact AB.out
  clear AB
  rw [← ec3] at A0  ⊢
  clear ec3
  have Hc3 := A0
  clear A0
  replace hE := AE
  clear AE
  have A0 := hideit (RowAt.new x1 24 (hdv h) 37)
  have XB : Ext x1 (x1.alloc (.cells (row 24 (hdv h)).toArray 37)) := (Below.refl _ _).alloc (Nat.le_refl _) _
  have A1 := hideit (Hc3.out.carry XB)
  have AE := hideit (Ext.trans hE.out (XB))
  have AB := hideit (hE.out.size)
  have D0 : Hid (c3 ≠ x1.heap.size) := Nat.ne_of_lt Hc3.out.2.2
  clear XB
  refine wpList_to rfl (.pointer (some ⟨x1.heap.size, 0, none⟩)) (x1.alloc (.cells (row 24 (hdv h)).toArray 37)) (by simp [go_sem]) ?_
  simp only [zp0, zp1, zp2, zp3]
  generalize x1.alloc (.cells (row 24 (hdv h)).toArray 37) = x2 at A0 A1 AE ⊢
  obtain ⟨c4, ec4⟩ : ∃ b, b = x1.heap.size := ⟨_, rfl⟩
  have ABc4 : Hid (w.heap.size ≤ c4) := by rw [ec4]; exact AB.out
  clear AB
  rw [← ec4] at A0 D0 ⊢
  clear ec4
  have Hc4 := A0
  clear A0
  replace Hc3 := A1
  clear A1
  replace hE := AE
  clear AE
  have Dc4_0 := D0
  clear D0
  have A0 := hideit (RowAt.new x2 35 (rtV 0#64 false 0 (fun _ => 0#8)) 39)
  have A1 := hideit (Hc3.out.alloc (.cells (row 35 (rtV 0#64 false 0 (fun _ => 0#8))).toArray 39))
  have A2 := hideit (Hc4.out.alloc (.cells (row 35 (rtV 0#64 false 0 (fun _ => 0#8))).toArray 39))
  have AE := hideit (Below.alloc hE.out (Below.size hE.out) (.cells (row 35 (rtV 0#64 false 0 (fun _ => 0#8))).toArray 39))
  have AB := hideit (Below.size hE.out)
  have D0 : Hid (c3 ≠ x2.heap.size) := Nat.ne_of_lt Hc3.out.2.2
  have D1 : Hid (c4 ≠ x2.heap.size) := Nat.ne_of_lt Hc4.out.2.2
  refine wpList_to rfl (.pointer (some ⟨x2.heap.size, 0, none⟩)) (x2.alloc (.cells (row 35 (rtV 0#64 false 0 (fun _ => 0#8))).toArray 39)) (xalloc 39 (row 35 (rtV 0#64 false 0 (fun _ => 0#8))).toArray rfl (zero39 x2)) ?_
  simp only [zp0, zp1, zp2, zp3]
  generalize x2.alloc (.cells (row 35 (rtV 0#64 false 0 (fun _ => 0#8))).toArray 39) = x4 at A0 A1 A2 AE ⊢
  obtain ⟨z3, ez3⟩ : ∃ b, b = x2.heap.size := ⟨_, rfl⟩
  rw [← ez3] at A0 D0 D1 AB ⊢
  clear ez3
  have Hz3 := A0
  clear A0
  replace Hc3 := A1
  clear A1
  replace Hc4 := A2
  clear A2
  replace hE := AE
  clear AE
  have ABz3 := AB
  clear AB
  have Dz3_0 := D0
  clear D0
  have Dz3_1 := D1
  clear D1
  refine xm [some (.int .i64 0)] (by kernel_rfl) (by simp [xr, go_sem]) ?_
  simp only [xw, p0, p1, p2, p3]
  go_upto_region 1 with (fail)
  refine wp_region_lit ?_
  refine wpList_run rfl (.agg (row 24 (hdv h)).toArray) (xload 37 (.tmp 4) rfl c4 0 24 _ rfl Hc4.out.range Tryd.underlying37 rfl inf37) ?_
  simp only [zp0, zp1, zp2, zp3]
  refine wpList_call rfl (by simp [go_sem]) ((check_ok h x4 hk).mono ?_)
  rintro e y2 ⟨rfl, hX2⟩
  refine ⟨_, rfl, ?_⟩
  simp only [zp0, zp1, zp2, zp3]
  replace Hc3 := hideit (Hc3.out.carry hX2)
  replace Hc4 := hideit (Hc4.out.carry hX2)
  replace Hz3 := hideit (Hz3.out.carry hX2)
  replace hE := hideit (Ext.trans hE.out (hX2))
  clear hX2
  refine xm [some (.bool false)] (by kernel_rfl) (by simp [xr, go_sem]) ?_
  simp only [xw, p0, p1, p2, p3]
  go_upto_region 3 with (fail)
  refine wp_region_lit ?_
  refine xm [some (v)] (by kernel_rfl) (by simp [xr, go_sem]) ?_
  simp only [xw, p0, p1, p2, p3]
  refine wpList_call rfl (by simp [go_sem]) ((rof35_any v l f y2 (hV.ext hE.out) (by omega)).mono ?_)
  rintro e y3 ⟨g, b, s, H, rfl, hs, hRt, hX3⟩
  refine ⟨_, rfl, ?_⟩
  simp only [zp0, zp1, zp2, zp3]
  replace Hc3 := hideit (Hc3.out.carry hX3)
  replace Hc4 := hideit (Hc4.out.carry hX3)
  replace Hz3 := hideit (Hz3.out.carry hX3)
  replace hE := hideit (Ext.trans hE.out (hX3))
  clear hX3
  have A0 := hideit (RowAt.new y3 35 (rtV 0#64 false 0 (fun _ => 0#8)) 39)
  have A1 := hideit (Hc3.out.alloc (.cells (row 35 (rtV 0#64 false 0 (fun _ => 0#8))).toArray 39))
  have A2 := hideit (Hc4.out.alloc (.cells (row 35 (rtV 0#64 false 0 (fun _ => 0#8))).toArray 39))
  have A3 := hideit (Hz3.out.alloc (.cells (row 35 (rtV 0#64 false 0 (fun _ => 0#8))).toArray 39))
  have AE := hideit (Below.alloc hE.out (Below.size hE.out) (.cells (row 35 (rtV 0#64 false 0 (fun _ => 0#8))).toArray 39))
  have AB := hideit (Below.size hE.out)
  have D0 : Hid (c3 ≠ y3.heap.size) := Nat.ne_of_lt Hc3.out.2.2
  have D1 : Hid (c4 ≠ y3.heap.size) := Nat.ne_of_lt Hc4.out.2.2
  have D2 : Hid (z3 ≠ y3.heap.size) := Nat.ne_of_lt Hz3.out.2.2
  refine wpList_to rfl (.pointer (some ⟨y3.heap.size, 0, none⟩)) (y3.alloc (.cells (row 35 (rtV 0#64 false 0 (fun _ => 0#8))).toArray 39)) (xalloc 39 (row 35 (rtV 0#64 false 0 (fun _ => 0#8))).toArray rfl (zero39 y3)) ?_
  simp only [zp0, zp1, zp2, zp3]
  generalize y3.alloc (.cells (row 35 (rtV 0#64 false 0 (fun _ => 0#8))).toArray 39) = x6 at A0 A1 A2 A3 AE ⊢
  obtain ⟨z5, ez5⟩ : ∃ b, b = y3.heap.size := ⟨_, rfl⟩
  rw [← ez5] at A0 D0 D1 D2 AB ⊢
  clear ez5
  have Hz5 := A0
  clear A0
  replace Hc3 := A1
  clear A1
  replace Hc4 := A2
  clear A2
  replace Hz3 := A3
  clear A3
  replace hE := AE
  clear AE
  have ABz5 := AB
  clear AB
  have Dz5_0 := D0
  clear D0
  have Dz5_1 := D1
  clear D1
  have Dz5_2 := D2
  clear D2
  have N0 := hideit (Hz5.out.cells (g' := rtV g b (s : Int) H))
  have N1 := hideit (Hc3.out.cellsOther (Ne.symm (Dz5_0.out)) (row 35 (rtV g b (s : Int) H)) 0)
  have N2 := hideit (Hc4.out.cellsOther (Ne.symm (Dz5_1.out)) (row 35 (rtV g b (s : Int) H)) 0)
  have N3 := hideit (Hz3.out.cellsOther (Ne.symm (Dz5_2.out)) (row 35 (rtV g b (s : Int) H)) 0)
  have NE := hideit (below_setCells z5 (ABz5.out) (row 35 (rtV g b (s : Int) H)) 0 _ hE.out)
  refine xst rfl (x6.setCells z5 0 (row 35 (rtV g b (s : Int) H))) (xstore 39 (.tmp 8) (.tmp 16) rfl z5 35 _ (rtV g b (s : Int) H) rfl rfl Hz5.out inf39 (fun j _ => rt_one _ _ _ _ j)) ?_
  simp only [Act.put]
  generalize x6.setCells z5 0 (row 35 (rtV g b (s : Int) H)) = x7 at N0 N1 N2 N3 NE ⊢
  replace Hz5 := N0
  replace Hc3 := N1
  replace Hc4 := N2
  replace Hz3 := N3
  replace hE := NE
  clear N0 N1 N2 N3 NE
  by_cases hm : mbB h b (s : Int) = true
  · by_cases hq : l = 512 ∧ ∀ j, j < 512 → f j = rkF K h g b s H j
    · have hr : true = true ↔ l = 512 ∧ ∀ j, j < l → f j = rkF K h g b s H j := ⟨fun _ => ⟨hq.1, fun j hj => hq.2 j (by rw [← hq.1]; exact hj)⟩, fun _ => rfl⟩
      replace hq := hideit hq
      go_upto_region 4 with (fail)
      refine wp_region_lit ?_
      refine wpList_run rfl (.agg (row 32 (yv K)).toArray) (xload 31 (.tmp 3) rfl c3 0 32 _ rfl Hc3.out.range Tryd.underlying31 rfl inf31) ?_
      simp only [zp0, zp1, zp2, zp3]
      refine wpList_run rfl (.agg (row 24 (hdv h)).toArray) (xload 37 (.tmp 4) rfl c4 0 24 _ rfl Hc4.out.range Tryd.underlying37 rfl inf37) ?_
      simp only [zp0, zp1, zp2, zp3]
      refine wpList_run rfl (.agg (row 35 (rtV g b (s : Int) H)).toArray) (xload 39 (.tmp 8) rfl z5 0 35 _ rfl Hz5.out.range Tryd.underlying39 rfl inf39) ?_
      simp only [zp0, zp1, zp2, zp3]
      refine wpList_call rfl (by simp [go_sem]) ((rb12_ok K h g b s H x7 (hC.ext hE.out) hk hm hs).mono ?_)
      rintro e y4 ⟨z, rfl, _, hRz, hX4⟩
      refine ⟨_, rfl, ?_⟩
      simp only [zp0, zp1, zp2, zp3]
      replace Hc3 := hideit (Hc3.out.carry hX4)
      replace Hc4 := hideit (Hc4.out.carry hX4)
      replace Hz3 := hideit (Hz3.out.carry hX4)
      replace Hz5 := hideit (Hz5.out.carry hX4)
      replace hE := hideit (Ext.trans hE.out (hX4))
      clear hX4
      refine xm [some (.tuple #[.slice (some ⟨z, 0, none⟩) 512 512, .int .i64 0]), some (.slice (some ⟨z, 0, none⟩) 512 512), some (.int .i64 0), some (.slice (some ⟨z, 0, none⟩) 512 512), some (.int .i64 0)] (by kernel_rfl) (by simp [xr, go_sem]) ?_
      simp only [xw, p0, p1, p2, p3]
      go_upto_region 5 with (fail)
      refine wp_region_lit ?_
      refine xm [some (.int .i64 0), some (.bool false), some (.bool false), some (v), some (.slice (some ⟨z, 0, none⟩) 512 512)] (by kernel_rfl) (by simp [xr, go_sem]) ?_
      simp only [xw, p0, p1, p2, p3]
      refine wpList_callW rfl (by simp [go_sem]) ((equal_any v (.slice (some ⟨z, 0, none⟩) 512 512) l 512 f (rkF K h g b s H) y4 (hV.ext hE.out) (.inr ⟨⟨z, 0, none⟩, 512, rfl, Nat.le_refl _, RowAt.lie hRz 512 (Nat.le_refl _)⟩) (by omega) (by decide) true hr).mono ?_)
      rintro e yy ⟨rfl, hyy⟩
      refine ⟨_, rfl, ?_⟩
      simp only [zp0, zp1, zp2, zp3]
      replace hyy := hyy.symm
      subst hyy
      refine xm [some (.bool false), some (.bool false)] (by kernel_rfl) (by simp [xr, go_sem]) ?_
      simp only [xw, p0, p1, p2, p3]
      go_upto_region 7 with (fail)
      refine wp_region_lit ?_
      refine wpList_run rfl (.agg (row 35 (rtV g b (s : Int) H)).toArray) (xload 39 (.tmp 8) rfl z5 0 35 _ rfl Hz5.out.range Tryd.underlying39 rfl inf39) ?_
      simp only [zp0, zp1, zp2, zp3]
      have N0 := hideit (Hz3.out.cells (g' := rtV g b (s : Int) H))
      have N1 := hideit (Hc3.out.cellsOther (Ne.symm (Dz3_0.out)) (row 35 (rtV g b (s : Int) H)) 0)
      have N2 := hideit (Hc4.out.cellsOther (Ne.symm (Dz3_1.out)) (row 35 (rtV g b (s : Int) H)) 0)
      have N3 := hideit (Hz5.out.cellsOther (Dz5_2.out) (row 35 (rtV g b (s : Int) H)) 0)
      have NE := hideit (below_setCells z3 (ABz3.out) (row 35 (rtV g b (s : Int) H)) 0 _ hE.out)
      refine xst rfl (y4.setCells z3 0 (row 35 (rtV g b (s : Int) H))) (xstore 39 (.tmp 6) (.tmp 33) rfl z3 35 _ (rtV g b (s : Int) H) rfl rfl Hz3.out inf39 (fun j _ => rt_one _ _ _ _ j)) ?_
      simp only [Act.put]
      generalize y4.setCells z3 0 (row 35 (rtV g b (s : Int) H)) = x8 at N0 N1 N2 N3 NE ⊢
      replace Hz3 := N0
      replace Hc3 := N1
      replace Hc4 := N2
      replace Hz5 := N3
      replace hE := NE
      clear N0 N1 N2 N3 NE
      refine xm [some (.int .i64 0)] (by kernel_rfl) (by simp [xr, go_sem]) ?_
      simp only [xw, p0, p1, p2, p3]
      go_wp2
      refine bodyPost_ret (ret_row2 rfl rfl Hz3.out Tryd.underlying39 rfl inf39) rfl ?_
      exact ⟨g, b, s, H, hs, hRt, .inl ⟨⟨hm, hq.out⟩, rfl⟩, hE.out⟩
    · have hr : false = true ↔ l = 512 ∧ ∀ j, j < l → f j = rkF K h g b s H j := ⟨fun q => Bool.noConfusion q, fun q => (hq ⟨q.1, fun j hj => q.2 j (by rw [q.1]; exact hj)⟩).elim⟩
      replace hq := hideit hq
      go_upto_region 4 with (fail)
      refine wp_region_lit ?_
      refine wpList_run rfl (.agg (row 32 (yv K)).toArray) (xload 31 (.tmp 3) rfl c3 0 32 _ rfl Hc3.out.range Tryd.underlying31 rfl inf31) ?_
      simp only [zp0, zp1, zp2, zp3]
      refine wpList_run rfl (.agg (row 24 (hdv h)).toArray) (xload 37 (.tmp 4) rfl c4 0 24 _ rfl Hc4.out.range Tryd.underlying37 rfl inf37) ?_
      simp only [zp0, zp1, zp2, zp3]
      refine wpList_run rfl (.agg (row 35 (rtV g b (s : Int) H)).toArray) (xload 39 (.tmp 8) rfl z5 0 35 _ rfl Hz5.out.range Tryd.underlying39 rfl inf39) ?_
      simp only [zp0, zp1, zp2, zp3]
      refine wpList_call rfl (by simp [go_sem]) ((rb12_ok K h g b s H x7 (hC.ext hE.out) hk hm hs).mono ?_)
      rintro e y4 ⟨z, rfl, _, hRz, hX4⟩
      refine ⟨_, rfl, ?_⟩
      simp only [zp0, zp1, zp2, zp3]
      replace Hc3 := hideit (Hc3.out.carry hX4)
      replace Hc4 := hideit (Hc4.out.carry hX4)
      replace Hz3 := hideit (Hz3.out.carry hX4)
      replace Hz5 := hideit (Hz5.out.carry hX4)
      replace hE := hideit (Ext.trans hE.out (hX4))
      clear hX4
      refine xm [some (.tuple #[.slice (some ⟨z, 0, none⟩) 512 512, .int .i64 0]), some (.slice (some ⟨z, 0, none⟩) 512 512), some (.int .i64 0), some (.slice (some ⟨z, 0, none⟩) 512 512), some (.int .i64 0)] (by kernel_rfl) (by simp [xr, go_sem]) ?_
      simp only [xw, p0, p1, p2, p3]
      go_upto_region 5 with (fail)
      refine wp_region_lit ?_
      refine xm [some (.int .i64 0), some (.bool false), some (.bool false), some (v), some (.slice (some ⟨z, 0, none⟩) 512 512)] (by kernel_rfl) (by simp [xr, go_sem]) ?_
      simp only [xw, p0, p1, p2, p3]
      refine wpList_callW rfl (by simp [go_sem]) ((equal_any v (.slice (some ⟨z, 0, none⟩) 512 512) l 512 f (rkF K h g b s H) y4 (hV.ext hE.out) (.inr ⟨⟨z, 0, none⟩, 512, rfl, Nat.le_refl _, RowAt.lie hRz 512 (Nat.le_refl _)⟩) (by omega) (by decide) false hr).mono ?_)
      rintro e yy ⟨rfl, hyy⟩
      refine ⟨_, rfl, ?_⟩
      simp only [zp0, zp1, zp2, zp3]
      replace hyy := hyy.symm
      subst hyy
      refine xm [some (.bool true), some (.bool true)] (by kernel_rfl) (by simp [xr, go_sem]) ?_
      simp only [xw, p0, p1, p2, p3]
      go_upto_region 6 with (fail)
      refine wp_region_lit ?_
      refine wpList_run rfl (.agg (row 35 (rtV 0#64 false 0 (fun _ => 0#8))).toArray) (xbuild 39 [] rfl _ (build39 _)) ?_
      simp only [zp0, zp1, zp2, zp3]
      have N0 := hideit (Hz3.out.cells (g' := rtV 0#64 false 0 (fun _ => 0#8)))
      have N1 := hideit (Hc3.out.cellsOther (Ne.symm (Dz3_0.out)) (row 35 (rtV 0#64 false 0 (fun _ => 0#8))) 0)
      have N2 := hideit (Hc4.out.cellsOther (Ne.symm (Dz3_1.out)) (row 35 (rtV 0#64 false 0 (fun _ => 0#8))) 0)
      have N3 := hideit (Hz5.out.cellsOther (Dz5_2.out) (row 35 (rtV 0#64 false 0 (fun _ => 0#8))) 0)
      have NE := hideit (below_setCells z3 (ABz3.out) (row 35 (rtV 0#64 false 0 (fun _ => 0#8))) 0 _ hE.out)
      refine xst rfl (y4.setCells z3 0 (row 35 (rtV 0#64 false 0 (fun _ => 0#8)))) (xstore 39 (.tmp 6) (.tmp 32) rfl z3 35 _ (rtV 0#64 false 0 (fun _ => 0#8)) rfl rfl Hz3.out inf39 (fun j _ => rt_one _ _ _ _ j)) ?_
      simp only [Act.put]
      generalize y4.setCells z3 0 (row 35 (rtV 0#64 false 0 (fun _ => 0#8))) = x8 at N0 N1 N2 N3 NE ⊢
      replace Hz3 := N0
      replace Hc3 := N1
      replace Hc4 := N2
      replace Hz5 := N3
      replace hE := NE
      clear N0 N1 N2 N3 NE
      refine xm [some (.int .i64 160)] (by kernel_rfl) (by simp [xr, go_sem]) ?_
      simp only [xw, p0, p1, p2, p3]
      go_wp2
      refine bodyPost_ret (ret_row2 rfl rfl Hz3.out Tryd.underlying39 rfl inf39) rfl ?_
      exact ⟨g, b, s, H, hs, hRt, .inr ⟨fun q => hq.out q.2, rfl⟩, hE.out⟩
  · replace hm : mbB h b (s : Int) = false := by cases hb : mbB h b (s : Int); rfl; exact absurd hb hm
    go_upto_region 4 with (fail)
    refine wp_region_lit ?_
    refine wpList_run rfl (.agg (row 32 (yv K)).toArray) (xload 31 (.tmp 3) rfl c3 0 32 _ rfl Hc3.out.range Tryd.underlying31 rfl inf31) ?_
    simp only [zp0, zp1, zp2, zp3]
    refine wpList_run rfl (.agg (row 24 (hdv h)).toArray) (xload 37 (.tmp 4) rfl c4 0 24 _ rfl Hc4.out.range Tryd.underlying37 rfl inf37) ?_
    simp only [zp0, zp1, zp2, zp3]
    refine wpList_run rfl (.agg (row 35 (rtV g b (s : Int) H)).toArray) (xload 39 (.tmp 8) rfl z5 0 35 _ rfl Hz5.out.range Tryd.underlying39 rfl inf39) ?_
    simp only [zp0, zp1, zp2, zp3]
    refine wpList_call rfl (by simp [go_sem]) ((rb12_may K h g b (s : Int) H x7 hk hm).mono ?_)
    rintro e y4 ⟨rfl, hX4⟩
    refine ⟨_, rfl, ?_⟩
    simp only [zp0, zp1, zp2, zp3]
    replace Hc3 := hideit (Hc3.out.carry hX4)
    replace Hc4 := hideit (Hc4.out.carry hX4)
    replace Hz3 := hideit (Hz3.out.carry hX4)
    replace Hz5 := hideit (Hz5.out.carry hX4)
    replace hE := hideit (Ext.trans hE.out (hX4))
    clear hX4
    refine xm [some (.tuple #[.slice none 0 0, .int .i64 1]), some (.slice none 0 0), some (.int .i64 1), some (.slice none 0 0), some (.int .i64 1)] (by kernel_rfl) (by simp [xr, go_sem]) ?_
    simp only [xw, p0, p1, p2, p3]
    go_upto_region 5 with (fail)
    refine wp_region_lit ?_
    refine xm [some (.int .i64 1), some (.bool true), some (.bool true), none, none, none, none, some (.bool true)] (by kernel_rfl) (by simp [xr, go_sem]) ?_
    simp only [xw, p0, p1, p2, p3]
    go_upto_region 6 with (fail)
    refine wp_region_lit ?_
    refine wpList_run rfl (.agg (row 35 (rtV 0#64 false 0 (fun _ => 0#8))).toArray) (xbuild 39 [] rfl _ (build39 _)) ?_
    simp only [zp0, zp1, zp2, zp3]
    have N0 := hideit (Hz3.out.cells (g' := rtV 0#64 false 0 (fun _ => 0#8)))
    have N1 := hideit (Hc3.out.cellsOther (Ne.symm (Dz3_0.out)) (row 35 (rtV 0#64 false 0 (fun _ => 0#8))) 0)
    have N2 := hideit (Hc4.out.cellsOther (Ne.symm (Dz3_1.out)) (row 35 (rtV 0#64 false 0 (fun _ => 0#8))) 0)
    have N3 := hideit (Hz5.out.cellsOther (Dz5_2.out) (row 35 (rtV 0#64 false 0 (fun _ => 0#8))) 0)
    have NE := hideit (below_setCells z3 (ABz3.out) (row 35 (rtV 0#64 false 0 (fun _ => 0#8))) 0 _ hE.out)
    refine xst rfl (y4.setCells z3 0 (row 35 (rtV 0#64 false 0 (fun _ => 0#8)))) (xstore 39 (.tmp 6) (.tmp 32) rfl z3 35 _ (rtV 0#64 false 0 (fun _ => 0#8)) rfl rfl Hz3.out inf39 (fun j _ => rt_one _ _ _ _ j)) ?_
    simp only [Act.put]
    generalize y4.setCells z3 0 (row 35 (rtV 0#64 false 0 (fun _ => 0#8))) = x8 at N0 N1 N2 N3 NE ⊢
    replace Hz3 := N0
    replace Hc3 := N1
    replace Hc4 := N2
    replace Hz5 := N3
    replace hE := NE
    clear N0 N1 N2 N3 NE
    refine xm [some (.int .i64 160)] (by kernel_rfl) (by simp [xr, go_sem]) ?_
    simp only [xw, p0, p1, p2, p3]
    go_wp2
    refine bodyPost_ret (ret_row2 rfl rfl Hz3.out Tryd.underlying39 rfl inf39) rfl ?_
    exact ⟨g, b, s, H, hs, hRt, .inr ⟨(fun q => by have q1 := q.1; rw [hm] at q1; cases q1), rfl⟩, hE.out⟩
end Go.Proofs.YtgjabfjkokpkiaaDoor
namespace Go.Proofs.YtgjabfjkokpkiaaDoor
open Go.RowKit Go.BigFrame
set_option linter.unusedVariables false
set_option maxRecDepth 20000
theorem leS_congr {f g : Nat → BitVec 8} : ∀ n, (∀ j, j < n → f j = g j) → leS f n = leS g n
  | 0, _ => rfl
  | n + 1, h => by
    show leS f n + (f n).toNat * 2 ^ (8 * n) = leS g n + (g n).toNat * 2 ^ (8 * n)
    rw [leS_congr n (fun j hj => h j (by omega)), h n (by omega)]
theorem leS_by (x : BitVec 64) : ∀ n, leS (byB x) n = x.toNat % 2 ^ (8 * n)
  | 0 => by show 0 = x.toNat % 1; omega
  | n + 1 => by
    show leS (byB x) n + (byB x n).toNat * 2 ^ (8 * n) = _
    rw [leS_by x n, show 8 * (n + 1) = 8 * n + 8 by omega, Nat.pow_add, Nat.mod_mul]
    unfold byB
    rw [BitVec.toNat_setWidth, BitVec.toNat_ushiftRight, Nat.shiftRight_eq_div_pow, Nat.mul_comm (2 ^ (8 * n))]
theorem leN_by {f : Nat → BitVec 8} (x : BitVec 64) (n : Nat) (hn : n ≤ 8) (h : ∀ j, j < n → f j = byB x j) (hx : x.toNat < 2 ^ (8 * n)) : leN f n = x := by
  apply BitVec.eq_of_toNat_eq
  rw [(leN_nat f n hn).1, leS_congr n h, leS_by, Nat.mod_eq_of_lt hx]
theorem rb_parts (g : BitVec 64) (b : Bool) (s : Nat) (H : Nat → BitVec 8) : (∀ j, j < 8 → rbF g b s H (4 + j) = byB g j) ∧ rbF g b s H 12 = byB (fl b) 0 ∧ (∀ j, j < 4 → rbF g b s H (13 + j) = byB (n4 s) j) ∧ ∀ j, rbF g b s H (17 + j) = H j := by
  refine ⟨fun j hj => ?_, rfl, fun j hj => ?_, fun j => ?_⟩
  · unfold rbF catF
    rw [if_pos (by omega), if_pos (by omega), if_pos (by omega), if_neg (by omega), Nat.add_sub_cancel_left]
  · unfold rbF catF
    rw [if_pos (by omega), if_neg (by omega), Nat.add_sub_cancel_left]
  · unfold rbF catF
    rw [if_neg (by omega), Nat.add_sub_cancel_left]
theorem rt_of {f : Nat → BitVec 8} {g g' : BitVec 64} {b b' : Bool} {s s' l : Nat} {H H' : Nat → BitVec 8} (hl : 49 ≤ l) (hs : s < 4294967296) (hR : RtOf l f g' b' s' H') (hf : ∀ j, j < 49 → f j = rbF g b s H j) : g' = g ∧ b' = b ∧ s' = s ∧ ∀ j, j < 32 → H' j = H j := by
  obtain ⟨h1, h2, h3, h4⟩ := hR hl
  obtain ⟨q1, q2, q3, q4⟩ := rb_parts g b s H
  refine ⟨?_, ?_, ?_, fun j hj => ?_⟩
  · rw [h1]
    exact leN_by g 8 (by omega) (fun j hj => (hf _ (by omega)).trans (q1 j hj)) g.isLt
  · rw [h2, show leN (shF f 12) 1 = fl b from leN_by _ 1 (by omega) (fun j hj => by
      obtain rfl : j = 0 := by omega
      exact (hf 12 (by omega)).trans q2) (by have := fl_lt b; cases b <;> decide)]
    cases b <;> decide
  · rw [h3, show leN (shF f 13) 4 = n4 s from leN_by _ 4 (by omega) (fun j hj => (hf _ (by omega)).trans (q3 j hj)) (by rw [n4_nat hs]; exact hs), n4_nat hs]
  · rw [h4 j hj, hf _ (by omega), q4]
theorem rk_rb (K : Nat → BitVec 8) (h : Hd) (g : BitVec 64) (b : Bool) (s : Nat) (H : Nat → BitVec 8) (j : Nat) (hj : j < 49) : rkF K h g b s H j = rbF g b s H j := by unfold rkF; rw [if_pos hj]
theorem rtV_congr {g : BitVec 64} {b : Bool} {s : Int} {H H' : Nat → BitVec 8} (h : ∀ j, j < 32 → H j = H' j) : row 35 (rtV g b s H) = row 35 (rtV g b s H') := row_ext fun j hj => by
  unfold rtV yv
  by_cases e0 : j = 0
  · rw [if_pos e0, if_pos e0]
  · by_cases e1 : j = 1
    · rw [if_neg e0, if_neg e0, if_pos e1, if_pos e1]
    · by_cases e2 : j = 2
      · rw [if_neg e0, if_neg e0, if_neg e1, if_neg e1, if_pos e2, if_pos e2]
      · rw [if_neg e0, if_neg e0, if_neg e1, if_neg e1, if_neg e2, if_neg e2, h _ (by omega)]
theorem cat_congr2 {m m' b b' : Nat → BitVec 8} {n k : Nat} (h1 : ∀ i, i < n → m i = m' i) (h2 : ∀ i, i < k → b i = b' i) (j : Nat) (hj : j < n + k) : catF m n b j = catF m' n b' j := by
  unfold catF
  by_cases e : j < n
  · rw [if_pos e, if_pos e, h1 j e]
  · rw [if_neg e, if_neg e, h2 _ (by omega)]
theorem rbF_congr {g : BitVec 64} {b : Bool} {s : Nat} {H H' : Nat → BitVec 8} (h : ∀ j, j < 32 → H j = H' j) : ∀ j, j < 49 → rbF g b s H j = rbF g b s H' j := cat_congr2 (k := 32) (fun _ _ => rfl) h
theorem rkF_congr {K : Nat → BitVec 8} {h : Hd} {g : BitVec 64} {b : Bool} {s : Nat} {H H' : Nat → BitVec 8} (hH : ∀ j, j < 32 → H j = H' j) (j : Nat) : rkF K h g b s H j = rkF K h g b s H' j := by
  have e : rgF K h g b s H = rgF K h g b s H' := by
    unfold rgF
    refine tagF_congr 32 K _ _ 69 fun j hj => ?_
    show catF (catF (catF (fun _ => 0#8) 0 (rbF g b s H)) 49 h.nm) 65 (numB h.se.toNat) j = catF (catF (catF (fun _ => 0#8) 0 (rbF g b s H')) 49 h.nm) 65 (numB h.se.toNat) j
    refine cat_congr2 (k := 4) (fun i hi => ?_) (fun _ _ => rfl) j hj
    refine cat_congr2 (k := 16) (fun i hi => ?_) (fun _ _ => rfl) i hi
    refine cat_congr2 (n := 0) (k := 49) (fun _ q => by omega) (rbF_congr hH) i (by omega)
  unfold rkF
  rw [e]
  by_cases q : j < 49
  · rw [if_pos q, if_pos q, rbF_congr hH j q]
  · rw [if_neg q, if_neg q]
theorem rr_yes (K : Nat → BitVec 8) (h : Hd) (v : Value) (l : Nat) (f : Nat → BitVec 8) (w : World) (hV : BV v l f w) (hC : TabC w) (hl : l ≤ 140737488351232) (hk : okH h) (g : BitVec 64) (b : Bool) (s : Nat) (H : Nat → BitVec 8) (hs : s < 4294967296) (hi : isRt K h l f g b s H) : Calls Tryd.prog 14 #[.agg (row 32 (yv K)).toArray, .agg (row 24 (hdv h)).toArray, v] w fun e w' => e = .returned (.tuple #[.agg (row 35 (rtV g b (s : Int) H)).toArray, .int .i64 0]) ∧ Ext w w' := by
  refine (rr_any K h v l f w hV hC hl hk).mono ?_
  rintro e w' ⟨g', b', s', H', hs', hR, hq, hE⟩
  obtain ⟨i1, i2, i3⟩ := hi
  obtain ⟨rfl, rfl, rfl, hH⟩ := rt_of (by omega) hs hR fun j hj => (i3 j (by omega)).trans (rk_rb K h g b s H j hj)
  rcases hq with ⟨_, he⟩ | ⟨hn, _⟩
  · rw [rtV_congr hH] at he
    exact ⟨he, hE⟩
  · exact absurd ⟨i1, i2, fun j hj => (i3 j hj).trans (rkF_congr (fun j hj => (hH j hj).symm) j)⟩ hn
end Go.Proofs.YtgjabfjkokpkiaaDoor
