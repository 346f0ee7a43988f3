/-
  May a header be: the program's answer and the document's. The header of the law.
-/
import Derived.Test.YtgjabfjkokpkiaaDoorQ46
import Derived.Test.YtgjabfjkokpkiaaDoorQ1
import Derived.Test.YtgjabfjkokpkiaaDoorQ45
namespace Go.Proofs.YtgjabfjkokpkiaaDoor
set_option maxRecDepth 20000
open Go.RowKit Go.BigFrame
theorem check_ok (h : Hd) (w : World) (hk : okH h) : Calls Tryd.prog 24 #[.agg (row 24 (hdv h)).toArray] w fun e w' => e = .returned (.int .i64 0) ∧ Ext w w' := by
  obtain ⟨⟨a1, a2, a3, a4, a5, a6⟩, a7⟩ := hk
  exact ck_2311 h w a2 a3 a4 a5 a6 a1 a7
end Go.Proofs.YtgjabfjkokpkiaaDoor
namespace Go.Proofs.YtgjabfjkokpkiaaDoor
open Go.RowKit Go.BigFrame
set_option linter.unusedVariables false
set_option maxRecDepth 20000
def hSe (n : Int) : Hd := ⟨1#64, n, 1, 40, 2, 1, 8, 1, fun _ => 0#8⟩
def hS0 : Hd := ⟨0#64, 0, 0, 0, 0, 0, 0, 0, fun _ => 0#8⟩
theorem inf37 : (Tryd.prog.info? 37).map (·.size) = some 24 := by kernel_rfl
theorem zero37 (w : World) : (zeroValue 37).run Tryd.prog w = .ok (.agg (row 24 (hdv hS0)).toArray) w := by kernel_rfl
theorem bPs (w : World) : (Instr.build 34 #[(0, .int .i64 1), (1, .int .i64 8), (2, .int .i64 1)]).run Tryd.prog w = .ok (.agg (row 3 (pav 1 8 1)).toArray) w := by kernel_rfl
theorem bHs (n : Int) (w : World) : (Instr.build 37 #[(0, .int .u64 1), (1, .int .i64 n), (2, .int .i64 1), (3, .int .i64 40), (4, .int .i64 2), (5, .agg (row 3 (pav 1 8 1)).toArray)]).run Tryd.prog w = .ok (.agg (row 24 (hdv (hSe n))).toArray) w := by kernel_rfl
theorem hd_one (h : Hd) (j : Nat) : (hdv h j).oneCell' = true := by
  unfold hdv
  repeat (first | rfl | split)
set_option maxRecDepth 20000 in
set_option maxHeartbeats 4000000 in
theorem head_any (n : Int) (w : World) : Calls Tryd.prog 23 #[.int .i64 n] w fun e w' => e = .returned (.agg (row 24 (hdv (hSe n))).toArray) ∧ Ext w w' := by
  have hE := hideit (Ext.refl w)
  go_enter Tryd.func23, Tryd.ntmps23
  go_upto_region 0 with (fail)
  refine wp_region_lit ?_
  have A0 := hideit (RowAt.new w 24 (hdv hS0) 37)
  have AE := hideit (Below.alloc hE.out (Below.size hE.out) (.cells (row 24 (hdv hS0)).toArray 37))
  have AB := hideit (Below.size hE.out)
  refine wpList_to rfl (.pointer (some ⟨w.heap.size, 0, none⟩)) (w.alloc (.cells (row 24 (hdv hS0)).toArray 37)) (xalloc 37 (row 24 (hdv hS0)).toArray rfl (zero37 w)) ?_
  simp only [zp0, zp1, zp2, zp3]
  generalize w.alloc (.cells (row 24 (hdv hS0)).toArray 37) = x2 at A0 AE ⊢
  obtain ⟨z1, ez1⟩ : ∃ b, b = w.heap.size := ⟨_, rfl⟩
  rw [← ez1] at A0 ⊢
  replace AB : Hid (w.heap.size ≤ z1) := by rw [ez1]; exact Nat.le_refl _
  clear ez1
  have Hz1 := A0
  clear A0
  replace hE := AE
  clear AE
  have ABz1 := AB
  clear AB
  go_upto_region 1 with (fail)
  refine wp_region_lit ?_
  refine xm [some (.int .i64 (n))] (by kernel_rfl) (by simp [xr, go_sem]) ?_
  simp only [xw, p0, p1, p2, p3]
  refine wpList_run rfl (.agg (row 3 (pav 1 8 1)).toArray) (xbuild 34 [(0, .const (.int .i64 1)), (1, .const (.int .i64 8)), (2, .const (.int .i64 1))] rfl _ (bPs _)) ?_
  simp only [zp0, zp1, zp2, zp3]
  refine wpList_run rfl (.agg (row 24 (hdv (hSe n))).toArray) (xbuild 37 [(0, .const (.int .u64 1)), (1, .tmp 3), (2, .const (.int .i64 1)), (3, .const (.int .i64 40)), (4, .const (.int .i64 2)), (5, .tmp 4)] rfl _ (bHs n _)) ?_
  simp only [zp0, zp1, zp2, zp3]
  have N0 := hideit (Hz1.out.cells (g' := hdv (hSe n)))
  have NE := hideit (below_setCells z1 (ABz1.out) (row 24 (hdv (hSe n))) 0 _ hE.out)
  refine xst rfl (x2.setCells z1 0 (row 24 (hdv (hSe n)))) (xstore 37 (.tmp 2) (.tmp 5) rfl z1 24 _ (hdv (hSe n)) rfl rfl Hz1.out inf37 (fun j _ => hd_one _ j)) ?_
  simp only [Act.put]
  generalize x2.setCells z1 0 (row 24 (hdv (hSe n))) = x3 at N0 NE ⊢
  replace Hz1 := N0
  replace hE := NE
  clear N0 NE
  go_wp2
  exact bodyPost_ret (ret_row rfl rfl Hz1.out Tryd.underlying37 rfl inf37) rfl ⟨rfl, hE.out⟩
end Go.Proofs.YtgjabfjkokpkiaaDoor
