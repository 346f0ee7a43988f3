/-
  What lives of the law asks.
-/
import Derived.Test.YtcipkfalnjgghaaMd13
namespace Go.Proofs.Ytcipkfalnjgghaa
open Go.RowKit Go.BigFrame Go.Maps
set_option linter.unusedVariables false
/-- the header of nine and one sectors -/
def h9 : Hd := ⟨1#64, 10, 3, 24, 4, 1, 8, 1, fun j => if j = 0 then 7#8 else 0#8⟩
theorem okH9 : okH h9 := ⟨⟨by decide, by decide, by decide, by decide, by decide, by decide⟩, ⟨by decide, by decide⟩, ⟨by decide, by decide⟩, by decide, by decide⟩
theorem bP181 (w : World) : (Instr.build 34 #[(0, .int .i64 1), (1, .int .i64 8), (2, .int .i64 1)]).run Try.prog w = .ok (.agg (row 3 (pav 1 8 1)).toArray) w := by kernel_rfl
theorem bN7 (w : World) : (Instr.build 35 #[(0, .int .u8 7)]).run Try.prog w = .ok (.agg (row 16 (yv fun j => if j = 0 then 7#8 else 0#8)).toArray) w := run_build w 35 #[(0, .int .u8 7)] _ (by kernel_rfl)
theorem bH9 (w : World) : (Instr.build 37 #[(0, .int .u64 1), (1, .int .i64 10), (2, .int .i64 3), (3, .int .i64 24), (4, .int .i64 4), (5, .agg (row 3 (pav 1 8 1)).toArray), (6, .agg (row 16 (yv fun j => if j = 0 then 7#8 else 0#8)).toArray)]).run Try.prog w = .ok (.agg (row 24 (hdv h9)).toArray) w := by kernel_rfl
theorem zero37 (w : World) : (zeroValue 37).run Try.prog w = .ok (.agg (row 24 (hdv zH)).toArray) w := by kernel_rfl
set_option maxRecDepth 20000 in
set_option maxHeartbeats 4000000 in
theorem head9 (w : World) : Calls Try.prog 20 #[.int .i64 9] w fun e w' => e = .returned (.agg (row 24 (hdv h9)).toArray) ∧ Ext w w' := by
  have w10 : IntKind.i64.wrap 10 = 10 := by decide
  have hE := hideit (Ext.refl w)
  go_enter Try.func20, Try.ntmps20
  go_upto_region 0 with (fail)
  refine wp_region_lit ?_
  have A0 := hideit (RowAt.new w 24 (hdv zH) 37)
  have XB : Ext w (w.alloc (.cells (row 24 (hdv zH)).toArray 37)) := (Below.refl _ _).alloc (Nat.le_refl _) _
  have AE := hideit (Ext.trans hE.out (XB))
  have AB := hideit (hE.out.size)
  clear XB
  refine wpList_to rfl (.pointer (some ⟨w.heap.size, 0, none⟩)) (w.alloc (.cells (row 24 (hdv zH)).toArray 37)) (xalloc 37 _ rfl (zero37 _)) ?_
  simp only [Act.put, List.setIfInBounds_toArray, List.set_cons_zero, List.set_cons_succ]
  generalize w.alloc (.cells (row 24 (hdv zH)).toArray 37) = x1 at A0 AE ⊢
  obtain ⟨z, ez⟩ : ∃ b, b = w.heap.size := ⟨_, rfl⟩
  have ABz : Hid (w.heap.size ≤ z) := by rw [ez]; exact AB.out
  clear AB
  rw [← ez] at A0  ⊢
  clear ez
  have Hz := A0
  clear A0
  replace hE := AE
  clear AE
  go_upto_region 1 with (fail)
  refine wp_region_lit ?_
  refine xm [some (.int .i64 9), some (.int .i64 9), some (.int .i64 9)] (by kernel_rfl) (by simp [xr, go_sem]) ?_
  simp only [xw, p0, p1, p2, p3]
  go_upto_region 2 with (fail)
  refine wp_region_lit ?_
  refine xm [some (.int .i64 9), some (.bool false)] (by kernel_rfl) (by simp [xr, go_sem]) ?_
  simp only [xw, p0, p1, p2, p3]
  go_upto_region 4 with (fail)
  refine wp_region_lit ?_
  refine xm [some (.int .i64 9), some (.int .i64 10)] (by kernel_rfl) (by simp [xr, go_sem, w10]) ?_
  simp only [xw, p0, p1, p2, p3]
  refine wpList_run rfl (.agg (row 3 (pav 1 8 1)).toArray) (xbuild 34 [(0, .const (.int .i64 1)), (1, .const (.int .i64 8)), (2, .const (.int .i64 1))] rfl _ (bP181 _)) ?_
  simp only [Act.put, List.setIfInBounds_toArray, List.set_cons_zero, List.set_cons_succ]
  refine wpList_run rfl (.agg (row 16 (yv fun j => if j = 0 then 7#8 else 0#8)).toArray) (xbuild 35 [(0, .const (.int .u8 7))] rfl _ (bN7 _)) ?_
  simp only [Act.put, List.setIfInBounds_toArray, List.set_cons_zero, List.set_cons_succ]
  refine wpList_run rfl (.agg (row 24 (hdv h9)).toArray) (xbuild 37 [(0, .const (.int .u64 1)), (1, .tmp 11), (2, .const (.int .i64 3)), (3, .const (.int .i64 24)), (4, .const (.int .i64 4)), (5, .tmp 12), (6, .tmp 13)] rfl _ (bH9 _)) ?_
  simp only [Act.put, List.setIfInBounds_toArray, List.set_cons_zero, List.set_cons_succ]
  have N0 := hideit (Hz.out.cells (g' := hdv h9))
  have NE := hideit (below_setCells z (ABz.out) (row 24 (hdv h9)) 0 _ hE.out)
  refine xst rfl (x1.setCells z 0 (row 24 (hdv h9))) (xstore 37 (.tmp 2) (.tmp 14) rfl z 24 _ (hdv h9) rfl rfl Hz.out infoH (fun j _ => hdv_one _ j)) ?_
  simp only [Act.put]
  generalize x1.setCells z 0 (row 24 (hdv h9)) = x2 at N0 NE ⊢
  replace Hz := N0
  replace hE := NE
  clear N0 NE
  go_wp2
  refine bodyPost_ret (ret_row rfl rfl Hz.out Try.underlying37 rfl infoH) rfl ?_
  exact ⟨rfl, hE.out⟩
/-- the sectors that were written, rising -/
def wrL (s : MSt) : List Int := ((List.range s.h.se.toNat).filter fun (i : Nat) => (s.S (i : Int)).isSome).map fun (i : Nat) => (i : Int)
def oneF (j : Nat) : BitVec 8 := if j = 0 then 111#8 else if j = 1 then 110#8 else 101#8
def twoF (j : Nat) : BitVec 8 := if j = 0 then 116#8 else if j = 1 then 119#8 else 111#8
def xF (_ : Nat) : BitVec 8 := 120#8
/-- the model of lives, closed, open, and behind its Write -/
def l0 : MSt := newS h9 3 oneF
def l1 : MSt := { l0 with op := true, sl := ((0 : Nat) : Int) }
def l2 : MSt := wrS l1 3 (blkF 1 xF)
theorem l0_two (q : Nat) : fnd l0 3 twoF q = false := by
  unfold fnd
  show (match (if (q : Int) = 0 then some (3, oneF) else none) with
    | some (l', f') => eqB l' 3 f' twoF
    | none => false) = false
  by_cases h : (q : Int) = 0
  · rw [if_pos h]
    show eqB 3 3 oneF twoF = false
    decide
  · rw [if_neg h]
theorem l0_one : fnd l0 3 oneF 0 = true := by
  show eqB 3 3 oneF oneF = true
  decide
theorem op_two {c : Int} {s' : MSt} (h : opE l0 s' 3 twoF c) : c = 200 ∧ s' = l0 := by
  rcases h with ⟨_, h, _⟩ | ⟨_, _, i, _, h, _⟩ | ⟨h1, _, _, h2⟩
  · omega
  · rw [l0_two i] at h; cases h
  · exact ⟨h1, h2⟩
theorem op_one {c : Int} {s' : MSt} (h : opE l0 s' 3 oneF c) : c = 0 ∧ s' = l1 := by
  rcases h with ⟨_, h, _⟩ | ⟨h1, _, i, _, _, h2, h3⟩ | ⟨_, _, h, _⟩
  · omega
  · have hi : i = 0 := by
      rcases Nat.eq_zero_or_pos i with h | h
      · exact h
      · have := h2 0 h; rw [l0_one] at this; cases this
    subst hi
    exact ⟨h1, h3⟩
  · have := h 0 (by show ((0 : Nat) : Int) < 3; decide)
    rw [l0_one] at this
    cases this
theorem l2_wr : wrE l1 3 512 = 0 := rfl
theorem l2_list : wrL l2 = [3] := rfl
theorem l2_rd : rdF l2 3 = blkF 1 xF := rfl
end Go.Proofs.Ytcipkfalnjgghaa
