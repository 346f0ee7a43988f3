/-
  Roots as rows of 35 cells; idle and segments.
-/
import Derived.Test.YtcipkfalnjgghaaHc4
import Derived.Test.YtcipkfalnjgghaaEx
namespace Go.Proofs.Ytcipkfalnjgghaa
open Go.RowKit Go.BigFrame
/-- a root -/
structure Rt where
  ct : BitVec 64
  rk : Bool
  fr : Int
  tr : Nat → BitVec 8
def rtv (r : Rt) : Nat → Value := fun j => if j = 0 then .int .u64 (r.ct.toNat : Int) else if j = 1 then .bool r.rk else if j = 2 then .int .i64 r.fr else .int .u8 ((r.tr (j - 3)).toNat : Int)
def rt0 : Rt := ⟨0#64, false, 0, fun _ => 0#8⟩
theorem rtv_one (r : Rt) (j : Nat) : (rtv r j).oneCell' = true := by
  unfold rtv
  split
  · rfl
  · split
    · rfl
    · split <;> rfl
theorem infoR : (Try.prog.info? 66).map (·.size) = some 35 := by kernel_rfl
theorem zR : (#[.int .u64 0, .bool false, .int .i64 0, .int .u8 0, .int .u8 0, .int .u8 0, .int .u8 0, .int .u8 0, .int .u8 0, .int .u8 0, .int .u8 0, .int .u8 0, .int .u8 0, .int .u8 0, .int .u8 0, .int .u8 0, .int .u8 0, .int .u8 0, .int .u8 0, .int .u8 0, .int .u8 0, .int .u8 0, .int .u8 0, .int .u8 0, .int .u8 0, .int .u8 0, .int .u8 0, .int .u8 0, .int .u8 0, .int .u8 0, .int .u8 0, .int .u8 0, .int .u8 0, .int .u8 0, .int .u8 0] : Array Value) = (row 35 (rtv rt0)).toArray := by kernel_rfl
/-- as it is while no rekey is on -/
def idF (r : Rt) : Rt := { r with rk := false, fr := 0 }
theorem rt_rk (r : Rt) (b : Bool) (j : Nat) : (if j = 1 then Value.bool b else rtv r j) = rtv { r with rk := b } j := by
  unfold rtv
  by_cases h0 : j = 0
  · subst h0; rfl
  · by_cases h1 : j = 1
    · subst h1; rfl
    · simp [h0, h1]
theorem rt_fr (r : Rt) (x : Int) (j : Nat) : (if j = 2 then Value.int .i64 x else rtv r j) = rtv { r with fr := x } j := by
  unfold rtv
  by_cases h0 : j = 0
  · subst h0; rfl
  · by_cases h1 : j = 1
    · subst h1; rfl
    · by_cases h2 : j = 2
      · subst h2; rfl
      · simp [h0, h1, h2]
set_option maxRecDepth 20000 in
set_option maxHeartbeats 4000000 in
theorem idle_any (r : Rt) (w : World) : Calls Try.prog 71 #[.agg (row 35 (rtv r)).toArray] w fun e w' => e = .returned (.agg (row 35 (rtv (idF r))).toArray) ∧ Ext w w' := by
  obtain ⟨c, d, w1, hw, hd, hc, H0, H1, hE⟩ := boxes2 w 35 (rtv r) 66 35 (rtv rt0) 66
  have hne : Hid (c ≠ d ∧ w.heap.size ≤ c ∧ w.heap.size ≤ d) := by
    have e1 := hd.out; have e2 := hc.out; exact ⟨by omega, by omega, by omega⟩
  rw [← zR] at hw
  go_enter Try.func71, Try.ntmps71
  go_upto_region 1 with (fail)
  rw [← hw.out, ← hd.out, ← hc.out]
  clear hw hd hc
  refine wp_region_lit ?_
  refine wpList_run rfl (.pointer (some ⟨c, 1, none⟩)) (by simp [go_sem]) ?_
  simp only [Act.put, List.setIfInBounds_toArray, List.set_cons_zero, List.set_cons_succ]
  have M0 : w1.cell? ⟨c, 1, none⟩ = some (.bool r.rk) := H0.out.1 1 (by decide)
  have M1 : w1.frozen? ⟨c, 1, none⟩ = false := H0.out.2.1 1 (by decide)
  have N0 := hideit (H0.out.set 1 (.bool false))
  have N1 := hideit (H1.out.other ⟨c, 1, none⟩ (.bool false) (hne.out.1))
  have NE := hideit (hE.out.setCell (p := ⟨c, 1, none⟩) (hne.out.2.1) (.bool false))
  refine xst rfl (w1.setCell ⟨c, 1, none⟩ (.bool false)) (by simp [go_sem, M0, M1]) ?_
  simp only [Act.put]
  generalize w1.setCell ⟨c, 1, none⟩ (.bool false) = x1 at N0 N1 NE ⊢
  clear M0 M1
  replace N0 := hideit (N0.out.congr (g' := rtv { r with rk := false }) (fun j hj => rt_rk r false j))
  replace H0 := N0
  replace H1 := N1
  replace hE := NE
  clear N0 N1 NE 
  refine wpList_run rfl (.pointer (some ⟨c, 2, none⟩)) (by simp [go_sem]) ?_
  simp only [Act.put, List.setIfInBounds_toArray, List.set_cons_zero, List.set_cons_succ]
  have M0 : x1.cell? ⟨c, 2, none⟩ = some (.int .i64 (r.fr)) := H0.out.1 2 (by decide)
  have M1 : x1.frozen? ⟨c, 2, none⟩ = false := H0.out.2.1 2 (by decide)
  have N0 := hideit (H0.out.set 2 (.int .i64 0))
  have N1 := hideit (H1.out.other ⟨c, 2, none⟩ (.int .i64 0) (hne.out.1))
  have NE := hideit (hE.out.setCell (p := ⟨c, 2, none⟩) (hne.out.2.1) (.int .i64 0))
  refine xst rfl (x1.setCell ⟨c, 2, none⟩ (.int .i64 0)) (by simp [go_sem, M0, M1]) ?_
  simp only [Act.put]
  generalize x1.setCell ⟨c, 2, none⟩ (.int .i64 0) = x2 at N0 N1 NE ⊢
  clear M0 M1
  replace N0 := hideit (N0.out.congr (g' := rtv (idF r)) (fun j hj => rt_fr { r with rk := false } 0 j))
  replace H0 := N0
  replace H1 := N1
  replace hE := NE
  clear N0 N1 NE 
  go_upto_region 2 with (fail)
  refine wp_region_lit ?_
  refine wpList_run rfl (.agg (row 35 (rtv (idF r))).toArray) (xload 66 (.tmp 1) rfl c 0 35 _ rfl H0.out.range Try.underlying66 rfl infoR) ?_
  simp only [Act.put, List.setIfInBounds_toArray, List.set_cons_zero, List.set_cons_succ]
  have N0 := hideit (H1.out.cells (g' := rtv (idF r)))
  have N1 := hideit (H0.out.cellsOther (Ne.symm (hne.out.1)) (row 35 (rtv (idF r))) 0)
  have NE := hideit (below_setCells d (hne.out.2.2) (row 35 (rtv (idF r))) 0 _ hE.out)
  refine xst rfl (x2.setCells d 0 (row 35 (rtv (idF r)))) (xstore 66 (.tmp 2) (.tmp 5) rfl d 35 _ (rtv (idF r)) rfl rfl H1.out infoR (fun j _ => rtv_one _ j)) ?_
  simp only [Act.put]
  generalize x2.setCells d 0 (row 35 (rtv (idF r))) = x3 at N0 N1 NE ⊢
  replace H1 := N0
  replace H0 := N1
  replace hE := NE
  clear N0 N1 NE 
  go_wp2
  refine bodyPost_ret (ret_row rfl rfl H1.out Try.underlying66 rfl infoR) rfl ?_
  exact ⟨rfl, hE.out⟩
/-- so many steps for so many sectors -/
def sgF (h : Hd) (x : Int) : Int := (x + h.sg - 1).tdiv h.sg
set_option maxRecDepth 20000 in
set_option maxHeartbeats 4000000 in
theorem seg_any (h : Hd) (x : Int) (w : World) (hx : 0 ≤ x ∧ x ≤ 1024) (hs : 1 ≤ h.sg ∧ h.sg ≤ 16) : Calls Try.prog 73 #[.agg (row 24 (hdv h)).toArray, .int .i64 x] w fun e w' => e = .returned (.int .i64 (sgF h x)) ∧ Ext w w' := by
  have e1 : IntKind.i64.wrap (x + h.sg) = x + h.sg := by rw [IntKind.wrap_i64]; omega
  have e2 : IntKind.i64.wrap (x + h.sg - 1) = x + h.sg - 1 := by rw [IntKind.wrap_i64]; omega
  have e3 : ¬ h.sg = 0 := by omega
  have e4 : IntKind.i64.wrap ((x + h.sg - 1).tdiv h.sg) = (x + h.sg - 1).tdiv h.sg := by
    have h1 : (x + h.sg - 1).tdiv h.sg = (x + h.sg - 1) / h.sg := Int.tdiv_eq_ediv_of_nonneg (by omega)
    have h2 : (x + h.sg - 1) / h.sg ≤ x + h.sg - 1 := Int.ediv_le_self _ (by omega)
    have h3 : 0 ≤ (x + h.sg - 1) / h.sg := Int.ediv_nonneg (by omega) (by omega)
    rw [IntKind.wrap_i64]; omega
  unfold sgF
  obtain ⟨c, w1, hw, hc, H0, hE⟩ := boxes1 w 24 (hdv h) 37
  go_enter Try.func73, Try.ntmps73
  go_upto_region 1 with (fail)
  rw [← hw.out, ← hc.out]
  clear hw hc
  refine wp_region_lit ?_
  refine wpList_run rfl (.int .i64 (x)) (by simp [go_sem]) ?_
  simp only [Act.put, List.setIfInBounds_toArray, List.set_cons_zero, List.set_cons_succ]
  refine wpList_run rfl (.pointer (some ⟨c, 4, none⟩)) (by simp [go_sem]) ?_
  simp only [Act.put, List.setIfInBounds_toArray, List.set_cons_zero, List.set_cons_succ]
  have m1 : w1.cell? ⟨c, 4, none⟩ = some (.int .i64 (h.sg)) := H0.out.1 4 (by decide)
  refine wpList_run rfl (.int .i64 (h.sg)) (by simp [go_sem, m1]) ?_
  simp only [Act.put, List.setIfInBounds_toArray, List.set_cons_zero, List.set_cons_succ]
  clear m1
  refine wpList_run rfl (.int .i64 (x + h.sg)) (by simp [go_sem, e1]) ?_
  simp only [Act.put, List.setIfInBounds_toArray, List.set_cons_zero, List.set_cons_succ]
  refine wpList_run rfl (.int .i64 (x + h.sg - 1)) (by simp [go_sem, e2]) ?_
  simp only [Act.put, List.setIfInBounds_toArray, List.set_cons_zero, List.set_cons_succ]
  refine wpList_run rfl (.pointer (some ⟨c, 4, none⟩)) (by simp [go_sem]) ?_
  simp only [Act.put, List.setIfInBounds_toArray, List.set_cons_zero, List.set_cons_succ]
  have m2 : w1.cell? ⟨c, 4, none⟩ = some (.int .i64 (h.sg)) := H0.out.1 4 (by decide)
  refine wpList_run rfl (.int .i64 (h.sg)) (by simp [go_sem, m2]) ?_
  simp only [Act.put, List.setIfInBounds_toArray, List.set_cons_zero, List.set_cons_succ]
  clear m2
  refine wpList_run rfl (.int .i64 ((x + h.sg - 1).tdiv h.sg)) (by simp [go_sem, e3, e4]) ?_
  simp only [Act.put, List.setIfInBounds_toArray, List.set_cons_zero, List.set_cons_succ]
  refine wpList_run rfl (.int .i64 ((x + h.sg - 1).tdiv h.sg)) (by simp [go_sem]) ?_
  simp only [Act.put, List.setIfInBounds_toArray, List.set_cons_zero, List.set_cons_succ]
  go_wp2
  go_ret
  exact ⟨rfl, hE.out⟩
end Go.Proofs.Ytcipkfalnjgghaa
