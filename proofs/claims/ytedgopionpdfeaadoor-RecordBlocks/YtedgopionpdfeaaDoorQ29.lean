/-
  What a plan says; what a mark says. What a mark says.
-/
import Derived.Test.YtedgopionpdfeaaDoorQ28
namespace Go.Proofs.YtedgopionpdfeaaDoor
open Go.RowKit Go.BigFrame
theorem results_tmp3 {fn : Func} {t u v : Tmp} (h : fn.results = #[.tmp t, .tmp u, .tmp v]) (tmps : Array Value) (P : Program) (w : World) : (results fn tmps).run P w = .ok (.tuple #[tmps.getD t undef, tmps.getD u undef, tmps.getD v undef]) w := by
  simp [results, h]
/-- what Plan answers -/
def PnQ (w : World) (l : Nat) (f : Nat → BitVec 8) (e : Ending) (w' : World) : Prop :=
  Ext w w' ∧ ((isPl l f ∧ ∃ v, e = .returned (.tuple #[.int .u64 ((nP f).toNat : Int), v, .int .i64 0]) ∧ OwnB w.heap.size 3 v (cP f) (fun i => .int .i64 (bP f i)) w') ∨ (¬ isPl l f ∧ e = .returned (.tuple #[.int .u64 0, .slice none 0 0, .int .i64 110])))
set_option maxRecDepth 20000 in
set_option maxHeartbeats 4000000 in
theorem plan_any (u : Value) (l : Nat) (f : Nat → BitVec 8) (w : World) (hu : BV u l f w) (hl : l ≤ 140737488355328) : Calls Tryd.prog 15 #[u] w (PnQ w l f) := by
  obtain ⟨uo, ucp, rfl⟩ := hu.form
  have kp := hideit (planIn_any (.slice uo l ucp) l f w hu hl)
  clear hu
  go_enter Tryd.func15, Tryd.ntmps15
  go_upto_region 1 with (fail)
  refine wp_region_lit ?_
  refine wpList_run rfl (.slice uo l ucp) (by simp [go_sem]) ?_
  simp only [Act.put, List.setIfInBounds_toArray, List.set_cons_zero, List.set_cons_succ]
  refine wpList_call rfl (by simp [go_sem]) ((kp.out).mono ?_)
  rintro e w1 ⟨a, ok, rfl, hE1, hq⟩
  refine ⟨_, rfl, ?_⟩
  simp only [Act.put, List.setIfInBounds_toArray, List.set_cons_zero, List.set_cons_succ]
  clear kp
  rcases hq with ⟨rfl, hyes, v, rfl, hO⟩ | ⟨rfl, hno, rfl⟩
  · obtain ⟨vo, vc, rfl⟩ := own_form3 hO
    have hpr : RowAt w1.heap.size 3 (plV 0#64 0#64 (.slice none 0 0)) (w1.alloc (.cells #[.int .u64 0, .int .u64 0, .slice none 0 0] 47)) := RowAt.newOf w1 3 _ 47 _ fun j hj => by rcases (by omega : j = 0 ∨ j = 1 ∨ j = 2) with rfl | rfl | rfl <;> rfl
    have hX2 : Ext w1 ((w1.alloc (.cells #[.int .u64 0, .int .u64 0, .slice none 0 0] 47)).setCells w1.heap.size 0 (row 3 (plV (nP f) (tP f) (.slice vo (cP f) vc)))) := below_setCells w1.heap.size (Nat.le_refl _) _ 0 _ ((Below.refl _ _).alloc (Nat.le_refl _) _)
    have hR2 : RowAt w1.heap.size 3 (plV (nP f) (tP f) (.slice vo (cP f) vc)) ((w1.alloc (.cells #[.int .u64 0, .int .u64 0, .slice none 0 0] 47)).setCells w1.heap.size 0 (row 3 (plV (nP f) (tP f) (.slice vo (cP f) vc)))) := hpr.cells
    rw [plA_row]
    refine wpList_run rfl (.tuple #[.agg (row 3 (plV (nP f) (tP f) (.slice vo (cP f) vc))).toArray, .bool true]) (by simp [go_sem]) ?_
    simp only [Act.put, List.setIfInBounds_toArray, List.set_cons_zero, List.set_cons_succ]
    refine wpList_run rfl (.agg (row 3 (plV (nP f) (tP f) (.slice vo (cP f) vc))).toArray) (by simp [go_sem]) ?_
    simp only [Act.put, List.setIfInBounds_toArray, List.set_cons_zero, List.set_cons_succ]
    refine wpList_run rfl (.bool true) (by simp [go_sem]) ?_
    simp only [Act.put, List.setIfInBounds_toArray, List.set_cons_zero, List.set_cons_succ]
    refine wpList_to rfl (.pointer (some ⟨w1.heap.size, 0, none⟩)) (w1.alloc (.cells #[.int .u64 0, .int .u64 0, .slice none 0 0] 47)) (alloc47 rfl) ?_
    simp only [Act.put, List.setIfInBounds_toArray, List.set_cons_zero, List.set_cons_succ]
    refine wpList_store_mid rfl 47 (.tmp 5) (.tmp 10) rfl w1.heap.size 0 (row 3 (plV (nP f) (tP f) (.slice vo (cP f) vc))).toArray rfl rfl (by rw [row_size]; exact hpr.there) (by rw [row_size]; exact info47) (row_one (plV_one rfl)) ?_
    rw [show (row 3 (plV (nP f) (tP f) (.slice vo (cP f) vc))).toArray.toList = (row 3 (plV (nP f) (tP f) (.slice vo (cP f) vc))) from rfl]
    generalize (w1.alloc (.cells #[.int .u64 0, .int .u64 0, .slice none 0 0] 47)).setCells w1.heap.size 0 (row 3 (plV (nP f) (tP f) (.slice vo (cP f) vc))) = w2 at *
    generalize w1.heap.size = p at *
    simp only [Act.put]
    refine wpList_run rfl (.bool true) (by simp [go_sem]) ?_
    simp only [Act.put, List.setIfInBounds_toArray, List.set_cons_zero, List.set_cons_succ]
    have hO2 := hideit (hO.ext hX2)
    have hE2 := hideit (Ext.trans hE1 hX2)
    replace hyes := hideit hyes
    have c0 : ∀ X, X = w2.drew → X.cell? ⟨p, 0, none⟩ = some (.int .u64 ((nP f).toNat : Int)) := fun X hX => by
      rw [hX]
      exact hR2.1 0 (by decide)
    have c2 : ∀ X, X = w2.drew → X.cell? ⟨p, 2, none⟩ = some (.slice vo (cP f) vc) := fun X hX => by
      rw [hX]
      exact hR2.1 2 (by decide)
    clear hO hX2 hpr hE1 hR2
    go_upto_region 4 with (fail)
    refine wp_region_lad (fun X => X = w2.drew) [(false, 0), (false, 1), (false, 2), (false, 3), (false, 4), (false, 5), (false, 6)] (by kernel_rfl) (by kernel_rfl) (by decide +kernel) (by decide +kernel) (by decide +kernel) (by decide +kernel) rfl ?_
    refine wpX_f _ (.pointer (some ⟨p, 0, none⟩)) rfl rfl (fun X _ => by simp [go_sem]) ?_
    simp only [List.getElem_toArray, List.getElem_cons_zero, Act.put, List.setIfInBounds_toArray, List.set_cons_zero, List.set_cons_succ]
    refine wpX_f _ (.int .u64 ((nP f).toNat : Int)) rfl rfl (fun X hX => by have e := c0 X hX; simp [go_sem, e]) ?_
    simp only [List.getElem_toArray, List.getElem_cons_zero, List.getElem_cons_succ, Act.put, List.setIfInBounds_toArray, List.set_cons_zero, List.set_cons_succ]
    refine wpX_f _ (.pointer (some ⟨p, 2, none⟩)) rfl rfl (fun X _ => by simp [go_sem]) ?_
    simp only [List.getElem_toArray, List.getElem_cons_zero, List.getElem_cons_succ, Act.put, List.setIfInBounds_toArray, List.set_cons_zero, List.set_cons_succ]
    refine wpX_f _ (.slice vo (cP f) vc) rfl rfl (fun X hX => by have e := c2 X hX; simp [go_sem, e]) ?_
    simp only [List.getElem_toArray, List.getElem_cons_zero, List.getElem_cons_succ, Act.put, List.setIfInBounds_toArray, List.set_cons_zero, List.set_cons_succ]
    refine wpX_f _ (.int .u64 ((nP f).toNat : Int)) rfl rfl (fun X _ => by simp [go_sem]) ?_
    simp only [List.getElem_toArray, List.getElem_cons_zero, List.getElem_cons_succ, Act.put, List.setIfInBounds_toArray, List.set_cons_zero, List.set_cons_succ]
    refine wpX_f _ (.slice vo (cP f) vc) rfl rfl (fun X _ => by simp [go_sem]) ?_
    simp only [List.getElem_toArray, List.getElem_cons_zero, List.getElem_cons_succ, Act.put, List.setIfInBounds_toArray, List.set_cons_zero, List.set_cons_succ]
    refine wpX_f _ (.int .i64 0) rfl rfl (fun X _ => by simp [go_sem]) ?_
    simp only [List.getElem_toArray, List.getElem_cons_zero, List.getElem_cons_succ, Act.put, List.setIfInBounds_toArray, List.set_cons_zero, List.set_cons_succ]
    refine wpX_nil ?_
    clear c0 c2
    go_wp2
    refine bodyPost_ret (results_tmp3 rfl _ _ _) rfl ?_
    exact ⟨hE2.out.draw, .inl ⟨hyes.out, _, rfl, hO2.out.ext (Ext.refl _).draw⟩⟩
  · have hpr : RowAt w1.heap.size 3 (plV 0#64 0#64 (.slice none 0 0)) (w1.alloc (.cells #[.int .u64 0, .int .u64 0, .slice none 0 0] 47)) := RowAt.newOf w1 3 _ 47 _ fun j hj => by rcases (by omega : j = 0 ∨ j = 1 ∨ j = 2) with rfl | rfl | rfl <;> rfl
    have hX2 : Ext w1 ((w1.alloc (.cells #[.int .u64 0, .int .u64 0, .slice none 0 0] 47)).setCells w1.heap.size 0 (row 3 (plV 0#64 0#64 (.slice none 0 0)))) := below_setCells w1.heap.size (Nat.le_refl _) _ 0 _ ((Below.refl _ _).alloc (Nat.le_refl _) _)
    have hR2 : RowAt w1.heap.size 3 (plV 0#64 0#64 (.slice none 0 0)) ((w1.alloc (.cells #[.int .u64 0, .int .u64 0, .slice none 0 0] 47)).setCells w1.heap.size 0 (row 3 (plV 0#64 0#64 (.slice none 0 0)))) := hpr.cells
    rw [plA_row]
    refine wpList_run rfl (.tuple #[.agg (row 3 (plV 0#64 0#64 (.slice none 0 0))).toArray, .bool false]) (by simp [go_sem]) ?_
    simp only [Act.put, List.setIfInBounds_toArray, List.set_cons_zero, List.set_cons_succ]
    refine wpList_run rfl (.agg (row 3 (plV 0#64 0#64 (.slice none 0 0))).toArray) (by simp [go_sem]) ?_
    simp only [Act.put, List.setIfInBounds_toArray, List.set_cons_zero, List.set_cons_succ]
    refine wpList_run rfl (.bool false) (by simp [go_sem]) ?_
    simp only [Act.put, List.setIfInBounds_toArray, List.set_cons_zero, List.set_cons_succ]
    refine wpList_to rfl (.pointer (some ⟨w1.heap.size, 0, none⟩)) (w1.alloc (.cells #[.int .u64 0, .int .u64 0, .slice none 0 0] 47)) (alloc47 rfl) ?_
    simp only [Act.put, List.setIfInBounds_toArray, List.set_cons_zero, List.set_cons_succ]
    refine wpList_store_mid rfl 47 (.tmp 5) (.tmp 10) rfl w1.heap.size 0 (row 3 (plV 0#64 0#64 (.slice none 0 0))).toArray rfl rfl (by rw [row_size]; exact hpr.there) (by rw [row_size]; exact info47) (row_one (plV_one rfl)) ?_
    rw [show (row 3 (plV 0#64 0#64 (.slice none 0 0))).toArray.toList = (row 3 (plV 0#64 0#64 (.slice none 0 0))) from rfl]
    generalize (w1.alloc (.cells #[.int .u64 0, .int .u64 0, .slice none 0 0] 47)).setCells w1.heap.size 0 (row 3 (plV 0#64 0#64 (.slice none 0 0))) = w2 at *
    generalize w1.heap.size = p at *
    simp only [Act.put]
    refine wpList_run rfl (.bool false) (by simp [go_sem]) ?_
    simp only [Act.put, List.setIfInBounds_toArray, List.set_cons_zero, List.set_cons_succ]
    have hE2 := hideit (Ext.trans hE1 hX2)
    replace hno := hideit hno
    clear hX2 hpr hE1 hR2
    go_wp2
    refine bodyPost_ret (results_tmp3 rfl _ _ _) rfl ?_
    exact ⟨hE2.out, .inr ⟨hno.out, rfl⟩⟩
end Go.Proofs.YtedgopionpdfeaaDoor
namespace Go.Proofs.YtedgopionpdfeaaDoor
open Go.RowKit Go.BigFrame
/-- is it a mark? -/
def isMk (l : Nat) (f : Nat → BitVec 8) : Prop := nP f ≠ 0#64 ∧ eqB 512 l (markF (nP f)) f = true
theorem isMk_len {l : Nat} {f : Nat → BitVec 8} {x : BitVec 64} (h : eqB 512 l (markF x) f = true) : l = 512 := by
  unfold eqB at h
  exact (of_decide_eq_true h).1.symm
/-- what ReadMark answers -/
def RmQ (w : World) (l : Nat) (f : Nat → BitVec 8) (e : Ending) (w' : World) : Prop :=
  Ext w w' ∧ ((isMk l f ∧ e = .returned (.tuple #[.int .u64 ((nP f).toNat : Int), .int .i64 0])) ∨ (¬ isMk l f ∧ e = .returned (.tuple #[.int .u64 0, .int .i64 110])))
set_option maxRecDepth 20000 in
set_option maxHeartbeats 4000000 in
theorem readm_any (u : Value) (l : Nat) (f : Nat → BitVec 8) (w : World) (hu : BV u l f w) (hl : l ≤ 140737488355328) (hT : TabC w) : Calls Tryd.prog 17 #[u] w (RmQ w l f) := by
  obtain ⟨uo, ucp, rfl⟩ := hu.form
  have kn := hideit (newr_any (.slice uo l ucp) l f w hu hl)
  replace hu := hideit hu
  replace hT := hideit hT
  go_enter Tryd.func17, Tryd.ntmps17
  go_upto_region 1 with (fail)
  refine wp_region_lit ?_
  refine wpList_run rfl (.slice uo l ucp) (by simp [go_sem]) ?_
  simp only [Act.put, List.setIfInBounds_toArray, List.set_cons_zero, List.set_cons_succ]
  refine wpList_call rfl (by simp [go_sem]) ((kn.out).mono ?_)
  rintro e w1 ⟨c, rfl, hc, hR1, hX1⟩
  refine ⟨_, rfl, ?_⟩
  simp only [Act.put, List.setIfInBounds_toArray, List.set_cons_zero, List.set_cons_succ]
  refine wpList_run rfl (.pointer (some ⟨c, 0, none⟩)) (by simp [go_sem]) ?_
  simp only [Act.put, List.setIfInBounds_toArray, List.set_cons_zero, List.set_cons_succ]
  have kb := hideit (bytes_all w.heap.size c l 4 f false w1 hR1 hl)
  clear kn hR1
  go_upto_region 2 with (fail)
  refine wp_region_lit ?_
  refine wpList_run rfl (.pointer (some ⟨c, 0, none⟩)) (by simp [go_sem]) ?_
  simp only [Act.put, List.setIfInBounds_toArray, List.set_cons_zero, List.set_cons_succ]
  refine wpList_call rfl (by simp [go_sem]) ((kb.out).mono ?_)
  rintro e w2 ⟨v2, m2, l2, f2, b2, rfl, hv2, hR2, hB2, hq2⟩
  refine ⟨_, rfl, ?_⟩
  simp only [Act.put, List.setIfInBounds_toArray, List.set_cons_zero, List.set_cons_succ]
  have ku := hideit (uint_all w.heap.size c l2 8 f2 b2 w2 hR2 (by decide) (by decide))
  have hE2 : Ext w w2 := Below.trans hX1 (But.below hB2 hc (Below.size hX1))
  have hv2f := hv2.form
  clear kb hR2 hv2 hB2 hX1
  obtain ⟨v2o, v2c, rfl⟩ : ∃ o c, v2 = .slice o m2 c := hv2f
  go_upto_region 3 with (fail)
  refine wp_region_lit ?_
  refine wpList_run rfl (.pointer (some ⟨c, 0, none⟩)) (by simp [go_sem]) ?_
  simp only [Act.put, List.setIfInBounds_toArray, List.set_cons_zero, List.set_cons_succ]
  refine wpList_call rfl (by simp [go_sem]) ((ku.out).mono ?_)
  rintro e w3 ⟨x, l3, f3, b3, rfl, hR3, hB3, hq3⟩
  refine ⟨_, rfl, ?_⟩
  simp only [Act.put, List.setIfInBounds_toArray, List.set_cons_zero, List.set_cons_succ]
  refine wpList_run rfl (.int .u64 (x.toNat : Int)) (by simp [go_sem]) ?_
  simp only [Act.put, List.setIfInBounds_toArray, List.set_cons_zero, List.set_cons_succ]
  have hE3 : Hid (Ext w w3) := Below.trans hE2 (But.below hB3 hc (Below.size hE2))
  have hx : Hid (l = 512 → x = nP f) := fun h => by
    subst h
    obtain ⟨_, _, rfl, rfl, rfl, rfl⟩ := hq2.resolve_right fun h => h.1 ⟨rfl, by decide⟩
    obtain ⟨_, _, rfl, rfl, rfl, rfl⟩ := hq3.resolve_right fun h => h.1 ⟨rfl, by decide⟩
    rfl
  clear ku hR3 hB3 hE2 hq2 hq3 hc
  by_cases h0 : x = 0#64
  · subst h0
    have km := hideit (mark_no w3)
    have hno : Hid (¬ isMk l f) := fun h => h.1 (hx.out (isMk_len h.2)).symm
    clear hx hu hT
    go_upto_region 4 with (fail)
    refine wp_region_lit ?_
    refine wpList_run rfl (.int .u64 ((0#64).toNat : Int)) (by simp [go_sem]) ?_
    simp only [Act.put, List.setIfInBounds_toArray, List.set_cons_zero, List.set_cons_succ]
    refine wpList_call rfl (by simp [go_sem]) ((km.out).mono ?_)
    rintro e w4 ⟨rfl, hw4⟩
    refine ⟨_, rfl, ?_⟩
    simp only [Act.put, List.setIfInBounds_toArray, List.set_cons_zero, List.set_cons_succ]
    subst hw4
    clear km
    refine wpList_run rfl (.tuple #[.slice none 0 0, .int .i64 1]) (by simp [go_sem]) ?_
    simp only [Act.put, List.setIfInBounds_toArray, List.set_cons_zero, List.set_cons_succ]
    refine wpList_run rfl (.slice none 0 0) (by simp [go_sem]) ?_
    simp only [Act.put, List.setIfInBounds_toArray, List.set_cons_zero, List.set_cons_succ]
    refine wpList_run rfl (.int .i64 1) (by simp [go_sem]) ?_
    simp only [Act.put, List.setIfInBounds_toArray, List.set_cons_zero, List.set_cons_succ]
    refine wpList_run rfl (.slice none 0 0) (by simp [go_sem]) ?_
    simp only [Act.put, List.setIfInBounds_toArray, List.set_cons_zero, List.set_cons_succ]
    refine wpList_run rfl (.int .i64 1) (by simp [go_sem]) ?_
    simp only [Act.put, List.setIfInBounds_toArray, List.set_cons_zero, List.set_cons_succ]
    go_upto_region 5 with (fail)
    refine wp_region_lit ?_
    refine wpList_run rfl (.int .i64 1) (by simp [go_sem]) ?_
    simp only [Act.put, List.setIfInBounds_toArray, List.set_cons_zero, List.set_cons_succ]
    refine wpList_run rfl (.bool true) (by simp [go_sem]) ?_
    simp only [Act.put, List.setIfInBounds_toArray, List.set_cons_zero, List.set_cons_succ]
    refine wpList_run rfl (.bool true) (by simp [go_sem]) ?_
    simp only [Act.put, List.setIfInBounds_toArray, List.set_cons_zero, List.set_cons_succ]
    refine wpList_skip rfl ?_
    simp only [Act.put, List.setIfInBounds_toArray, List.set_cons_zero, List.set_cons_succ]
    refine wpList_skip rfl ?_
    simp only [Act.put, List.setIfInBounds_toArray, List.set_cons_zero, List.set_cons_succ]
    refine wpList_skip rfl ?_
    simp only [Act.put, List.setIfInBounds_toArray, List.set_cons_zero, List.set_cons_succ]
    refine wpList_skip rfl ?_
    simp only [Act.put, List.setIfInBounds_toArray, List.set_cons_zero, List.set_cons_succ]
    refine wpList_run rfl (.bool true) (by simp [go_sem]) ?_
    simp only [Act.put, List.setIfInBounds_toArray, List.set_cons_zero, List.set_cons_succ]
    go_wp2
    go_ret2
    exact ⟨hE3.out, .inr ⟨hno.out, rfl⟩⟩
  · have km := hideit (mark_any x h0 w3 (hT.out.ext hE3.out))
    go_upto_region 4 with (fail)
    refine wp_region_lit ?_
    refine wpList_run rfl (.int .u64 (x.toNat : Int)) (by simp [go_sem]) ?_
    simp only [Act.put, List.setIfInBounds_toArray, List.set_cons_zero, List.set_cons_succ]
    refine wpList_call rfl (by simp [go_sem]) ((km.out).mono ?_)
    rintro e w4 ⟨z, rfl, hz, hR4, hX4⟩
    refine ⟨_, rfl, ?_⟩
    simp only [Act.put, List.setIfInBounds_toArray, List.set_cons_zero, List.set_cons_succ]
    have hE4 := hideit (Ext.trans hE3.out hX4)
    have ke := hideit (equal_any (.slice (some ⟨z, 0, none⟩) 512 512) (.slice uo l ucp) 512 l (markF x) f w4 (bv_row hR4) (hu.out.ext hE4.out))
    obtain ⟨r, hr⟩ : ∃ r, r = eqB 512 l (markF x) f := ⟨_, rfl⟩
    rw [← hr] at ke
    have hyes : Hid (r = true → isMk l f ∧ x = nP f) := fun h => by
      rw [hr] at h
      have e := hx.out (isMk_len h)
      exact ⟨⟨by rw [← e]; exact h0, by rw [← e]; exact h⟩, e⟩
    have hno : Hid (r = false → ¬ isMk l f) := fun h k => by
      have e := hx.out (isMk_len k.2)
      have := k.2
      rw [← e, ← hr, h] at this
      cases this
    replace hr := hideit hr
    clear km hu hT hz hR4 hX4 hE3 hx
    refine wpList_run rfl (.tuple #[.slice (some ⟨z, 0, none⟩) 512 512, .int .i64 0]) (by simp [go_sem]) ?_
    simp only [Act.put, List.setIfInBounds_toArray, List.set_cons_zero, List.set_cons_succ]
    refine wpList_run rfl (.slice (some ⟨z, 0, none⟩) 512 512) (by simp [go_sem]) ?_
    simp only [Act.put, List.setIfInBounds_toArray, List.set_cons_zero, List.set_cons_succ]
    refine wpList_run rfl (.int .i64 0) (by simp [go_sem]) ?_
    simp only [Act.put, List.setIfInBounds_toArray, List.set_cons_zero, List.set_cons_succ]
    refine wpList_run rfl (.slice (some ⟨z, 0, none⟩) 512 512) (by simp [go_sem]) ?_
    simp only [Act.put, List.setIfInBounds_toArray, List.set_cons_zero, List.set_cons_succ]
    refine wpList_run rfl (.int .i64 0) (by simp [go_sem]) ?_
    simp only [Act.put, List.setIfInBounds_toArray, List.set_cons_zero, List.set_cons_succ]
    cases r with
    | true =>
      obtain ⟨hy, hxe⟩ := hyes.out rfl
      replace hy := hideit hy
      subst hxe
      clear hyes hno hr
      go_upto_region 5 with (fail)
      refine wp_region_lit ?_
      refine wpList_run rfl (.int .i64 0) (by simp [go_sem]) ?_
      simp only [Act.put, List.setIfInBounds_toArray, List.set_cons_zero, List.set_cons_succ]
      refine wpList_run rfl (.bool false) (by simp [go_sem]) ?_
      simp only [Act.put, List.setIfInBounds_toArray, List.set_cons_zero, List.set_cons_succ]
      refine wpList_run rfl (.bool false) (by simp [go_sem]) ?_
      simp only [Act.put, List.setIfInBounds_toArray, List.set_cons_zero, List.set_cons_succ]
      refine wpList_runW rfl (.slice (some ⟨z, 0, none⟩) 512 512) (by simp [go_sem]) ?_
      simp only [Act.put, List.setIfInBounds_toArray, List.set_cons_zero, List.set_cons_succ]
      refine wpList_runW rfl (.slice uo l ucp) (by simp [go_sem]) ?_
      simp only [Act.put, List.setIfInBounds_toArray, List.set_cons_zero, List.set_cons_succ]
      refine wpList_callW rfl (by simp [go_sem]) ((ke.out).mono ?_)
      rintro e w5 ⟨rfl, hw5⟩
      refine ⟨_, rfl, ?_⟩
      simp only [Act.put, List.setIfInBounds_toArray, List.set_cons_zero, List.set_cons_succ]
      subst hw5
      refine wpList_runW rfl (.bool false) (by simp [go_sem]) ?_
      simp only [Act.put, List.setIfInBounds_toArray, List.set_cons_zero, List.set_cons_succ]
      refine wpList_run rfl (.bool false) (by simp [go_sem]) ?_
      simp only [Act.put, List.setIfInBounds_toArray, List.set_cons_zero, List.set_cons_succ]
      clear ke
      go_wp2
      go_ret2
      exact ⟨hE4.out, .inl ⟨hy.out, rfl⟩⟩
    | false =>
      have hn := hno.out rfl
      replace hn := hideit hn
      clear hyes hno hr
      go_upto_region 5 with (fail)
      refine wp_region_lit ?_
      refine wpList_run rfl (.int .i64 0) (by simp [go_sem]) ?_
      simp only [Act.put, List.setIfInBounds_toArray, List.set_cons_zero, List.set_cons_succ]
      refine wpList_run rfl (.bool false) (by simp [go_sem]) ?_
      simp only [Act.put, List.setIfInBounds_toArray, List.set_cons_zero, List.set_cons_succ]
      refine wpList_run rfl (.bool false) (by simp [go_sem]) ?_
      simp only [Act.put, List.setIfInBounds_toArray, List.set_cons_zero, List.set_cons_succ]
      refine wpList_runW rfl (.slice (some ⟨z, 0, none⟩) 512 512) (by simp [go_sem]) ?_
      simp only [Act.put, List.setIfInBounds_toArray, List.set_cons_zero, List.set_cons_succ]
      refine wpList_runW rfl (.slice uo l ucp) (by simp [go_sem]) ?_
      simp only [Act.put, List.setIfInBounds_toArray, List.set_cons_zero, List.set_cons_succ]
      refine wpList_callW rfl (by simp [go_sem]) ((ke.out).mono ?_)
      rintro e w5 ⟨rfl, hw5⟩
      refine ⟨_, rfl, ?_⟩
      simp only [Act.put, List.setIfInBounds_toArray, List.set_cons_zero, List.set_cons_succ]
      subst hw5
      refine wpList_runW rfl (.bool true) (by simp [go_sem]) ?_
      simp only [Act.put, List.setIfInBounds_toArray, List.set_cons_zero, List.set_cons_succ]
      refine wpList_run rfl (.bool true) (by simp [go_sem]) ?_
      simp only [Act.put, List.setIfInBounds_toArray, List.set_cons_zero, List.set_cons_succ]
      clear ke
      go_wp2
      go_ret2
      exact ⟨hE4.out, .inr ⟨hn.out, rfl⟩⟩
end Go.Proofs.YtedgopionpdfeaaDoor
