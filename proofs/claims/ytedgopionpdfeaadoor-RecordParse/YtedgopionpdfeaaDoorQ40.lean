/-
  The document's Plan; the walk of RecordPlans. The document's turn; parts of bytes within a list.
-/
import Derived.Test.YtedgopionpdfeaaDoorQ39
namespace Go.Proofs.YtedgopionpdfeaaDoor
open Go.RowKit Go.BigFrame
set_option linter.unusedVariables false
theorem IL.cons {v : Value} {n : Nat} {bs : Nat → Int} {w X : World} (h : IL v n bs w) (k : Ext w X) : IL v n bs X := h.ext k
theorem parts_yes (u : Value) (l : Nat) (f : Nat → BitVec 8) (w : World) (hu : BV u l f w) (hp : isPl l f) : Calls Tryd.prog 37 #[u] w fun e w' => ∃ v, e = .returned (.tuple #[.int .u64 ((nP f).toNat : Int), v, .int .u64 ((tP f).toNat : Int), .int .i64 0]) ∧ GI w v (cP f) (bP f) w' ∧ Ext w w' := by
  have hl := hp.1
  subst hl
  refine (parts_512 u f w hu).mono fun e w' ⟨hX, h⟩ => ?_
  rcases h with ⟨_, v, he, hG⟩ | ⟨h, _⟩
  · exact ⟨v, he, hG, hX⟩
  · exact absurd hp h
theorem parts_no (u : Value) (l : Nat) (f : Nat → BitVec 8) (w : World) (hu : BV u l f w) (hp : ¬ isPl l f) : Calls Tryd.prog 37 #[u] w fun e w' => e = .returned (.tuple #[.int .u64 0, .slice none 0 0, .int .u64 0, .int .i64 110]) ∧ Ext w w' := by
  have key : Calls Tryd.prog 37 #[u] w (PtQ w l f) := by
    by_cases hl : l = 512
    · subst hl
      exact parts_512 u f w hu
    · exact parts_len u l f w hu hl
  refine key.mono fun e w' ⟨hX, h⟩ => ?_
  rcases h with ⟨h, _⟩ | ⟨_, he⟩
  · exact absurd h hp
  · exact ⟨he, hX⟩
set_option maxRecDepth 20000 in
set_option maxHeartbeats 4000000 in
theorem rpl_yes (u : Value) (l : Nat) (f : Nat → BitVec 8) (w : World) (hu : BV u l f w) (hp : isPl l f) : Calls Tryd.prog 16 #[u] w fun e w' => ∃ v, e = .returned (.tuple #[.int .u64 ((nP f).toNat : Int), v, .int .i64 0]) ∧ GI w v (cP f) (bP f) w' ∧ Ext w w' := by
  replace hu := hideit hu
  replace hp := hideit hp
  have hE := hideit (Ext.refl w)
  go_enter Tryd.func16, Tryd.ntmps16
  go_upto_region 1 with (fail)
  refine wp_region_lit ?_
  refine wpList_run rfl (u) (by simp [go_sem]) ?_
  simp only [Act.put, List.setIfInBounds_toArray, List.set_cons_zero, List.set_cons_succ]
  refine wpList_call rfl (by simp [go_sem]) ((parts_yes u l f w hu.out hp.out).mono ?_)
  rintro e w1 ⟨v, rfl, hG, hX⟩
  refine ⟨_, rfl, ?_⟩
  simp only [Act.put, List.setIfInBounds_toArray, List.set_cons_zero, List.set_cons_succ]
  replace hE := hideit (Ext.trans hE.out hX)
  replace hG := hideit hG
  refine wpList_run rfl (.tuple #[.int .u64 ((nP f).toNat : Int), v, .int .u64 ((tP f).toNat : Int), .int .i64 0]) (by simp [go_sem]) ?_
  simp only [Act.put, List.setIfInBounds_toArray, List.set_cons_zero, List.set_cons_succ]
  refine wpList_run rfl (.int .u64 ((nP f).toNat : Int)) (by simp [go_sem]) ?_
  simp only [Act.put, List.setIfInBounds_toArray, List.set_cons_zero, List.set_cons_succ]
  refine wpList_run rfl (v) (by simp [go_sem]) ?_
  simp only [Act.put, List.setIfInBounds_toArray, List.set_cons_zero, List.set_cons_succ]
  refine wpList_run rfl (.int .u64 ((tP f).toNat : Int)) (by simp [go_sem]) ?_
  simp only [Act.put, List.setIfInBounds_toArray, List.set_cons_zero, List.set_cons_succ]
  refine wpList_run rfl (.int .i64 0) (by simp [go_sem]) ?_
  simp only [Act.put, List.setIfInBounds_toArray, List.set_cons_zero, List.set_cons_succ]
  refine wpList_run rfl (.int .u64 ((nP f).toNat : Int)) (by simp [go_sem]) ?_
  simp only [Act.put, List.setIfInBounds_toArray, List.set_cons_zero, List.set_cons_succ]
  refine wpList_run rfl (v) (by simp [go_sem]) ?_
  simp only [Act.put, List.setIfInBounds_toArray, List.set_cons_zero, List.set_cons_succ]
  refine wpList_run rfl (.int .u64 ((tP f).toNat : Int)) (by simp [go_sem]) ?_
  simp only [Act.put, List.setIfInBounds_toArray, List.set_cons_zero, List.set_cons_succ]
  refine wpList_run rfl (.int .i64 0) (by simp [go_sem]) ?_
  simp only [Act.put, List.setIfInBounds_toArray, List.set_cons_zero, List.set_cons_succ]
  go_upto_region 2 with (fail)
  refine wp_region_lit ?_
  refine wpList_run rfl (.int .u64 ((nP f).toNat : Int)) (by simp [go_sem]) ?_
  simp only [Act.put, List.setIfInBounds_toArray, List.set_cons_zero, List.set_cons_succ]
  refine wpList_run rfl (v) (by simp [go_sem]) ?_
  simp only [Act.put, List.setIfInBounds_toArray, List.set_cons_zero, List.set_cons_succ]
  refine wpList_run rfl (.int .i64 0) (by simp [go_sem]) ?_
  simp only [Act.put, List.setIfInBounds_toArray, List.set_cons_zero, List.set_cons_succ]
  refine wpList_run rfl (.int .u64 ((nP f).toNat : Int)) (by simp [go_sem]) ?_
  simp only [Act.put, List.setIfInBounds_toArray, List.set_cons_zero, List.set_cons_succ]
  refine wpList_run rfl (v) (by simp [go_sem]) ?_
  simp only [Act.put, List.setIfInBounds_toArray, List.set_cons_zero, List.set_cons_succ]
  refine wpList_run rfl (.int .i64 0) (by simp [go_sem]) ?_
  simp only [Act.put, List.setIfInBounds_toArray, List.set_cons_zero, List.set_cons_succ]
  go_wp2
  refine bodyPost_ret (res3 rfl _ _ _) rfl ?_
  exact ⟨v, rfl, hG.out, hE.out⟩
set_option maxRecDepth 20000 in
set_option maxHeartbeats 4000000 in
theorem rpl_no (u : Value) (l : Nat) (f : Nat → BitVec 8) (w : World) (hu : BV u l f w) (hp : ¬ isPl l f) : Calls Tryd.prog 16 #[u] w fun e w' => e = .returned (.tuple #[.int .u64 0, .slice none 0 0, .int .i64 110]) ∧ Ext w w' := by
  replace hu := hideit hu
  replace hp := hideit hp
  have hE := hideit (Ext.refl w)
  go_enter Tryd.func16, Tryd.ntmps16
  go_upto_region 1 with (fail)
  refine wp_region_lit ?_
  refine wpList_run rfl (u) (by simp [go_sem]) ?_
  simp only [Act.put, List.setIfInBounds_toArray, List.set_cons_zero, List.set_cons_succ]
  refine wpList_call rfl (by simp [go_sem]) ((parts_no u l f w hu.out hp.out).mono ?_)
  rintro e w1 ⟨rfl, hX⟩
  refine ⟨_, rfl, ?_⟩
  simp only [Act.put, List.setIfInBounds_toArray, List.set_cons_zero, List.set_cons_succ]
  replace hE := hideit (Ext.trans hE.out hX)
  refine wpList_run rfl (.tuple #[.int .u64 0, .slice none 0 0, .int .u64 0, .int .i64 110]) (by simp [go_sem]) ?_
  simp only [Act.put, List.setIfInBounds_toArray, List.set_cons_zero, List.set_cons_succ]
  refine wpList_run rfl (.int .u64 0) (by simp [go_sem]) ?_
  simp only [Act.put, List.setIfInBounds_toArray, List.set_cons_zero, List.set_cons_succ]
  refine wpList_run rfl (.slice none 0 0) (by simp [go_sem]) ?_
  simp only [Act.put, List.setIfInBounds_toArray, List.set_cons_zero, List.set_cons_succ]
  refine wpList_run rfl (.int .u64 0) (by simp [go_sem]) ?_
  simp only [Act.put, List.setIfInBounds_toArray, List.set_cons_zero, List.set_cons_succ]
  refine wpList_run rfl (.int .i64 110) (by simp [go_sem]) ?_
  simp only [Act.put, List.setIfInBounds_toArray, List.set_cons_zero, List.set_cons_succ]
  refine wpList_run rfl (.int .u64 0) (by simp [go_sem]) ?_
  simp only [Act.put, List.setIfInBounds_toArray, List.set_cons_zero, List.set_cons_succ]
  refine wpList_run rfl (.slice none 0 0) (by simp [go_sem]) ?_
  simp only [Act.put, List.setIfInBounds_toArray, List.set_cons_zero, List.set_cons_succ]
  refine wpList_run rfl (.int .u64 0) (by simp [go_sem]) ?_
  simp only [Act.put, List.setIfInBounds_toArray, List.set_cons_zero, List.set_cons_succ]
  refine wpList_run rfl (.int .i64 110) (by simp [go_sem]) ?_
  simp only [Act.put, List.setIfInBounds_toArray, List.set_cons_zero, List.set_cons_succ]
  go_upto_region 2 with (fail)
  refine wp_region_lit ?_
  refine wpList_run rfl (.int .u64 0) (by simp [go_sem]) ?_
  simp only [Act.put, List.setIfInBounds_toArray, List.set_cons_zero, List.set_cons_succ]
  refine wpList_run rfl (.slice none 0 0) (by simp [go_sem]) ?_
  simp only [Act.put, List.setIfInBounds_toArray, List.set_cons_zero, List.set_cons_succ]
  refine wpList_run rfl (.int .i64 110) (by simp [go_sem]) ?_
  simp only [Act.put, List.setIfInBounds_toArray, List.set_cons_zero, List.set_cons_succ]
  refine wpList_run rfl (.int .u64 0) (by simp [go_sem]) ?_
  simp only [Act.put, List.setIfInBounds_toArray, List.set_cons_zero, List.set_cons_succ]
  refine wpList_run rfl (.slice none 0 0) (by simp [go_sem]) ?_
  simp only [Act.put, List.setIfInBounds_toArray, List.set_cons_zero, List.set_cons_succ]
  refine wpList_run rfl (.int .i64 110) (by simp [go_sem]) ?_
  simp only [Act.put, List.setIfInBounds_toArray, List.set_cons_zero, List.set_cons_succ]
  go_wp2
  refine bodyPost_ret (res3 rfl _ _ _) rfl ?_
  exact ⟨rfl, hE.out⟩
/-- both sides answer one thing -/
theorem plan_both (u : Value) (l : Nat) (f : Nat → BitVec 8) (hl : l ≤ 140737488355328) : ∃ (x : BitVec 64) (n : Nat) (c : Int), n ≤ 64 ∧ (∀ w, BV u l f w → Calls Tryd.prog 15 #[u] w fun e w' => ∃ v, e = .returned (.tuple #[.int .u64 (x.toNat : Int), v, .int .i64 c]) ∧ IL v n (bP f) w' ∧ Ext w w') ∧ (∀ w, BV u l f w → Calls Tryd.prog 16 #[u] w fun e w' => ∃ v, e = .returned (.tuple #[.int .u64 (x.toNat : Int), v, .int .i64 c]) ∧ IL v n (bP f) w' ∧ Ext w w') := by
  by_cases hp : isPl l f
  · refine ⟨nP f, cP f, 0, hp.2.2.2.2.2.2.1, fun w hu => (plan_any u l f w hu hl).mono fun e w' ⟨hX, h⟩ => ?_, fun w hu => (rpl_yes u l f w hu hp).mono fun e w' ⟨v, he, hG, hX⟩ => ⟨v, he, hG.il fun j _ => bP_ok f j, hX⟩⟩
    rcases h with ⟨_, v, he, hO⟩ | ⟨h, _⟩
    · exact ⟨v, he, hO.il fun j _ => bP_ok f j, hX⟩
    · exact absurd hp h
  · refine ⟨0#64, 0, 110, by decide, fun w hu => (plan_any u l f w hu hl).mono fun e w' ⟨hX, h⟩ => ?_, fun w hu => (rpl_no u l f w hu hp).mono fun e w' ⟨he, hX⟩ => ⟨_, he, ⟨.inl ⟨rfl, rfl⟩, fun j hj => absurd hj (Nat.not_lt_zero _)⟩, hX⟩⟩
    rcases h with ⟨h, _⟩ | ⟨_, he⟩
    · exact absurd h hp
    · exact ⟨_, he, ⟨.inl ⟨rfl, rfl⟩, fun j hj => absurd hj (Nat.not_lt_zero _)⟩, hX⟩
theorem mark_both (u : Value) (l : Nat) (f : Nat → BitVec 8) (hl : l ≤ 140737488355328) : ∃ (y : BitVec 64) (c : Int), (∀ w, BV u l f w → TabC w → Calls Tryd.prog 17 #[u] w fun e w' => e = .returned (.tuple #[.int .u64 (y.toNat : Int), .int .i64 c]) ∧ Ext w w') ∧ (∀ w, BV u l f w → Calls Tryd.prog 18 #[u] w fun e w' => e = .returned (.tuple #[.int .u64 (y.toNat : Int), .int .i64 c]) ∧ Ext w w') := by
  by_cases hp : isMk l f
  · exact ⟨nP f, 0, fun w hu hT => readm_yes u l f w hu hl hT hp, fun w hu => rreadm_yes u l f w hu hp⟩
  · exact ⟨0#64, 110, fun w hu hT => readm_no u l f w hu hl hT hp, fun w hu => rreadm_no u l f w hu hp⟩
set_option maxRecDepth 20000 in
set_option maxHeartbeats 4000000 in
theorem plans_any (u : Value) (l : Nat) (f : Nat → BitVec 8) (w : World) (hu : BV u l f w) (hl : l ≤ 140737488355328) (hT : TabC w) : Calls Tryd.prog 5 #[u] w fun e w' => e = .returned (.bool true) ∧ Ext w w' := by
  obtain ⟨x, n, c, hn, ka, kb⟩ := plan_both u l f hl
  obtain ⟨y, d, kc, kd⟩ := mark_both u l f hl
  replace ka := hideit ka
  replace kb := hideit kb
  replace kc := hideit kc
  replace kd := hideit kd
  replace hn := hideit hn
  replace hT := hideit hT
  replace hu := hideit hu
  have hE := hideit (Ext.refl w)
  go_enter Tryd.func5, Tryd.ntmps5
  go_upto_region 1 with (fail)
  refine wp_region_lit ?_
  refine wpList_run rfl (u) (by simp [go_sem]) ?_
  simp only [Act.put, List.setIfInBounds_toArray, List.set_cons_zero, List.set_cons_succ]
  refine wpList_call rfl (by simp [go_sem]) ((ka.out w hu.out).mono ?_)
  rintro e pw ⟨pv, rfl, ph, pX⟩
  refine ⟨_, rfl, ?_⟩
  simp only [Act.put, List.setIfInBounds_toArray, List.set_cons_zero, List.set_cons_succ]
  replace hu := hideit (hu.out.ext pX)
  replace hT := hideit (hT.out.ext pX)
  replace hE := hideit (Ext.trans hE.out pX)
  obtain ⟨po, pc, rfl⟩ := ph.form
  replace ph := hideit ph
  clear pX
  refine wpList_run rfl (.tuple #[.int .u64 (x.toNat : Int), .slice po n pc, .int .i64 (c)]) (by simp [go_sem]) ?_
  simp only [Act.put, List.setIfInBounds_toArray, List.set_cons_zero, List.set_cons_succ]
  refine wpList_run rfl (.int .u64 (x.toNat : Int)) (by simp [go_sem]) ?_
  simp only [Act.put, List.setIfInBounds_toArray, List.set_cons_zero, List.set_cons_succ]
  refine wpList_run rfl (.slice po n pc) (by simp [go_sem]) ?_
  simp only [Act.put, List.setIfInBounds_toArray, List.set_cons_zero, List.set_cons_succ]
  refine wpList_run rfl (.int .i64 (c)) (by simp [go_sem]) ?_
  simp only [Act.put, List.setIfInBounds_toArray, List.set_cons_zero, List.set_cons_succ]
  refine wpList_run rfl (.int .u64 (x.toNat : Int)) (by simp [go_sem]) ?_
  simp only [Act.put, List.setIfInBounds_toArray, List.set_cons_zero, List.set_cons_succ]
  refine wpList_run rfl (.slice po n pc) (by simp [go_sem]) ?_
  simp only [Act.put, List.setIfInBounds_toArray, List.set_cons_zero, List.set_cons_succ]
  refine wpList_run rfl (.int .i64 (c)) (by simp [go_sem]) ?_
  simp only [Act.put, List.setIfInBounds_toArray, List.set_cons_zero, List.set_cons_succ]
  go_upto_region 2 with (fail)
  refine wp_region_lit ?_
  refine wpList_run rfl (u) (by simp [go_sem]) ?_
  simp only [Act.put, List.setIfInBounds_toArray, List.set_cons_zero, List.set_cons_succ]
  refine wpList_call rfl (by simp [go_sem]) ((kb.out pw hu.out).mono ?_)
  rintro e qw ⟨qv, rfl, qh, qX⟩
  refine ⟨_, rfl, ?_⟩
  simp only [Act.put, List.setIfInBounds_toArray, List.set_cons_zero, List.set_cons_succ]
  replace hu := hideit (hu.out.ext qX)
  replace hT := hideit (hT.out.ext qX)
  replace ph := hideit (ph.out.ext qX)
  replace hE := hideit (Ext.trans hE.out qX)
  obtain ⟨qo, qc, rfl⟩ := qh.form
  replace qh := hideit qh
  clear qX
  refine wpList_run rfl (.tuple #[.int .u64 (x.toNat : Int), .slice qo n qc, .int .i64 (c)]) (by simp [go_sem]) ?_
  simp only [Act.put, List.setIfInBounds_toArray, List.set_cons_zero, List.set_cons_succ]
  refine wpList_run rfl (.int .u64 (x.toNat : Int)) (by simp [go_sem]) ?_
  simp only [Act.put, List.setIfInBounds_toArray, List.set_cons_zero, List.set_cons_succ]
  refine wpList_run rfl (.slice qo n qc) (by simp [go_sem]) ?_
  simp only [Act.put, List.setIfInBounds_toArray, List.set_cons_zero, List.set_cons_succ]
  refine wpList_run rfl (.int .i64 (c)) (by simp [go_sem]) ?_
  simp only [Act.put, List.setIfInBounds_toArray, List.set_cons_zero, List.set_cons_succ]
  refine wpList_run rfl (.int .u64 (x.toNat : Int)) (by simp [go_sem]) ?_
  simp only [Act.put, List.setIfInBounds_toArray, List.set_cons_zero, List.set_cons_succ]
  refine wpList_run rfl (.slice qo n qc) (by simp [go_sem]) ?_
  simp only [Act.put, List.setIfInBounds_toArray, List.set_cons_zero, List.set_cons_succ]
  refine wpList_run rfl (.int .i64 (c)) (by simp [go_sem]) ?_
  simp only [Act.put, List.setIfInBounds_toArray, List.set_cons_zero, List.set_cons_succ]
  go_upto_region 3 with (fail)
  refine wp_region_lit ?_
  refine wpList_run rfl (u) (by simp [go_sem]) ?_
  simp only [Act.put, List.setIfInBounds_toArray, List.set_cons_zero, List.set_cons_succ]
  refine wpList_call rfl (by simp [go_sem]) ((kc.out qw hu.out hT.out).mono ?_)
  rintro e y1 ⟨rfl, hX2⟩
  refine ⟨_, rfl, ?_⟩
  simp only [Act.put, List.setIfInBounds_toArray, List.set_cons_zero, List.set_cons_succ]
  replace hu := hideit (hu.out.ext hX2)
  replace hT := hideit (hT.out.ext hX2)
  replace ph := hideit (ph.out.ext hX2)
  replace qh := hideit (qh.out.ext hX2)
  replace hE := hideit (Ext.trans hE.out hX2)

  clear hX2
  refine wpList_run rfl (.tuple #[.int .u64 (y.toNat : Int), .int .i64 (d)]) (by simp [go_sem]) ?_
  simp only [Act.put, List.setIfInBounds_toArray, List.set_cons_zero, List.set_cons_succ]
  refine wpList_run rfl (.int .u64 (y.toNat : Int)) (by simp [go_sem]) ?_
  simp only [Act.put, List.setIfInBounds_toArray, List.set_cons_zero, List.set_cons_succ]
  refine wpList_run rfl (.int .i64 (d)) (by simp [go_sem]) ?_
  simp only [Act.put, List.setIfInBounds_toArray, List.set_cons_zero, List.set_cons_succ]
  refine wpList_run rfl (.int .u64 (y.toNat : Int)) (by simp [go_sem]) ?_
  simp only [Act.put, List.setIfInBounds_toArray, List.set_cons_zero, List.set_cons_succ]
  refine wpList_run rfl (.int .i64 (d)) (by simp [go_sem]) ?_
  simp only [Act.put, List.setIfInBounds_toArray, List.set_cons_zero, List.set_cons_succ]
  go_upto_region 4 with (fail)
  refine wp_region_lit ?_
  refine wpList_run rfl (u) (by simp [go_sem]) ?_
  simp only [Act.put, List.setIfInBounds_toArray, List.set_cons_zero, List.set_cons_succ]
  refine wpList_call rfl (by simp [go_sem]) ((kd.out y1 hu.out).mono ?_)
  rintro e y3 ⟨rfl, hX4⟩
  refine ⟨_, rfl, ?_⟩
  simp only [Act.put, List.setIfInBounds_toArray, List.set_cons_zero, List.set_cons_succ]
  replace hu := hideit (hu.out.ext hX4)
  replace hT := hideit (hT.out.ext hX4)
  replace ph := hideit (ph.out.ext hX4)
  replace qh := hideit (qh.out.ext hX4)
  replace hE := hideit (Ext.trans hE.out hX4)

  clear hX4
  refine wpList_run rfl (.tuple #[.int .u64 (y.toNat : Int), .int .i64 (d)]) (by simp [go_sem]) ?_
  simp only [Act.put, List.setIfInBounds_toArray, List.set_cons_zero, List.set_cons_succ]
  refine wpList_run rfl (.int .u64 (y.toNat : Int)) (by simp [go_sem]) ?_
  simp only [Act.put, List.setIfInBounds_toArray, List.set_cons_zero, List.set_cons_succ]
  refine wpList_run rfl (.int .i64 (d)) (by simp [go_sem]) ?_
  simp only [Act.put, List.setIfInBounds_toArray, List.set_cons_zero, List.set_cons_succ]
  refine wpList_run rfl (.int .u64 (y.toNat : Int)) (by simp [go_sem]) ?_
  simp only [Act.put, List.setIfInBounds_toArray, List.set_cons_zero, List.set_cons_succ]
  refine wpList_run rfl (.int .i64 (d)) (by simp [go_sem]) ?_
  simp only [Act.put, List.setIfInBounds_toArray, List.set_cons_zero, List.set_cons_succ]
  go_upto_region 5 with (fail)
  refine wp_region_lit ?_
  refine wpList_call rfl (by simp [go_sem]) ((lives_any y3 hT.out).mono ?_)
  rintro e y5 ⟨rfl, hX6⟩
  refine ⟨_, rfl, ?_⟩
  simp only [Act.put, List.setIfInBounds_toArray, List.set_cons_zero, List.set_cons_succ]
  replace hu := hideit (hu.out.ext hX6)
  replace hT := hideit (hT.out.ext hX6)
  replace ph := hideit (ph.out.ext hX6)
  replace qh := hideit (qh.out.ext hX6)
  replace hE := hideit (Ext.trans hE.out hX6)

  clear hX6
  refine wpList_run rfl (.bool false) (by simp [go_sem]) ?_
  simp only [Act.put, List.setIfInBounds_toArray, List.set_cons_zero, List.set_cons_succ]
  refine wpList_run rfl (.bool false) (by simp [go_sem]) ?_
  simp only [Act.put, List.setIfInBounds_toArray, List.set_cons_zero, List.set_cons_succ]
  refine wpList_runW rfl (.int .u64 (x.toNat : Int)) (by simp [go_sem]) ?_
  simp only [Act.put, List.setIfInBounds_toArray, List.set_cons_zero, List.set_cons_succ]
  refine wpList_runW rfl (.int .u64 (x.toNat : Int)) (by simp [go_sem]) ?_
  simp only [Act.put, List.setIfInBounds_toArray, List.set_cons_zero, List.set_cons_succ]
  refine wpList_runW rfl (.bool false) (by simp [go_sem]) ?_
  simp only [Act.put, List.setIfInBounds_toArray, List.set_cons_zero, List.set_cons_succ]
  refine wpList_run rfl (.bool false) (by simp [go_sem]) ?_
  simp only [Act.put, List.setIfInBounds_toArray, List.set_cons_zero, List.set_cons_succ]
  refine wpList_run rfl (.bool false) (by simp [go_sem]) ?_
  simp only [Act.put, List.setIfInBounds_toArray, List.set_cons_zero, List.set_cons_succ]
  refine wpList_runW rfl (.int .i64 (c)) (by simp [go_sem]) ?_
  simp only [Act.put, List.setIfInBounds_toArray, List.set_cons_zero, List.set_cons_succ]
  refine wpList_runW rfl (.int .i64 (c)) (by simp [go_sem]) ?_
  simp only [Act.put, List.setIfInBounds_toArray, List.set_cons_zero, List.set_cons_succ]
  refine wpList_runW rfl (.bool false) (by simp [go_sem]) ?_
  simp only [Act.put, List.setIfInBounds_toArray, List.set_cons_zero, List.set_cons_succ]
  refine wpList_run rfl (.bool false) (by simp [go_sem]) ?_
  simp only [Act.put, List.setIfInBounds_toArray, List.set_cons_zero, List.set_cons_succ]
  refine wpList_run rfl (.bool false) (by simp [go_sem]) ?_
  simp only [Act.put, List.setIfInBounds_toArray, List.set_cons_zero, List.set_cons_succ]
  refine wpList_runW rfl (.int .u64 (y.toNat : Int)) (by simp [go_sem]) ?_
  simp only [Act.put, List.setIfInBounds_toArray, List.set_cons_zero, List.set_cons_succ]
  refine wpList_runW rfl (.int .u64 (y.toNat : Int)) (by simp [go_sem]) ?_
  simp only [Act.put, List.setIfInBounds_toArray, List.set_cons_zero, List.set_cons_succ]
  refine wpList_runW rfl (.bool false) (by simp [go_sem]) ?_
  simp only [Act.put, List.setIfInBounds_toArray, List.set_cons_zero, List.set_cons_succ]
  refine wpList_run rfl (.bool false) (by simp [go_sem]) ?_
  simp only [Act.put, List.setIfInBounds_toArray, List.set_cons_zero, List.set_cons_succ]
  refine wpList_run rfl (.bool false) (by simp [go_sem]) ?_
  simp only [Act.put, List.setIfInBounds_toArray, List.set_cons_zero, List.set_cons_succ]
  refine wpList_runW rfl (.int .i64 (d)) (by simp [go_sem]) ?_
  simp only [Act.put, List.setIfInBounds_toArray, List.set_cons_zero, List.set_cons_succ]
  refine wpList_runW rfl (.int .i64 (d)) (by simp [go_sem]) ?_
  simp only [Act.put, List.setIfInBounds_toArray, List.set_cons_zero, List.set_cons_succ]
  refine wpList_runW rfl (.bool false) (by simp [go_sem]) ?_
  simp only [Act.put, List.setIfInBounds_toArray, List.set_cons_zero, List.set_cons_succ]
  refine wpList_run rfl (.bool false) (by simp [go_sem]) ?_
  simp only [Act.put, List.setIfInBounds_toArray, List.set_cons_zero, List.set_cons_succ]
  refine wpList_run rfl (.bool false) (by simp [go_sem]) ?_
  simp only [Act.put, List.setIfInBounds_toArray, List.set_cons_zero, List.set_cons_succ]
  refine wpList_runW rfl (.slice po n pc) (by simp [go_sem]) ?_
  simp only [Act.put, List.setIfInBounds_toArray, List.set_cons_zero, List.set_cons_succ]
  refine wpList_runW rfl (.int .i64 (n : Int)) (by simp [go_sem]) ?_
  simp only [Act.put, List.setIfInBounds_toArray, List.set_cons_zero, List.set_cons_succ]
  refine wpList_runW rfl (.slice qo n qc) (by simp [go_sem]) ?_
  simp only [Act.put, List.setIfInBounds_toArray, List.set_cons_zero, List.set_cons_succ]
  refine wpList_runW rfl (.int .i64 (n : Int)) (by simp [go_sem]) ?_
  simp only [Act.put, List.setIfInBounds_toArray, List.set_cons_zero, List.set_cons_succ]
  refine wpList_runW rfl (.bool false) (by simp [go_sem]) ?_
  simp only [Act.put, List.setIfInBounds_toArray, List.set_cons_zero, List.set_cons_succ]
  refine wpList_run rfl (.bool false) (by simp [go_sem]) ?_
  simp only [Act.put, List.setIfInBounds_toArray, List.set_cons_zero, List.set_cons_succ]
  go_upto_region 7 with (fail)
  refine wp_region_lit ?_
  refine wpList_run rfl (.int .i64 0) (by simp [go_sem]) ?_
  simp only [Act.put, List.setIfInBounds_toArray, List.set_cons_zero, List.set_cons_succ]
  clear ka kb kc kd hu hT
  have hE0 := hE
  have ph0 := ph
  have qh0 := qh
  generalize hz : y5 = z at *
  clear hz
  go_wp2
  go_loopw [13] (fun i X => ∃ k : Nat, k ≤ n ∧ i = .int .i64 (k : Int) ∧ Ext z X) (fun i _ => 64 - (intOf i).toNat)
  case atStart => exact ⟨0, Nat.zero_le _, rfl, Ext.refl _⟩
  case round =>
    obtain ⟨k, hk, rfl, hX⟩ := hrel
    clear hE ph qh
    by_cases hlt : k < n
    · have k1 : (k : Int) < (n : Int) := by omega
      have ek : IntKind.i64.wrap ((k : Int) + 1) = ((k + 1 : Nat) : Int) := by have := hn.out; rw [IntKind.wrap_i64]; omega
      obtain ⟨a, ha, _⟩ := ph0.out.at k hlt
      obtain ⟨b, hb, _⟩ := qh0.out.at k hlt
      have hL : Hid (∀ X, Ext wr.drew X → X.cell? (a.add k) = some (.int .i64 (bP f k)) ∧ X.cell? (b.add k) = some (.int .i64 (bP f k))) := fun X hX' => by
        have hh := Ext.trans (Ext.draw hX) hX'
        obtain ⟨_, e1, q1⟩ := (ph0.out.ext hh).at k hlt
        obtain ⟨_, e2, q2⟩ := (qh0.out.ext hh).at k hlt
        rw [ha] at e1
        rw [hb] at e2
        injection e1 with e1
        injection e2 with e2
        subst e1
        subst e2
        exact ⟨q1, q2⟩
      subst ha
      subst hb
      replace hX := hideit hX
      replace hlt := hideit hlt
      go_upto_region 8 with (fail)
      refine wp_region_lit ?_
      refine wpList_run rfl (.int .i64 (k : Int)) (by simp [go_sem]) ?_
      simp only [Act.put, List.setIfInBounds_toArray, List.set_cons_zero, List.set_cons_succ]
      refine wpList_run rfl (.slice (some a) n pc) (by simp [go_sem]) ?_
      simp only [Act.put, List.setIfInBounds_toArray, List.set_cons_zero, List.set_cons_succ]
      refine wpList_run rfl (.int .i64 (n : Int)) (by simp [go_sem]) ?_
      simp only [Act.put, List.setIfInBounds_toArray, List.set_cons_zero, List.set_cons_succ]
      refine wpList_run rfl (.bool true) (by simp [go_sem, k1]) ?_
      simp only [Act.put, List.setIfInBounds_toArray, List.set_cons_zero, List.set_cons_succ]
      go_upto_region 10 with (fail)
      replace hX := hideit (Ext.draw hX.out)
      refine wp_region_lad (fun X => Ext wr.drew X) [(false, 0), (false, 1), (false, 2), (false, 3), (false, 4), (false, 5), (false, 6), (false, 7), (false, 8)] (by kernel_rfl) (by kernel_rfl) (by decide +kernel) (by decide +kernel) (by decide +kernel) (by decide +kernel) (Ext.refl _) ?_
      refine wpX_f _ (.slice (some a) n pc) rfl rfl (fun X _ => by simp [go_sem]) ?_
      simp only [List.getElem_toArray, List.getElem_cons_zero, Act.put, List.setIfInBounds_toArray, List.set_cons_zero, List.set_cons_succ]
      refine wpX_f _ (.int .i64 (k : Int)) rfl rfl (fun X _ => by simp [go_sem]) ?_
      simp only [List.getElem_toArray, List.getElem_cons_zero, List.getElem_cons_succ, Act.put, List.setIfInBounds_toArray, List.set_cons_zero, List.set_cons_succ]
      refine wpX_f _ (.pointer (some (a.add k))) rfl rfl (fun X _ => by simp [go_sem, k1]) ?_
      simp only [List.getElem_toArray, List.getElem_cons_zero, List.getElem_cons_succ, Act.put, List.setIfInBounds_toArray, List.set_cons_zero, List.set_cons_succ]
      refine wpX_f _ (.int .i64 (bP f k)) rfl rfl (fun X hX => (by have q := (hL.out X hX).1; simp [go_sem, q])) ?_
      simp only [List.getElem_toArray, List.getElem_cons_zero, List.getElem_cons_succ, Act.put, List.setIfInBounds_toArray, List.set_cons_zero, List.set_cons_succ]
      refine wpX_f _ (.slice (some b) n qc) rfl rfl (fun X _ => by simp [go_sem]) ?_
      simp only [List.getElem_toArray, List.getElem_cons_zero, List.getElem_cons_succ, Act.put, List.setIfInBounds_toArray, List.set_cons_zero, List.set_cons_succ]
      refine wpX_f _ (.int .i64 (k : Int)) rfl rfl (fun X _ => by simp [go_sem]) ?_
      simp only [List.getElem_toArray, List.getElem_cons_zero, List.getElem_cons_succ, Act.put, List.setIfInBounds_toArray, List.set_cons_zero, List.set_cons_succ]
      refine wpX_f _ (.pointer (some (b.add k))) rfl rfl (fun X _ => by simp [go_sem, k1]) ?_
      simp only [List.getElem_toArray, List.getElem_cons_zero, List.getElem_cons_succ, Act.put, List.setIfInBounds_toArray, List.set_cons_zero, List.set_cons_succ]
      refine wpX_f _ (.int .i64 (bP f k)) rfl rfl (fun X hX => (by have q := (hL.out X hX).2; simp [go_sem, q])) ?_
      simp only [List.getElem_toArray, List.getElem_cons_zero, List.getElem_cons_succ, Act.put, List.setIfInBounds_toArray, List.set_cons_zero, List.set_cons_succ]
      refine wpX_f _ (.bool false) rfl rfl (fun X _ => by simp [go_sem]) ?_
      simp only [List.getElem_toArray, List.getElem_cons_zero, List.getElem_cons_succ, Act.put, List.setIfInBounds_toArray, List.set_cons_zero, List.set_cons_succ]
      refine wpX_nil ?_
      go_upto_region 9 with (fail)
      refine wp_region_lit ?_
      refine wpList_run rfl (.int .i64 (k : Int)) (by simp [go_sem]) ?_
      simp only [Act.put, List.setIfInBounds_toArray, List.set_cons_zero, List.set_cons_succ]
      refine wpList_run rfl (.int .i64 ((k + 1 : Nat) : Int)) (by simp [go_sem, ek]) ?_
      simp only [Act.put, List.setIfInBounds_toArray, List.set_cons_zero, List.set_cons_succ]
      refine wpList_run rfl (.int .i64 ((k + 1 : Nat) : Int)) (by simp [go_sem]) ?_
      simp only [Act.put, List.setIfInBounds_toArray, List.set_cons_zero, List.set_cons_succ]
      go_wp2
      refine ⟨⟨k + 1, by have := hlt.out; omega, rfl, hX.out⟩, by have := hlt.out; have := hn.out; simp [intOf]; omega⟩
    · obtain rfl : k = n := by omega
      have k1 : ¬ (k : Int) < (k : Int) := by omega
      replace hX := hideit (Ext.trans hE0.out hX)
      go_upto_region 8 with (fail)
      refine wp_region_lit ?_
      refine wpList_run rfl (.int .i64 (k : Int)) (by simp [go_sem]) ?_
      simp only [Act.put, List.setIfInBounds_toArray, List.set_cons_zero, List.set_cons_succ]
      refine wpList_run rfl (.slice po k pc) (by simp [go_sem]) ?_
      simp only [Act.put, List.setIfInBounds_toArray, List.set_cons_zero, List.set_cons_succ]
      refine wpList_run rfl (.int .i64 (k : Int)) (by simp [go_sem]) ?_
      simp only [Act.put, List.setIfInBounds_toArray, List.set_cons_zero, List.set_cons_succ]
      refine wpList_run rfl (.bool false) (by simp [go_sem, k1]) ?_
      simp only [Act.put, List.setIfInBounds_toArray, List.set_cons_zero, List.set_cons_succ]
      go_upto_region 12 with (fail)
      refine wp_region_lit ?_
      refine wpList_run rfl (.bool true) (by simp [go_sem]) ?_
      simp only [Act.put, List.setIfInBounds_toArray, List.set_cons_zero, List.set_cons_succ]
      go_wp2
      go_ret
      exact ⟨rfl, hX.out⟩
end Go.Proofs.YtedgopionpdfeaaDoor
namespace Go.Proofs.YtedgopionpdfeaaDoor
open Go.RowKit Go.BigFrame
set_option linter.unusedVariables false
/-- the first byte's highest bit turned -/
def tuF (f : Nat → BitVec 8) (j : Nat) : BitVec 8 := if j = 0 then f 0 ^^^ 128#8 else f j
theorem x8_128 (a : BitVec 8) : bits .xor .u8 (a.toNat : Int) 128 = ((a ^^^ 128#8).toNat : Int) := by
  have := u8_xor_nat a.toNat 128 a.isLt (by decide)
  rw [show ((128 : Nat) : Int) = 128 from rfl] at this
  rw [this, BitVec.toNat_xor]
  rfl
theorem tu_set (f : Nat → BitVec 8) (j : Nat) : (if j = 0 then Value.int .u8 ((f 0 ^^^ 128#8).toNat : Int) else yv f j) = yv (tuF f) j := by
  unfold tuF
  by_cases h : j = 0
  · subst h; rfl
  · simp [yv, h]
set_option maxRecDepth 20000 in
set_option maxHeartbeats 4000000 in
theorem rturn_any (u : Value) (f : Nat → BitVec 8) (w : World) (hu : BV u 512 f w) : Calls Tryd.prog 30 #[u] w fun e w' => ∃ d dc, e = .returned (.slice (some ⟨d, 0, none⟩) 512 dc) ∧ 512 ≤ dc ∧ w.heap.size ≤ d ∧ RowAt d 512 (yv (tuF f)) w' ∧ Ext w w' := by
  obtain ⟨uo, uc, rfl⟩ := hu.form
  have hw := hideit hu
  replace hu := hideit hu
  have hE := hideit (Ext.refl w)
  go_enter Tryd.func30, Tryd.ntmps30
  go_upto_region 1 with (fail)
  refine wp_region_lit ?_
  have XN : Ext w (w.alloc (.cells #[] 5)) := (Below.refl _ _).alloc (Nat.le_refl _) _
  have G0 := hideit (GB.empty w (Ext.refl w) f)
  replace hu := hideit (hu.out.ext XN)
  refine wpList_to rfl (.slice (some ⟨w.heap.size, 0, none⟩) 0 0) (w.alloc (.cells #[] 5)) (by simp [go_sem]) ?_
  simp only [Act.put, List.setIfInBounds_toArray, List.set_cons_zero, List.set_cons_succ]
  clear XN
  generalize w.alloc (.cells #[] 5) = w1 at G0 hu ⊢
  obtain ⟨g, hg⟩ : ∃ g, g = w.heap.size := ⟨_, rfl⟩
  rw [← hg] at G0 ⊢
  clear hg
  refine wpList_run rfl (.slice uo 512 uc) (by simp [go_sem]) ?_
  simp only [Act.put, List.setIfInBounds_toArray, List.set_cons_zero, List.set_cons_succ]
  refine wpList_gb rfl (.tmp 4) (.tmp 5) rfl rfl G0.out (.slice uo 512 uc) 512 f rfl hu.out (by decide) ?_
  intro v2 w2 hG
  replace hG : GB w v2 512 f w2 := hG.congr (by decide) fun j hj => by unfold catF; rw [if_neg (by omega), Nat.sub_zero]
  obtain ⟨d, dc, rfl, hd, hdc, _, hR⟩ := hG.1.lies (by decide)
  simp only [Act.put, List.setIfInBounds_toArray, List.set_cons_zero, List.set_cons_succ]
  have hX := hideit hG.2
  replace hR := hideit hR
  replace hd := hideit hd
  replace hdc := hideit hdc
  have xf := x8_128 (f 0)
  clear G0 hu hG hE hw
  refine wpList_run rfl (.slice (some ⟨d, 0, none⟩) 512 dc) (by simp [go_sem]) ?_
  simp only [Act.put, List.setIfInBounds_toArray, List.set_cons_zero, List.set_cons_succ]
  go_upto_region 2 with (fail)
  refine wp_region_lit ?_
  refine wpList_run rfl (.slice (some ⟨d, 0, none⟩) 512 dc) (by simp [go_sem]) ?_
  simp only [Act.put, List.setIfInBounds_toArray, List.set_cons_zero, List.set_cons_succ]
  refine wpList_run rfl (.slice (some ⟨d, 0, none⟩) 512 dc) (by simp [go_sem]) ?_
  simp only [Act.put, List.setIfInBounds_toArray, List.set_cons_zero, List.set_cons_succ]
  refine wpList_run rfl (.pointer (some ⟨d, 0, none⟩)) (by simp [go_sem]) ?_
  simp only [Act.put, List.setIfInBounds_toArray, List.set_cons_zero, List.set_cons_succ]
  have m1 : w2.cell? ⟨d, 0, none⟩ = some (.int .u8 ((f 0).toNat : Int)) := hR.out.1 0 (by decide)
  refine wpList_run rfl (.int .u8 ((f 0).toNat : Int)) (by simp [go_sem, m1]) ?_
  simp only [Act.put, List.setIfInBounds_toArray, List.set_cons_zero, List.set_cons_succ]
  clear m1
  refine wpList_run rfl (.int .u8 ((f 0 ^^^ 128#8).toNat : Int)) (by simp [go_sem, xf]) ?_
  simp only [Act.put, List.setIfInBounds_toArray, List.set_cons_zero, List.set_cons_succ]
  refine wpList_run rfl (.pointer (some ⟨d, 0, none⟩)) (by simp [go_sem]) ?_
  simp only [Act.put, List.setIfInBounds_toArray, List.set_cons_zero, List.set_cons_succ]
  have M0 : w2.cell? ⟨d, 0, none⟩ = some (.int .u8 ((f 0).toNat : Int)) := hR.out.1 0 (by decide)
  have M1 : w2.frozen? ⟨d, 0, none⟩ = false := hR.out.2.1 0 (by decide)
  have N0 := hideit (hR.out.set 0 (.int .u8 ((f 0 ^^^ 128#8).toNat : Int)))
  have NE := hideit (hX.out.setCell (p := ⟨d, 0, none⟩) (hd.out) (.int .u8 ((f 0 ^^^ 128#8).toNat : Int)))
  refine xst rfl (w2.setCell ⟨d, 0, none⟩ (.int .u8 ((f 0 ^^^ 128#8).toNat : Int))) (by simp [go_sem, M0, M1]) ?_
  simp only [Act.put]
  generalize w2.setCell ⟨d, 0, none⟩ (.int .u8 ((f 0 ^^^ 128#8).toNat : Int)) = x2 at N0 NE ⊢
  clear M0 M1
  replace N0 := hideit (N0.out.congr (g' := yv (tuF f)) (fun j hj => tu_set f j))
  replace hR := N0
  replace hX := NE
  clear N0 NE 
  go_upto_region 3 with (fail)
  refine wp_region_lit ?_
  refine wpList_run rfl (.slice (some ⟨d, 0, none⟩) 512 dc) (by simp [go_sem]) ?_
  simp only [Act.put, List.setIfInBounds_toArray, List.set_cons_zero, List.set_cons_succ]
  refine wpList_run rfl (.slice (some ⟨d, 0, none⟩) 512 dc) (by simp [go_sem]) ?_
  simp only [Act.put, List.setIfInBounds_toArray, List.set_cons_zero, List.set_cons_succ]
  go_wp2
  go_ret
  exact ⟨d, dc, rfl, hdc.out, hd.out, hR.out, hX.out⟩
set_option maxRecDepth 20000 in
set_option maxHeartbeats 4000000 in
theorem parts_lenP (u : Value) (l : Nat) (f : Nat → BitVec 8) (w : World) (hu : PV u l f w) (hl : l ≠ 512) : Calls Tryd.prog 37 #[u] w fun e w' => e = .returned (.tuple #[.int .u64 0, .slice none 0 0, .int .u64 0, .int .i64 110]) ∧ Ext w w' := by
  obtain ⟨oa, cp, rfl⟩ := hu.form
  have hl2 : ¬ (l : Int) = 512 := by omega
  have hE := hideit (Ext.refl w)
  go_enter Tryd.func37, Tryd.ntmps37
  go_upto_region 1 with (fail)
  refine wp_region_lit ?_
  refine wpList_run rfl (.slice oa l cp) (by simp [go_sem]) ?_
  simp only [Act.put, List.setIfInBounds_toArray, List.set_cons_zero, List.set_cons_succ]
  refine wpList_run rfl (.int .i64 (l : Int)) (by simp [go_sem]) ?_
  simp only [Act.put, List.setIfInBounds_toArray, List.set_cons_zero, List.set_cons_succ]
  refine wpList_run rfl (.bool true) (by simp [go_sem, hl2]) ?_
  simp only [Act.put, List.setIfInBounds_toArray, List.set_cons_zero, List.set_cons_succ]
  go_wp2
  refine bodyPost_ret (res4 rfl _ _ _) rfl ?_
  exact ⟨rfl, hE.out⟩
/-- .. of bytes within a list -/
theorem parts_noP (u : Value) (l : Nat) (f : Nat → BitVec 8) (w : World) (hu : PV u l f w) (hp : ¬ isPl l f) : Calls Tryd.prog 37 #[u] w fun e w' => e = .returned (.tuple #[.int .u64 0, .slice none 0 0, .int .u64 0, .int .i64 110]) ∧ Ext w w' := by
  by_cases hl : l = 512
  · exact parts_no u l f w (hu.bv (by omega)) hp
  · exact parts_lenP u l f w hu hl
theorem parts_yesP (u : Value) (l : Nat) (f : Nat → BitVec 8) (w : World) (hu : PV u l f w) (hp : isPl l f) : Calls Tryd.prog 37 #[u] w fun e w' => ∃ v, e = .returned (.tuple #[.int .u64 ((nP f).toNat : Int), v, .int .u64 ((tP f).toNat : Int), .int .i64 0]) ∧ GI w v (cP f) (bP f) w' ∧ Ext w w' :=
  parts_yes u l f w (hu.bv (by have := hp.1; omega)) hp
end Go.Proofs.YtedgopionpdfeaaDoor
