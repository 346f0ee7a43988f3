/-
  The document's Parse, where there is no plan. The document's Parse.
-/
import Derived.Test.YtedgopionpdfeaaDoorQ41
namespace Go.Proofs.YtedgopionpdfeaaDoor
open Go.RowKit Go.BigFrame
set_option linter.unusedVariables false
/-- redos and bytes that grow beside each other -/
structure PA (w0 : World) (sv av : Value) (k : Nat) (bs : Nat → Int) (us : Nat → Value) (xs : Nat → Nat → BitVec 8) (F : Nat → BitVec 8) (L : Nat) (X : World) : Prop where
  rd : RDs w0.heap.size sv k bs us (fun _ => 512) xs X
  gb : GB w0 av L F X
  ne : ∀ i, i < k → ∀ z, (us i).ownBlock = some z → av.ownBlock ≠ some z
theorem rd_gb_ne {w0 : World} {sv av : Value} {k L : Nat} {bs : Nat → Int} {us : Nat → Value} {ls : Nat → Nat} {xs : Nat → Nat → BitVec 8} {F : Nat → BitVec 8} {X : World} (h : RDs w0.heap.size sv k bs us ls xs X) (g : GB w0 av L F X) : ∀ z, sv.ownBlock = some z → av.ownBlock ≠ some z := fun z h1 h2 => by
  rcases h.own.2 with ⟨e, _⟩ | ⟨q, c, cur, e, _, hq, _⟩
  · rw [e] at h1
    cases h1
  · rcases g.1.2 with ⟨e', _⟩ | ⟨q', c', cur', e', _, hq', _⟩
    · rw [e'] at h2
      cases h2
    · rw [e] at h1
      rw [e'] at h2
      injection h1 with h1
      injection h2 with h2
      subst h1
      simp only at h2
      subst h2
      rw [hq] at hq'
      injection hq' with hq'
      injection hq' with _ hq' _
      cases hq'
theorem PA.ext {w0 : World} {sv av : Value} {k L : Nat} {bs : Nat → Int} {us : Nat → Value} {xs : Nat → Nat → BitVec 8} {F : Nat → BitVec 8} {X Y : World} (h : PA w0 sv av k bs us xs F L X) (e : Ext X Y) : PA w0 sv av k bs us xs F L Y := ⟨h.rd.ext e, h.gb.ext e, h.ne⟩
theorem PA.all {w0 : World} {sv av : Value} {k L : Nat} {bs : Nat → Int} {us : Nat → Value} {xs : Nat → Nat → BitVec 8} {F : Nat → BitVec 8} {X : World} (h : PA w0 sv av k bs us xs F L X) (ty : TypeId) (xv : Value) (m : Nat) (f : Nat → BitVec 8) (hb : BV xv m f X) (hm : 0 < m) (hL : L + m ≤ 1000000) :
    ∃ av' Y, (Builtin.append_ #[34, 34] ty #[av, xv]).run Tryd.prog X = .ok av' Y ∧ PA w0 sv av' k bs us xs (catF F L f) (L + m) Y := by
  rcases hb with ⟨_, h0⟩ | ⟨ad, c, rfl, _, hl⟩
  · omega
  obtain ⟨i, z, e1, e2, e3, e4, e5⟩ := elem22.info
  obtain ⟨v', Y, h1, h2, h3, _, h5⟩ := run_append_own_at (P := Tryd.prog) X w0.heap.size 34 ty 5 i z 1 1 elem22.slice e1 e2 e3 e4 e5 (by decide) av L (row L (yv F)) h.gb.1 ad m c (row m (yv f)) (by rw [row_length, Nat.mul_one]) (fun j u hj => by
    obtain ⟨hj', rfl⟩ := row_some hj
    exact hl.1 j hj') (fun u hu => by
    obtain ⟨j, _, rfl⟩ := List.mem_map.1 hu
    rfl) (by unfold maxLen; omega) (by omega) (Below.size h.gb.2)
  refine ⟨v', Y, h1, ⟨h.rd.own.kept h3 (own_ne (rd_gb_ne h.rd h.gb)), fun j hj => ⟨(h.rd.byt j hj).1.kept h3 (own_ne (h.ne j hj)), (h.rd.byt j hj).2⟩⟩, ⟨?_, Below.trans h.gb.2 (below_grown (Below.size h.gb.2) h3 fun k hk => (h.gb.1.lt k hk).1)⟩, fun j hj z hz e => ?_⟩
  · unfold OwnB
    rw [row_append L m (yv F) (yv f) (yv (catF F L f)) (fun j hj => by simp only [yv]; unfold catF; rw [if_pos hj]) (fun j hj => by simp only [yv]; unfold catF; rw [if_neg (by omega), Nat.add_sub_cancel_left])] at h2
    exact h2
  · rcases h5 with q | q
    · exact h.ne j hj z hz (q ▸ e)
    · rw [q] at e
      injection e with e
      have := ((h.rd.byt j hj).1.lt z hz).2
      omega
theorem PA.out {w0 : World} {sv av : Value} {k L : Nat} {bs : Nat → Int} {us : Nat → Value} {xs : Nat → Nat → BitVec 8} {F : Nat → BitVec 8} {X : World} (h : PA w0 sv av k bs us xs F L X) (hk : k ≤ 1000000) {u : Value} (hu : OwnB w0.heap.size 5 u 512 (yv (xs k)) X) (hn1 : ∀ z, u.ownBlock = some z → sv.ownBlock ≠ some z) (hn2 : ∀ z, u.ownBlock = some z → av.ownBlock ≠ some z) (ty : TypeId) :
    ∃ sv' Y, (Builtin.append_ #[23, 23] ty #[sv, .slice (some ⟨X.heap.size, 0, none⟩) 1 1]).run Tryd.prog (X.alloc (.cells #[.int .i64 (bs k), u] 51)) = .ok sv' Y ∧ PA w0 sv' av (k + 1) bs (up1 us k u) xs F L Y := by
  obtain ⟨v', Y, h1, h2, h3, h4⟩ := h.rd.app (Below.size h.gb.2) hk hu hn1 ty
  refine ⟨v', Y, h1, h2, ⟨h.gb.1.kept h4 (own_ne fun z hz e => rd_gb_ne h.rd h.gb z e hz), Below.trans h.gb.2 h3⟩, fun j hj z hz => ?_⟩
  by_cases e : j = k
  · subst e
    rw [up1_same] at hz
    exact hn2 z hz
  · rw [up1_other _ e] at hz
    exact h.ne j (by omega) z hz
theorem tn_mod (t : BitVec 64) (k : Nat) : tnB t k = decide ((t >>> k).toNat % 2 = 1) := by
  unfold tnB
  have : (t >>> k) &&& 1#64 = 1#64 ↔ (t >>> k).toNat % 2 = 1 := by
    constructor
    · intro h
      have := congrArg BitVec.toNat h
      rw [BitVec.toNat_and] at this
      simpa [Nat.and_one_is_mod] using this
    · intro h
      apply BitVec.eq_of_toNat_eq
      rw [BitVec.toNat_and]
      simpa [Nat.and_one_is_mod] using h
  simp only [this]
set_option maxRecDepth 20000 in
set_option maxHeartbeats 4000000 in
theorem rp_zero (x : BitVec 64) (vb : Value) (m : Nat) (us : Nat → Value) (ls : Nat → Nat) (fs : Nat → Nat → BitVec 8) (w : World) (hP : PL vb m us ls fs w) (hls : ∀ i, i < m → ls i ≤ 140737488355328) (hm : m ≤ 5900000000000) (h0 : m = 0) : Calls Tryd.prog 14 #[.int .u64 (x.toNat : Int), vb] w fun e w' => e = .returned (.tuple #[.slice none 0 0, .int .i64 0, .int .i64 110]) ∧ Ext w w' := by
  obtain ⟨o, cap, rfl⟩ := hP.form
  subst h0
  have hE := hideit (Ext.refl w)
  go_enter Tryd.func14, Tryd.ntmps14
  go_upto_region 1 with (fail)
  refine wp_region_lit ?_
  refine wpList_run rfl (.slice o 0 cap) (by simp [go_sem]) ?_
  simp only [Act.put, List.setIfInBounds_toArray, List.set_cons_zero, List.set_cons_succ]
  refine wpList_run rfl (.int .i64 0) (by simp [go_sem]) ?_
  simp only [Act.put, List.setIfInBounds_toArray, List.set_cons_zero, List.set_cons_succ]
  refine wpList_run rfl (.bool true) (by simp [go_sem]) ?_
  simp only [Act.put, List.setIfInBounds_toArray, List.set_cons_zero, List.set_cons_succ]
  go_wp2
  refine bodyPost_ret (res3 rfl _ _ _) rfl ?_
  exact ⟨rfl, hE.out⟩
set_option maxRecDepth 20000 in
set_option maxHeartbeats 4000000 in
theorem rp_plan (x : BitVec 64) (vb : Value) (m : Nat) (us : Nat → Value) (ls : Nat → Nat) (fs : Nat → Nat → BitVec 8) (w : World) (hP : PL vb m us ls fs w) (hls : ∀ i, i < m → ls i ≤ 140737488355328) (hm : m ≤ 5900000000000) (h0 : 0 < m) (hn : ¬ isPl (ls 0) (fs 0)) : Calls Tryd.prog 14 #[.int .u64 (x.toNat : Int), vb] w fun e w' => e = .returned (.tuple #[.slice none 0 0, .int .i64 0, .int .i64 110]) ∧ Ext w w' := by
  obtain ⟨o, cap, rfl⟩ := hP.form
  obtain ⟨a, rfl, he0⟩ := hP.at 0 h0
  have hp0 := hP.2 0 h0
  rw [add_zero'] at he0
  replace hP := hideit hP
  replace hp0 := hideit hp0
  replace hls := hideit hls
  replace hm := hideit hm
  have m0 : ¬ m = 0 := by omega
  have m1 : (0 : Int) < (m : Int) := by omega
  replace h0 := hideit h0
  replace hn := hideit hn
  have hE := hideit (Ext.refl w)
  go_enter Tryd.func14, Tryd.ntmps14
  go_upto_region 1 with (fail)
  refine wp_region_lit ?_
  refine wpList_run rfl (.slice (some a) m cap) (by simp [go_sem]) ?_
  simp only [Act.put, List.setIfInBounds_toArray, List.set_cons_zero, List.set_cons_succ]
  refine wpList_run rfl (.int .i64 (m : Int)) (by simp [go_sem]) ?_
  simp only [Act.put, List.setIfInBounds_toArray, List.set_cons_zero, List.set_cons_succ]
  refine wpList_run rfl (.bool false) (by simp [go_sem, m0]) ?_
  simp only [Act.put, List.setIfInBounds_toArray, List.set_cons_zero, List.set_cons_succ]
  go_upto_region 3 with (fail)
  refine wp_region_lit ?_
  refine wpList_run rfl (.slice (some a) m cap) (by simp [go_sem]) ?_
  simp only [Act.put, List.setIfInBounds_toArray, List.set_cons_zero, List.set_cons_succ]
  refine wpList_run rfl (.pointer (some a)) (by simp [go_sem, m0]) ?_
  simp only [Act.put, List.setIfInBounds_toArray, List.set_cons_zero, List.set_cons_succ]
  refine wpList_run rfl (us 0) (by simp [go_sem, he0]) ?_
  simp only [Act.put, List.setIfInBounds_toArray, List.set_cons_zero, List.set_cons_succ]
  refine wpList_call rfl (by simp [go_sem]) ((parts_noP (us 0) (ls 0) (fs 0) w hp0.out hn.out).mono ?_)
  rintro e y1 ⟨rfl, hX2⟩
  refine ⟨_, rfl, ?_⟩
  simp only [Act.put, List.setIfInBounds_toArray, List.set_cons_zero, List.set_cons_succ]
  replace hE := hideit (Ext.trans hE.out hX2)

  clear hX2
  refine wpList_run rfl (.tuple #[.int .u64 0, .slice none 0 0, .int .u64 0, .int .i64 110]) (by simp [go_sem]) ?_
  simp only [Act.put, List.setIfInBounds_toArray, List.set_cons_zero, List.set_cons_succ]
  refine wpList_run rfl (.int .u64 0) (by simp [go_sem]) ?_
  simp only [Act.put, List.setIfInBounds_toArray, List.set_cons_zero, List.set_cons_succ]
  refine wpList_run rfl (.slice none 0 0) (by simp [go_sem]) ?_
  simp only [Act.put, List.setIfInBounds_toArray, List.set_cons_zero, List.set_cons_succ]
  refine wpList_run rfl (.int .u64 0) (by simp [go_sem]) ?_
  simp only [Act.put, List.setIfInBounds_toArray, List.set_cons_zero, List.set_cons_succ]
  refine wpList_run rfl (.int .i64 110) (by simp [go_sem]) ?_
  simp only [Act.put, List.setIfInBounds_toArray, List.set_cons_zero, List.set_cons_succ]
  refine wpList_run rfl (.int .u64 0) (by simp [go_sem]) ?_
  simp only [Act.put, List.setIfInBounds_toArray, List.set_cons_zero, List.set_cons_succ]
  refine wpList_run rfl (.slice none 0 0) (by simp [go_sem]) ?_
  simp only [Act.put, List.setIfInBounds_toArray, List.set_cons_zero, List.set_cons_succ]
  refine wpList_run rfl (.int .u64 0) (by simp [go_sem]) ?_
  simp only [Act.put, List.setIfInBounds_toArray, List.set_cons_zero, List.set_cons_succ]
  refine wpList_run rfl (.int .i64 110) (by simp [go_sem]) ?_
  simp only [Act.put, List.setIfInBounds_toArray, List.set_cons_zero, List.set_cons_succ]
  go_upto_region 4 with (fail)
  refine wp_region_lit ?_
  refine wpList_run rfl (.int .i64 110) (by simp [go_sem]) ?_
  simp only [Act.put, List.setIfInBounds_toArray, List.set_cons_zero, List.set_cons_succ]
  refine wpList_run rfl (.bool true) (by simp [go_sem]) ?_
  simp only [Act.put, List.setIfInBounds_toArray, List.set_cons_zero, List.set_cons_succ]
  refine wpList_run rfl (.bool true) (by simp [go_sem]) ?_
  simp only [Act.put, List.setIfInBounds_toArray, List.set_cons_zero, List.set_cons_succ]
  with_reducible refine xnot (by with_unfolding_all rfl) ?_
  simp only [Act.put, List.setIfInBounds_toArray, List.set_cons_zero, List.set_cons_succ]
  with_reducible refine xnot (by with_unfolding_all rfl) ?_
  simp only [Act.put, List.setIfInBounds_toArray, List.set_cons_zero, List.set_cons_succ]
  with_reducible refine xnot (by with_unfolding_all rfl) ?_
  simp only [Act.put, List.setIfInBounds_toArray, List.set_cons_zero, List.set_cons_succ]
  refine wpList_run rfl (.bool true) (by simp [go_sem]) ?_
  simp only [Act.put, List.setIfInBounds_toArray, List.set_cons_zero, List.set_cons_succ]
  refine wpList_run rfl (.bool true) (by simp [go_sem]) ?_
  simp only [Act.put, List.setIfInBounds_toArray, List.set_cons_zero, List.set_cons_succ]
  with_reducible refine xnot (by with_unfolding_all rfl) ?_
  simp only [Act.put, List.setIfInBounds_toArray, List.set_cons_zero, List.set_cons_succ]
  with_reducible refine xnot (by with_unfolding_all rfl) ?_
  simp only [Act.put, List.setIfInBounds_toArray, List.set_cons_zero, List.set_cons_succ]
  with_reducible refine xnot (by with_unfolding_all rfl) ?_
  simp only [Act.put, List.setIfInBounds_toArray, List.set_cons_zero, List.set_cons_succ]
  with_reducible refine xnot (by with_unfolding_all rfl) ?_
  simp only [Act.put, List.setIfInBounds_toArray, List.set_cons_zero, List.set_cons_succ]
  with_reducible refine xnot (by with_unfolding_all rfl) ?_
  simp only [Act.put, List.setIfInBounds_toArray, List.set_cons_zero, List.set_cons_succ]
  with_reducible refine xnot (by with_unfolding_all rfl) ?_
  simp only [Act.put, List.setIfInBounds_toArray, List.set_cons_zero, List.set_cons_succ]
  refine wpList_run rfl (.bool true) (by simp [go_sem]) ?_
  simp only [Act.put, List.setIfInBounds_toArray, List.set_cons_zero, List.set_cons_succ]
  go_wp2
  refine bodyPost_ret (res3 rfl _ _ _) rfl ?_
  exact ⟨rfl, hE.out⟩
set_option maxRecDepth 20000 in
set_option maxHeartbeats 4000000 in
theorem rp_num (x : BitVec 64) (vb : Value) (m : Nat) (us : Nat → Value) (ls : Nat → Nat) (fs : Nat → Nat → BitVec 8) (w : World) (hP : PL vb m us ls fs w) (hls : ∀ i, i < m → ls i ≤ 140737488355328) (hm : m ≤ 5900000000000) (h0 : 0 < m) (hp : isPl (ls 0) (fs 0)) (hx : nP (fs 0) ≠ x) : Calls Tryd.prog 14 #[.int .u64 (x.toNat : Int), vb] w fun e w' => e = .returned (.tuple #[.slice none 0 0, .int .i64 0, .int .i64 110]) ∧ Ext w w' := by
  obtain ⟨o, cap, rfl⟩ := hP.form
  obtain ⟨a, rfl, he0⟩ := hP.at 0 h0
  have hp0 := hP.2 0 h0
  rw [add_zero'] at he0
  replace hP := hideit hP
  replace hp0 := hideit hp0
  replace hls := hideit hls
  replace hm := hideit hm
  have m0 : ¬ m = 0 := by omega
  have m1 : (0 : Int) < (m : Int) := by omega
  replace h0 := hideit h0
  have hx2 : ¬ ((nP (fs 0)).toNat : Int) = (x.toNat : Int) := fun h => hx (BitVec.eq_of_toNat_eq (by omega))
  replace hp := hideit hp
  have hE := hideit (Ext.refl w)
  go_enter Tryd.func14, Tryd.ntmps14
  go_upto_region 1 with (fail)
  refine wp_region_lit ?_
  refine wpList_run rfl (.slice (some a) m cap) (by simp [go_sem]) ?_
  simp only [Act.put, List.setIfInBounds_toArray, List.set_cons_zero, List.set_cons_succ]
  refine wpList_run rfl (.int .i64 (m : Int)) (by simp [go_sem]) ?_
  simp only [Act.put, List.setIfInBounds_toArray, List.set_cons_zero, List.set_cons_succ]
  refine wpList_run rfl (.bool false) (by simp [go_sem, m0]) ?_
  simp only [Act.put, List.setIfInBounds_toArray, List.set_cons_zero, List.set_cons_succ]
  go_upto_region 3 with (fail)
  refine wp_region_lit ?_
  refine wpList_run rfl (.slice (some a) m cap) (by simp [go_sem]) ?_
  simp only [Act.put, List.setIfInBounds_toArray, List.set_cons_zero, List.set_cons_succ]
  refine wpList_run rfl (.pointer (some a)) (by simp [go_sem, m0]) ?_
  simp only [Act.put, List.setIfInBounds_toArray, List.set_cons_zero, List.set_cons_succ]
  refine wpList_run rfl (us 0) (by simp [go_sem, he0]) ?_
  simp only [Act.put, List.setIfInBounds_toArray, List.set_cons_zero, List.set_cons_succ]
  refine wpList_call rfl (by simp [go_sem]) ((parts_yesP (us 0) (ls 0) (fs 0) w hp0.out hp.out).mono ?_)
  rintro e w1 ⟨pv, rfl, hG, hX1⟩
  refine ⟨_, rfl, ?_⟩
  simp only [Act.put, List.setIfInBounds_toArray, List.set_cons_zero, List.set_cons_succ]
  replace hE := hideit (Ext.trans hE.out hX1)
  obtain ⟨po, pc, rfl⟩ := hG.form fun j _ => bP_ok (fs 0) j
  replace hG := hideit hG
  clear hX1
  refine wpList_run rfl (.tuple #[.int .u64 ((nP (fs 0)).toNat : Int), .slice po (cP (fs 0)) pc, .int .u64 ((tP (fs 0)).toNat : Int), .int .i64 0]) (by simp [go_sem]) ?_
  simp only [Act.put, List.setIfInBounds_toArray, List.set_cons_zero, List.set_cons_succ]
  refine wpList_run rfl (.int .u64 ((nP (fs 0)).toNat : Int)) (by simp [go_sem]) ?_
  simp only [Act.put, List.setIfInBounds_toArray, List.set_cons_zero, List.set_cons_succ]
  refine wpList_run rfl (.slice po (cP (fs 0)) pc) (by simp [go_sem]) ?_
  simp only [Act.put, List.setIfInBounds_toArray, List.set_cons_zero, List.set_cons_succ]
  refine wpList_run rfl (.int .u64 ((tP (fs 0)).toNat : Int)) (by simp [go_sem]) ?_
  simp only [Act.put, List.setIfInBounds_toArray, List.set_cons_zero, List.set_cons_succ]
  refine wpList_run rfl (.int .i64 0) (by simp [go_sem]) ?_
  simp only [Act.put, List.setIfInBounds_toArray, List.set_cons_zero, List.set_cons_succ]
  refine wpList_run rfl (.int .u64 ((nP (fs 0)).toNat : Int)) (by simp [go_sem]) ?_
  simp only [Act.put, List.setIfInBounds_toArray, List.set_cons_zero, List.set_cons_succ]
  refine wpList_run rfl (.slice po (cP (fs 0)) pc) (by simp [go_sem]) ?_
  simp only [Act.put, List.setIfInBounds_toArray, List.set_cons_zero, List.set_cons_succ]
  refine wpList_run rfl (.int .u64 ((tP (fs 0)).toNat : Int)) (by simp [go_sem]) ?_
  simp only [Act.put, List.setIfInBounds_toArray, List.set_cons_zero, List.set_cons_succ]
  refine wpList_run rfl (.int .i64 0) (by simp [go_sem]) ?_
  simp only [Act.put, List.setIfInBounds_toArray, List.set_cons_zero, List.set_cons_succ]
  go_upto_region 4 with (fail)
  refine wp_region_lit ?_
  refine wpList_run rfl (.int .i64 0) (by simp [go_sem]) ?_
  simp only [Act.put, List.setIfInBounds_toArray, List.set_cons_zero, List.set_cons_succ]
  refine wpList_run rfl (.bool false) (by simp [go_sem]) ?_
  simp only [Act.put, List.setIfInBounds_toArray, List.set_cons_zero, List.set_cons_succ]
  refine wpList_run rfl (.bool false) (by simp [go_sem]) ?_
  simp only [Act.put, List.setIfInBounds_toArray, List.set_cons_zero, List.set_cons_succ]
  refine wpList_runW rfl (.int .u64 ((nP (fs 0)).toNat : Int)) (by simp [go_sem]) ?_
  simp only [Act.put, List.setIfInBounds_toArray, List.set_cons_zero, List.set_cons_succ]
  refine wpList_runW rfl (.int .u64 (x.toNat : Int)) (by simp [go_sem]) ?_
  simp only [Act.put, List.setIfInBounds_toArray, List.set_cons_zero, List.set_cons_succ]
  refine wpList_runW rfl (.bool true) (by simp [go_sem, hx2]) ?_
  simp only [Act.put, List.setIfInBounds_toArray, List.set_cons_zero, List.set_cons_succ]
  refine wpList_run rfl (.bool true) (by simp [go_sem]) ?_
  simp only [Act.put, List.setIfInBounds_toArray, List.set_cons_zero, List.set_cons_succ]
  refine wpList_run rfl (.bool true) (by simp [go_sem]) ?_
  simp only [Act.put, List.setIfInBounds_toArray, List.set_cons_zero, List.set_cons_succ]
  with_reducible refine xnot (by with_unfolding_all rfl) ?_
  simp only [Act.put, List.setIfInBounds_toArray, List.set_cons_zero, List.set_cons_succ]
  with_reducible refine xnot (by with_unfolding_all rfl) ?_
  simp only [Act.put, List.setIfInBounds_toArray, List.set_cons_zero, List.set_cons_succ]
  with_reducible refine xnot (by with_unfolding_all rfl) ?_
  simp only [Act.put, List.setIfInBounds_toArray, List.set_cons_zero, List.set_cons_succ]
  with_reducible refine xnot (by with_unfolding_all rfl) ?_
  simp only [Act.put, List.setIfInBounds_toArray, List.set_cons_zero, List.set_cons_succ]
  with_reducible refine xnot (by with_unfolding_all rfl) ?_
  simp only [Act.put, List.setIfInBounds_toArray, List.set_cons_zero, List.set_cons_succ]
  with_reducible refine xnot (by with_unfolding_all rfl) ?_
  simp only [Act.put, List.setIfInBounds_toArray, List.set_cons_zero, List.set_cons_succ]
  refine wpList_run rfl (.bool true) (by simp [go_sem]) ?_
  simp only [Act.put, List.setIfInBounds_toArray, List.set_cons_zero, List.set_cons_succ]
  go_wp2
  refine bodyPost_ret (res3 rfl _ _ _) rfl ?_
  exact ⟨rfl, hE.out⟩
set_option maxRecDepth 20000 in
set_option maxHeartbeats 4000000 in
theorem rp_few (x : BitVec 64) (vb : Value) (m : Nat) (us : Nat → Value) (ls : Nat → Nat) (fs : Nat → Nat → BitVec 8) (w : World) (hP : PL vb m us ls fs w) (hls : ∀ i, i < m → ls i ≤ 140737488355328) (hm : m ≤ 5900000000000) (h0 : 0 < m) (hp : isPl (ls 0) (fs 0)) (hx : nP (fs 0) = x) (hc : m < cP (fs 0) + 2) : Calls Tryd.prog 14 #[.int .u64 (x.toNat : Int), vb] w fun e w' => e = .returned (.tuple #[.slice none 0 0, .int .i64 0, .int .i64 110]) ∧ Ext w w' := by
  obtain ⟨o, cap, rfl⟩ := hP.form
  obtain ⟨a, rfl, he0⟩ := hP.at 0 h0
  have hp0 := hP.2 0 h0
  rw [add_zero'] at he0
  replace hP := hideit hP
  replace hp0 := hideit hp0
  replace hls := hideit hls
  replace hm := hideit hm
  have m0 : ¬ m = 0 := by omega
  have m1 : (0 : Int) < (m : Int) := by omega
  replace h0 := hideit h0
  have hc64 : cP (fs 0) ≤ 64 := hp.2.2.2.2.2.2.1
  have e40 : IntKind.i64.wrap ((cP (fs 0) : Int) + 2) = ((cP (fs 0) + 2 : Nat) : Int) := by rw [IntKind.wrap_i64]; omega
  have hf : (m : Int) < (cP (fs 0) : Int) + 2 := by omega
  rw [← hx]
  replace hp := hideit hp
  have hE := hideit (Ext.refl w)
  go_enter Tryd.func14, Tryd.ntmps14
  go_upto_region 1 with (fail)
  refine wp_region_lit ?_
  refine wpList_run rfl (.slice (some a) m cap) (by simp [go_sem]) ?_
  simp only [Act.put, List.setIfInBounds_toArray, List.set_cons_zero, List.set_cons_succ]
  refine wpList_run rfl (.int .i64 (m : Int)) (by simp [go_sem]) ?_
  simp only [Act.put, List.setIfInBounds_toArray, List.set_cons_zero, List.set_cons_succ]
  refine wpList_run rfl (.bool false) (by simp [go_sem, m0]) ?_
  simp only [Act.put, List.setIfInBounds_toArray, List.set_cons_zero, List.set_cons_succ]
  go_upto_region 3 with (fail)
  refine wp_region_lit ?_
  refine wpList_run rfl (.slice (some a) m cap) (by simp [go_sem]) ?_
  simp only [Act.put, List.setIfInBounds_toArray, List.set_cons_zero, List.set_cons_succ]
  refine wpList_run rfl (.pointer (some a)) (by simp [go_sem, m0]) ?_
  simp only [Act.put, List.setIfInBounds_toArray, List.set_cons_zero, List.set_cons_succ]
  refine wpList_run rfl (us 0) (by simp [go_sem, he0]) ?_
  simp only [Act.put, List.setIfInBounds_toArray, List.set_cons_zero, List.set_cons_succ]
  refine wpList_call rfl (by simp [go_sem]) ((parts_yesP (us 0) (ls 0) (fs 0) w hp0.out hp.out).mono ?_)
  rintro e w1 ⟨pv, rfl, hG, hX1⟩
  refine ⟨_, rfl, ?_⟩
  simp only [Act.put, List.setIfInBounds_toArray, List.set_cons_zero, List.set_cons_succ]
  replace hE := hideit (Ext.trans hE.out hX1)
  obtain ⟨po, pc, rfl⟩ := hG.form fun j _ => bP_ok (fs 0) j
  replace hG := hideit hG
  clear hX1
  refine wpList_run rfl (.tuple #[.int .u64 ((nP (fs 0)).toNat : Int), .slice po (cP (fs 0)) pc, .int .u64 ((tP (fs 0)).toNat : Int), .int .i64 0]) (by simp [go_sem]) ?_
  simp only [Act.put, List.setIfInBounds_toArray, List.set_cons_zero, List.set_cons_succ]
  refine wpList_run rfl (.int .u64 ((nP (fs 0)).toNat : Int)) (by simp [go_sem]) ?_
  simp only [Act.put, List.setIfInBounds_toArray, List.set_cons_zero, List.set_cons_succ]
  refine wpList_run rfl (.slice po (cP (fs 0)) pc) (by simp [go_sem]) ?_
  simp only [Act.put, List.setIfInBounds_toArray, List.set_cons_zero, List.set_cons_succ]
  refine wpList_run rfl (.int .u64 ((tP (fs 0)).toNat : Int)) (by simp [go_sem]) ?_
  simp only [Act.put, List.setIfInBounds_toArray, List.set_cons_zero, List.set_cons_succ]
  refine wpList_run rfl (.int .i64 0) (by simp [go_sem]) ?_
  simp only [Act.put, List.setIfInBounds_toArray, List.set_cons_zero, List.set_cons_succ]
  refine wpList_run rfl (.int .u64 ((nP (fs 0)).toNat : Int)) (by simp [go_sem]) ?_
  simp only [Act.put, List.setIfInBounds_toArray, List.set_cons_zero, List.set_cons_succ]
  refine wpList_run rfl (.slice po (cP (fs 0)) pc) (by simp [go_sem]) ?_
  simp only [Act.put, List.setIfInBounds_toArray, List.set_cons_zero, List.set_cons_succ]
  refine wpList_run rfl (.int .u64 ((tP (fs 0)).toNat : Int)) (by simp [go_sem]) ?_
  simp only [Act.put, List.setIfInBounds_toArray, List.set_cons_zero, List.set_cons_succ]
  refine wpList_run rfl (.int .i64 0) (by simp [go_sem]) ?_
  simp only [Act.put, List.setIfInBounds_toArray, List.set_cons_zero, List.set_cons_succ]
  go_upto_region 4 with (fail)
  refine wp_region_lit ?_
  refine wpList_run rfl (.int .i64 0) (by simp [go_sem]) ?_
  simp only [Act.put, List.setIfInBounds_toArray, List.set_cons_zero, List.set_cons_succ]
  refine wpList_run rfl (.bool false) (by simp [go_sem]) ?_
  simp only [Act.put, List.setIfInBounds_toArray, List.set_cons_zero, List.set_cons_succ]
  refine wpList_run rfl (.bool false) (by simp [go_sem]) ?_
  simp only [Act.put, List.setIfInBounds_toArray, List.set_cons_zero, List.set_cons_succ]
  refine wpList_runW rfl (.int .u64 ((nP (fs 0)).toNat : Int)) (by simp [go_sem]) ?_
  simp only [Act.put, List.setIfInBounds_toArray, List.set_cons_zero, List.set_cons_succ]
  refine wpList_runW rfl (.int .u64 ((nP (fs 0)).toNat : Int)) (by simp [go_sem]) ?_
  simp only [Act.put, List.setIfInBounds_toArray, List.set_cons_zero, List.set_cons_succ]
  refine wpList_runW rfl (.bool false) (by simp [go_sem]) ?_
  simp only [Act.put, List.setIfInBounds_toArray, List.set_cons_zero, List.set_cons_succ]
  refine wpList_run rfl (.bool false) (by simp [go_sem]) ?_
  simp only [Act.put, List.setIfInBounds_toArray, List.set_cons_zero, List.set_cons_succ]
  refine wpList_run rfl (.bool false) (by simp [go_sem]) ?_
  simp only [Act.put, List.setIfInBounds_toArray, List.set_cons_zero, List.set_cons_succ]
  refine wpList_runW rfl (.slice (some a) m cap) (by simp [go_sem]) ?_
  simp only [Act.put, List.setIfInBounds_toArray, List.set_cons_zero, List.set_cons_succ]
  refine wpList_runW rfl (.int .i64 (m : Int)) (by simp [go_sem]) ?_
  simp only [Act.put, List.setIfInBounds_toArray, List.set_cons_zero, List.set_cons_succ]
  refine wpList_runW rfl (.slice po (cP (fs 0)) pc) (by simp [go_sem]) ?_
  simp only [Act.put, List.setIfInBounds_toArray, List.set_cons_zero, List.set_cons_succ]
  refine wpList_runW rfl (.int .i64 ((cP (fs 0)) : Int)) (by simp [go_sem]) ?_
  simp only [Act.put, List.setIfInBounds_toArray, List.set_cons_zero, List.set_cons_succ]
  refine wpList_runW rfl (.int .i64 ((cP (fs 0) + 2 : Nat) : Int)) (by simp [go_sem, e40]) ?_
  simp only [Act.put, List.setIfInBounds_toArray, List.set_cons_zero, List.set_cons_succ]
  refine wpList_runW rfl (.bool true) (by simp [go_sem, hf]) ?_
  simp only [Act.put, List.setIfInBounds_toArray, List.set_cons_zero, List.set_cons_succ]
  refine wpList_run rfl (.bool true) (by simp [go_sem]) ?_
  simp only [Act.put, List.setIfInBounds_toArray, List.set_cons_zero, List.set_cons_succ]
  go_wp2
  refine bodyPost_ret (res3 rfl _ _ _) rfl ?_
  exact ⟨rfl, hE.out⟩
end Go.Proofs.YtedgopionpdfeaaDoor
namespace Go.Proofs.YtedgopionpdfeaaDoor
open Go.RowKit Go.BigFrame
set_option linter.unusedVariables false
/-- what the document's Parse answers, where a plan is -/
def RpQ (x : BitVec 64) (ls : Nat → Nat) (fs : Nat → Nat → BitVec 8) (w : World) (e : Ending) (w' : World) : Prop :=
  Ext w w' ∧ (((okS (tP (fs 0)) (cP (fs 0)) ls fs ∧ okE x (cP (fs 0)) ls fs) ∧ ∃ v us', e = .returned (.tuple #[v, .int .i64 ((cP (fs 0) + 2 : Nat) : Int), .int .i64 0]) ∧ RDs w.heap.size v (cP (fs 0)) (bP (fs 0)) us' (fun _ => 512) (fun i => xF (tP (fs 0)) i (fs (i + 1))) w') ∨ (¬ (okS (tP (fs 0)) (cP (fs 0)) ls fs ∧ okE x (cP (fs 0)) ls fs) ∧ e = .returned (.tuple #[.slice none 0 0, .int .i64 0, .int .i64 110])))
theorem rpq_no {x : BitVec 64} {ls : Nat → Nat} {fs : Nat → Nat → BitVec 8} {w w' : World} {e : Ending} (hE : Ext w w') (h : ¬ (okS (tP (fs 0)) (cP (fs 0)) ls fs ∧ okE x (cP (fs 0)) ls fs)) (he : e = .returned (.tuple #[.slice none 0 0, .int .i64 0, .int .i64 110])) : RpQ x ls fs w e w' := ⟨hE, .inr ⟨h, he⟩⟩
theorem add_suc (a : Addr) (k : Nat) : a.add (k + 1) = ⟨a.block, a.off + (k + 1), none⟩ := by unfold Addr.add; rw [if_neg (by omega)]
theorem sumL_512 : ∀ k, sumL (fun _ => 512) k = 512 * k
  | 0 => rfl
  | k + 1 => by rw [sumL_succ, sumL_512 k]; omega
set_option maxRecDepth 20000 in
set_option maxHeartbeats 4000000 in
theorem rp_loop (x : BitVec 64) (vb : Value) (m : Nat) (us : Nat → Value) (ls : Nat → Nat) (fs : Nat → Nat → BitVec 8) (w : World) (hP : PL vb m us ls fs w) (hls : ∀ i, i < m → ls i ≤ 140737488355328) (hm : m ≤ 5900000000000) (h0 : 0 < m) (hp : isPl (ls 0) (fs 0)) (hx : nP (fs 0) = x) (hc : cP (fs 0) + 2 ≤ m) : Calls Tryd.prog 14 #[.int .u64 (x.toNat : Int), vb] w (RpQ x ls fs w) := by
  obtain ⟨o, cap, rfl⟩ := hP.form
  obtain ⟨a, rfl, he0⟩ := hP.at 0 h0
  have hp0 := hP.2 0 h0
  rw [add_zero'] at he0
  replace hP := hideit hP
  replace hp0 := hideit hp0
  replace hls := hideit hls
  replace hm := hideit hm
  have m0 : ¬ m = 0 := by omega
  have m1 : (0 : Int) < (m : Int) := by omega
  replace h0 := hideit h0
  have hc64 : cP (fs 0) ≤ 64 := hp.2.2.2.2.2.2.1
  have hc1 : 1 ≤ cP (fs 0) := hp.2.2.2.2.2.1
  have e40 : IntKind.i64.wrap ((cP (fs 0) : Int) + 2) = ((cP (fs 0) + 2 : Nat) : Int) := by rw [IntKind.wrap_i64]; omega
  have hf : ¬ (m : Int) < (cP (fs 0) : Int) + 2 := by omega
  replace hp := hideit hp
  have hE := hideit (Ext.refl w)
  go_enter Tryd.func14, Tryd.ntmps14
  go_upto_region 1 with (fail)
  refine wp_region_lit ?_
  refine wpList_run rfl (.slice (some a) m cap) (by simp [go_sem]) ?_
  simp only [Act.put, List.setIfInBounds_toArray, List.set_cons_zero, List.set_cons_succ]
  refine wpList_run rfl (.int .i64 (m : Int)) (by simp [go_sem]) ?_
  simp only [Act.put, List.setIfInBounds_toArray, List.set_cons_zero, List.set_cons_succ]
  refine wpList_run rfl (.bool false) (by simp [go_sem, m0]) ?_
  simp only [Act.put, List.setIfInBounds_toArray, List.set_cons_zero, List.set_cons_succ]
  go_upto_region 3 with (fail)
  refine wp_region_lit ?_
  refine wpList_run rfl (.slice (some a) m cap) (by simp [go_sem]) ?_
  simp only [Act.put, List.setIfInBounds_toArray, List.set_cons_zero, List.set_cons_succ]
  refine wpList_run rfl (.pointer (some a)) (by simp [go_sem, m0]) ?_
  simp only [Act.put, List.setIfInBounds_toArray, List.set_cons_zero, List.set_cons_succ]
  refine wpList_run rfl (us 0) (by simp [go_sem, he0]) ?_
  simp only [Act.put, List.setIfInBounds_toArray, List.set_cons_zero, List.set_cons_succ]
  refine wpList_call rfl (by simp [go_sem]) ((parts_yesP (us 0) (ls 0) (fs 0) w hp0.out hp.out).mono ?_)
  rintro e w1 ⟨pv, rfl, hG, hX1⟩
  refine ⟨_, rfl, ?_⟩
  simp only [Act.put, List.setIfInBounds_toArray, List.set_cons_zero, List.set_cons_succ]
  replace hE := hideit (Ext.trans hE.out hX1)
  obtain ⟨po, pc, rfl⟩ := hG.form fun j _ => bP_ok (fs 0) j
  replace hG := hideit hG
  clear hX1
  refine wpList_run rfl (.tuple #[.int .u64 ((nP (fs 0)).toNat : Int), .slice po (cP (fs 0)) pc, .int .u64 ((tP (fs 0)).toNat : Int), .int .i64 0]) (by simp [go_sem]) ?_
  simp only [Act.put, List.setIfInBounds_toArray, List.set_cons_zero, List.set_cons_succ]
  refine wpList_run rfl (.int .u64 ((nP (fs 0)).toNat : Int)) (by simp [go_sem]) ?_
  simp only [Act.put, List.setIfInBounds_toArray, List.set_cons_zero, List.set_cons_succ]
  refine wpList_run rfl (.slice po (cP (fs 0)) pc) (by simp [go_sem]) ?_
  simp only [Act.put, List.setIfInBounds_toArray, List.set_cons_zero, List.set_cons_succ]
  refine wpList_run rfl (.int .u64 ((tP (fs 0)).toNat : Int)) (by simp [go_sem]) ?_
  simp only [Act.put, List.setIfInBounds_toArray, List.set_cons_zero, List.set_cons_succ]
  refine wpList_run rfl (.int .i64 0) (by simp [go_sem]) ?_
  simp only [Act.put, List.setIfInBounds_toArray, List.set_cons_zero, List.set_cons_succ]
  refine wpList_run rfl (.int .u64 ((nP (fs 0)).toNat : Int)) (by simp [go_sem]) ?_
  simp only [Act.put, List.setIfInBounds_toArray, List.set_cons_zero, List.set_cons_succ]
  refine wpList_run rfl (.slice po (cP (fs 0)) pc) (by simp [go_sem]) ?_
  simp only [Act.put, List.setIfInBounds_toArray, List.set_cons_zero, List.set_cons_succ]
  refine wpList_run rfl (.int .u64 ((tP (fs 0)).toNat : Int)) (by simp [go_sem]) ?_
  simp only [Act.put, List.setIfInBounds_toArray, List.set_cons_zero, List.set_cons_succ]
  refine wpList_run rfl (.int .i64 0) (by simp [go_sem]) ?_
  simp only [Act.put, List.setIfInBounds_toArray, List.set_cons_zero, List.set_cons_succ]
  go_upto_region 4 with (fail)
  refine wp_region_lit ?_
  refine wpList_run rfl (.int .i64 0) (by simp [go_sem]) ?_
  simp only [Act.put, List.setIfInBounds_toArray, List.set_cons_zero, List.set_cons_succ]
  refine wpList_run rfl (.bool false) (by simp [go_sem]) ?_
  simp only [Act.put, List.setIfInBounds_toArray, List.set_cons_zero, List.set_cons_succ]
  refine wpList_run rfl (.bool false) (by simp [go_sem]) ?_
  simp only [Act.put, List.setIfInBounds_toArray, List.set_cons_zero, List.set_cons_succ]
  refine wpList_runW rfl (.int .u64 ((nP (fs 0)).toNat : Int)) (by simp [go_sem]) ?_
  simp only [Act.put, List.setIfInBounds_toArray, List.set_cons_zero, List.set_cons_succ]
  refine wpList_runW rfl (.int .u64 (x.toNat : Int)) (by simp [go_sem]) ?_
  simp only [Act.put, List.setIfInBounds_toArray, List.set_cons_zero, List.set_cons_succ]
  refine wpList_runW rfl (.bool false) (by simp [go_sem, hx]) ?_
  simp only [Act.put, List.setIfInBounds_toArray, List.set_cons_zero, List.set_cons_succ]
  refine wpList_run rfl (.bool false) (by simp [go_sem]) ?_
  simp only [Act.put, List.setIfInBounds_toArray, List.set_cons_zero, List.set_cons_succ]
  refine wpList_run rfl (.bool false) (by simp [go_sem]) ?_
  simp only [Act.put, List.setIfInBounds_toArray, List.set_cons_zero, List.set_cons_succ]
  refine wpList_runW rfl (.slice (some a) m cap) (by simp [go_sem]) ?_
  simp only [Act.put, List.setIfInBounds_toArray, List.set_cons_zero, List.set_cons_succ]
  refine wpList_runW rfl (.int .i64 (m : Int)) (by simp [go_sem]) ?_
  simp only [Act.put, List.setIfInBounds_toArray, List.set_cons_zero, List.set_cons_succ]
  refine wpList_runW rfl (.slice po (cP (fs 0)) pc) (by simp [go_sem]) ?_
  simp only [Act.put, List.setIfInBounds_toArray, List.set_cons_zero, List.set_cons_succ]
  refine wpList_runW rfl (.int .i64 ((cP (fs 0)) : Int)) (by simp [go_sem]) ?_
  simp only [Act.put, List.setIfInBounds_toArray, List.set_cons_zero, List.set_cons_succ]
  refine wpList_runW rfl (.int .i64 ((cP (fs 0) + 2 : Nat) : Int)) (by simp [go_sem, e40]) ?_
  simp only [Act.put, List.setIfInBounds_toArray, List.set_cons_zero, List.set_cons_succ]
  refine wpList_runW rfl (.bool false) (by simp [go_sem, hf]) ?_
  simp only [Act.put, List.setIfInBounds_toArray, List.set_cons_zero, List.set_cons_succ]
  refine wpList_run rfl (.bool false) (by simp [go_sem]) ?_
  simp only [Act.put, List.setIfInBounds_toArray, List.set_cons_zero, List.set_cons_succ]
  clear e40 hf
  replace hx := hideit hx
  replace hc := hideit hc
  replace hc64 := hideit hc64
  obtain ⟨n, hn⟩ : ∃ n, cP (fs 0) = n := ⟨_, rfl⟩
  obtain ⟨t, ht⟩ : ∃ t, tP (fs 0) = t := ⟨_, rfl⟩
  rw [hn] at hG hc hc64 hc1 ⊢
  rw [ht]
  replace hn := hideit hn
  replace ht := hideit ht
  replace hc1 := hideit hc1
  go_upto_region 6 with (fail)
  refine wp_region_lit ?_
  refine wpList_run rfl (.slice none 0 0) (by simp [go_sem]) ?_
  simp only [Act.put, List.setIfInBounds_toArray, List.set_cons_zero, List.set_cons_succ]
  have hb0 : Hid (BV (us 0) 512 (fs 0) w1) := hideit (by have := (hp0.out.ext hE.out).bv (by have := hp.out.1; omega); rw [hp.out.1] at this; exact this)
  obtain ⟨ub, uc, hub⟩ := hb0.out.form
  replace he0 := cell_ext' hE.out he0
  go_upto_region 7 with (fail)
  refine wp_region_lit ?_
  have XN : Ext w1 (w1.alloc (.cells #[] 5)) := (Below.refl _ _).alloc (Nat.le_refl _) _
  have G0 := hideit (GB.empty w1 (Ext.refl w1) (fs 0))
  replace hb0 := hideit (hb0.out.ext XN)
  have he1 := cell_ext' XN he0
  refine wpList_to rfl (.slice (some ⟨w1.heap.size, 0, none⟩) 0 0) (w1.alloc (.cells #[] 5)) (by simp [go_sem]) ?_
  simp only [Act.put, List.setIfInBounds_toArray, List.set_cons_zero, List.set_cons_succ]
  clear XN he0
  generalize w1.alloc (.cells #[] 5) = w2 at G0 hb0 he1 ⊢
  obtain ⟨g, hg⟩ : ∃ g, g = w1.heap.size := ⟨_, rfl⟩
  rw [← hg] at G0 ⊢
  clear hg
  refine wpList_run rfl (.slice (some a) m cap) (by simp [go_sem]) ?_
  simp only [Act.put, List.setIfInBounds_toArray, List.set_cons_zero, List.set_cons_succ]
  refine wpList_run rfl (.pointer (some a)) (by simp [go_sem, m0]) ?_
  simp only [Act.put, List.setIfInBounds_toArray, List.set_cons_zero, List.set_cons_succ]
  refine wpList_run rfl (us 0) (by simp [go_sem, he1]) ?_
  simp only [Act.put, List.setIfInBounds_toArray, List.set_cons_zero, List.set_cons_succ]
  refine wpList_gb rfl (.tmp 43) (.tmp 46) rfl rfl G0.out (us 0) 512 (fs 0) rfl hb0.out (by decide) ?_
  intro v3 w3 hG3
  replace hG3 : Hid (GB w1 v3 (sumL (fun _ => 512) 1) (allF (fun _ => 512) fs 1) w3) := hG3.congr rfl fun j hj => rfl
  obtain ⟨ao, ac, rfl⟩ := hG3.out.form
  simp only [Act.put, List.setIfInBounds_toArray, List.set_cons_zero, List.set_cons_succ]
  clear G0 hb0 he1
  refine wpList_run rfl (.slice ao (sumL (fun _ => 512) 1) ac) (by simp [go_sem]) ?_
  simp only [Act.put, List.setIfInBounds_toArray, List.set_cons_zero, List.set_cons_succ]
  go_upto_region 8 with (fail)
  refine wp_region_lit ?_
  refine wpList_run rfl (.int .i64 0) (by simp [go_sem]) ?_
  simp only [Act.put, List.setIfInBounds_toArray, List.set_cons_zero, List.set_cons_succ]
  have hPA : Hid (PA w1 (.slice none 0 0) (.slice ao (sumL (fun _ => 512) 1) ac) 0 (bP (fs 0)) us (fun i => xF t i (fs (i + 1))) (allF (fun _ => 512) fs 1) (sumL (fun _ => 512) 1) w3) := ⟨rds_nil _ _ _ _ _ _, hG3.out, fun i hi => absurd hi (Nat.not_lt_zero _)⟩
  have hIL := hideit (hG.out.il fun j _ => bP_ok (fs 0) j)
  have hw1 := hE
  clear hG hG3 hp0 m0 m1 hub
  go_wp2
  go_loopw [11, 12, 13] (fun sv av iv X => ∃ (k : Nat) (us' : Nat → Value), k ≤ n ∧ iv = .int .i64 (k : Int) ∧ PA w1 sv av k (bP (fs 0)) us' (fun i => xF t i (fs (i + 1))) (allF (fun _ => 512) fs (k + 1)) (sumL (fun _ => 512) (k + 1)) X ∧ ∀ i, i < k → ls (i + 1) = 512 ∧ tnB t i = like 512 (xF t i (fs (i + 1)))) (fun _ _ iv _ => 64 - (intOf iv).toNat)
  case atStart => exact ⟨0, us, Nat.zero_le _, rfl, hPA.out, fun i hi => absurd hi (Nat.not_lt_zero _)⟩
  case round =>
    obtain ⟨k, us', hk, rfl, hA, hI⟩ := hrel
    clear hPA hE
    have hE1 := hideit hA.gb.2
    have hX := hideit (Ext.trans hw1.out hA.gb.2)
    obtain ⟨so, sc, rfl⟩ := hA.rd.form
    obtain ⟨qo, qc, rfl⟩ := hA.gb.form
    replace hA := hideit hA
    replace hI := hideit hI
    by_cases hlt : k < n
    · have k1 : (k : Int) < (n : Int) := by omega
      have k64 : (k : Int) < 64 := by have := hc64.out; omega
      have km : k + 1 < m := by have := hc.out; omega
      have kmi : (k : Int) + 1 < (m : Int) := by omega
      have e56 : IntKind.i64.wrap (1 + (k : Int)) = ((k + 1 : Nat) : Int) := by rw [IntKind.wrap_i64]; omega
      have ek : IntKind.i64.wrap ((k : Int) + 1) = ((k + 1 : Nat) : Int) := by rw [IntKind.wrap_i64]; omega
      obtain ⟨a', ha, hel⟩ := (hP.out.ext hX.out).at (k + 1) km
      injection ha with ha
      subst ha
      obtain ⟨bo, bc, hbu⟩ := ((hP.out.ext hX.out).2 (k + 1) km).form
      rw [hbu, add_suc] at hel
      have kn0 : ¬ (k : Int) + 1 < 0 := by omega
      obtain ⟨l, hl⟩ : ∃ l, ls (k + 1) = l := ⟨_, rfl⟩
      rw [hl] at hel hbu
      replace hl := hideit hl
      replace hlt := hideit hlt
      replace hbu := hideit hbu
      replace km := hideit km
      go_upto_region 9 with (fail)
      refine wp_region_lit ?_
      refine wpList_run rfl (.int .i64 (k : Int)) (by simp [go_sem]) ?_
      simp only [Act.put, List.setIfInBounds_toArray, List.set_cons_zero, List.set_cons_succ]
      refine wpList_run rfl (.slice po n pc) (by simp [go_sem]) ?_
      simp only [Act.put, List.setIfInBounds_toArray, List.set_cons_zero, List.set_cons_succ]
      refine wpList_run rfl (.int .i64 (n : Int)) (by simp [go_sem]) ?_
      simp only [Act.put, List.setIfInBounds_toArray, List.set_cons_zero, List.set_cons_succ]
      refine wpList_run rfl (.bool true) (by simp [go_sem, k1]) ?_
      simp only [Act.put, List.setIfInBounds_toArray, List.set_cons_zero, List.set_cons_succ]
      go_upto_region 11 with (fail)
      refine wp_region_lit ?_
      refine wpList_run rfl (.slice (some a) m cap) (by simp [go_sem]) ?_
      simp only [Act.put, List.setIfInBounds_toArray, List.set_cons_zero, List.set_cons_succ]
      refine wpList_run rfl (.int .i64 (k : Int)) (by simp [go_sem]) ?_
      simp only [Act.put, List.setIfInBounds_toArray, List.set_cons_zero, List.set_cons_succ]
      refine wpList_run rfl (.int .i64 ((k + 1 : Nat) : Int)) (by simp [go_sem, e56]) ?_
      simp only [Act.put, List.setIfInBounds_toArray, List.set_cons_zero, List.set_cons_succ]
      refine wpList_run rfl (.pointer (some ⟨a.block, a.off + (k + 1), none⟩)) (by simp [go_sem, kmi, kn0]) ?_
      simp only [Act.put, List.setIfInBounds_toArray, List.set_cons_zero, List.set_cons_succ]
      refine wpList_run rfl (.slice bo l bc) (by simp [go_sem, hel]) ?_
      simp only [Act.put, List.setIfInBounds_toArray, List.set_cons_zero, List.set_cons_succ]
      refine wpList_run rfl (.slice bo l bc) (by simp [go_sem]) ?_
      simp only [Act.put, List.setIfInBounds_toArray, List.set_cons_zero, List.set_cons_succ]
      clear e56 hel kmi kn0
      by_cases hl5 : l = 512
      · subst hl5
        have hbv : Hid (∀ X, Ext w X → BV (.slice bo 512 bc) 512 (fs (k + 1)) X) := fun X hX' => by
          have := (hP.out.ext hX').2 (k + 1) km.out
          rw [hbu.out, hl.out] at this
          exact this.bv (by decide)
        go_upto_region 12 with (fail)
        refine wp_region_lit ?_
        refine wpList_run rfl (.slice bo 512 bc) (by simp [go_sem]) ?_
        simp only [Act.put, List.setIfInBounds_toArray, List.set_cons_zero, List.set_cons_succ]
        refine wpList_run rfl (.int .i64 512) (by simp [go_sem]) ?_
        simp only [Act.put, List.setIfInBounds_toArray, List.set_cons_zero, List.set_cons_succ]
        refine wpList_run rfl (.bool false) (by simp [go_sem]) ?_
        simp only [Act.put, List.setIfInBounds_toArray, List.set_cons_zero, List.set_cons_succ]
        obtain ⟨av, Y, hr, hA2⟩ := hA.out.all 34 (.slice bo 512 bc) 512 (fs (k + 1)) (hbv.out wr hX.out) (by decide) (by rw [sumL_512]; have := hc64.out; have := hlt.out; omega)
        replace hA2 : PA w1 (.slice so k sc) av k (bP (fs 0)) us' (fun i => xF t i (fs (i + 1))) (allF (fun _ => 512) fs (k + 1 + 1)) (sumL (fun _ => 512) (k + 1 + 1)) Y := by rw [allF_succ _ _ (k + 1)]; exact hA2
        go_upto_region 14 with (fail)
        refine wp_region_lit ?_
        refine wpList_run rfl (.slice qo (sumL (fun _ => 512) (k + 1)) qc) (by simp [go_sem]) ?_
        simp only [Act.put, List.setIfInBounds_toArray, List.set_cons_zero, List.set_cons_succ]
        refine wpList_run rfl (.slice bo 512 bc) (by simp [go_sem]) ?_
        simp only [Act.put, List.setIfInBounds_toArray, List.set_cons_zero, List.set_cons_succ]
        refine wpList_to rfl av Y (exec_append (.tmp 62) (.tmp 63) 34 34 rfl _ _ _ rfl rfl hr) ?_
        simp only [Act.put, List.setIfInBounds_toArray, List.set_cons_zero, List.set_cons_succ]
        clear hr hA hE1 hX
        have hX := hideit (Ext.trans hw1.out hA2.gb.2)
        replace hA2 := hideit hA2
        obtain ⟨s, hse⟩ : ∃ s, s = t >>> k := ⟨_, rfl⟩
        have hs := shr_nat t k
        rw [Nat.min_eq_left (by omega), ← hse] at hs
        have hmod := tn_mod t k
        rw [← hse] at hmod
        have e68 : (s.toNat : Int).tmod 2 = ((s.toNat % 2 : Nat) : Int) := by rw [Int.tmod_eq_emod_of_nonneg (by omega)]; omega
        replace hse := hideit hse
        refine wpList_run rfl (av) (by simp [go_sem]) ?_
        simp only [Act.put, List.setIfInBounds_toArray, List.set_cons_zero, List.set_cons_succ]
        by_cases s1 : s.toNat % 2 = 1

        · have s1i : (s.toNat : Int) % 2 = 1 := by omega
          have htb : Hid (tnB t k = true) := hmod.trans (decide_eq_true s1)
          go_upto_region 15 with (fail)
          refine wp_region_lit ?_
          refine wpList_run rfl (.int .u64 (t.toNat : Int)) (by simp [go_sem]) ?_
          simp only [Act.put, List.setIfInBounds_toArray, List.set_cons_zero, List.set_cons_succ]
          refine wpList_run rfl (.int .i64 (k : Int)) (by simp [go_sem]) ?_
          simp only [Act.put, List.setIfInBounds_toArray, List.set_cons_zero, List.set_cons_succ]
          refine wpList_run rfl (.int .u64 (s.toNat : Int)) (by simp [go_sem, hs]) ?_
          simp only [Act.put, List.setIfInBounds_toArray, List.set_cons_zero, List.set_cons_succ]
          refine wpList_run rfl (.int .u64 ((s.toNat % 2 : Nat) : Int)) (by simp [go_sem, e68]) ?_
          simp only [Act.put, List.setIfInBounds_toArray, List.set_cons_zero, List.set_cons_succ]
          refine wpList_run rfl (.bool true) (by simp [go_sem, s1i]) ?_
          simp only [Act.put, List.setIfInBounds_toArray, List.set_cons_zero, List.set_cons_succ]
          refine wpList_run rfl (.bool true) (by simp [go_sem]) ?_
          simp only [Act.put, List.setIfInBounds_toArray, List.set_cons_zero, List.set_cons_succ]
          clear s1 s1i hs e68 hmod hse
          go_upto_region 16 with (fail)
          refine wp_region_lit ?_
          refine wpList_run rfl (.bool true) (by simp [go_sem]) ?_
          simp only [Act.put, List.setIfInBounds_toArray, List.set_cons_zero, List.set_cons_succ]
          go_upto_region 17 with (fail)
          refine wp_region_lit ?_
          refine wpList_run rfl (.slice bo 512 bc) (by simp [go_sem]) ?_
          simp only [Act.put, List.setIfInBounds_toArray, List.set_cons_zero, List.set_cons_succ]
          refine wpList_call rfl (by simp [go_sem]) ((rturn_any (.slice bo 512 bc) (fs (k + 1)) Y (hbv.out Y hX.out)).mono ?_)
          rintro e Y2 ⟨d, dc, rfl, hdc, hd, hR, hX2⟩
          refine ⟨_, rfl, ?_⟩
          simp only [Act.put, List.setIfInBounds_toArray, List.set_cons_zero, List.set_cons_succ]
          have hb2 : Hid (BV (.slice (some ⟨d, 0, none⟩) 512 dc) 512 (xF t k (fs (k + 1))) Y2) := hideit (by
            rw [show xF t k (fs (k + 1)) = tuF (fs (k + 1)) from if_pos htb.out]
            exact .inr ⟨_, dc, rfl, hdc, RowAt.lie hR 512 (Nat.le_refl _)⟩)
          replace hA2 := hideit (hA2.out.ext hX2)
          replace hX := hideit (Ext.trans hX.out hX2)
          clear hdc hd hR hX2
          refine wpList_run rfl (.slice (some ⟨d, 0, none⟩) 512 dc) (by simp [go_sem]) ?_
          simp only [Act.put, List.setIfInBounds_toArray, List.set_cons_zero, List.set_cons_succ]
          by_cases hlk : like 512 (xF t k (fs (k + 1))) = true

          · have hlk2 : like 512 (xF t k (fs (k + 1))) = true := hlk
            go_upto_region 18 with (fail)
            refine wp_region_lit ?_
            refine wpList_run rfl (.bool true) (by simp [go_sem]) ?_
            simp only [Act.put, List.setIfInBounds_toArray, List.set_cons_zero, List.set_cons_succ]
            refine wpList_run rfl (.slice (some ⟨d, 0, none⟩) 512 dc) (by simp [go_sem]) ?_
            simp only [Act.put, List.setIfInBounds_toArray, List.set_cons_zero, List.set_cons_succ]
            have kl := rlike_any (.slice (some ⟨d, 0, none⟩) 512 dc) 512 (xF t k (fs (k + 1))) Y2 hb2.out (by decide)
            rw [hlk2] at kl
            refine wpList_call rfl (by simp [go_sem]) ((kl).mono ?_)
            rintro e y5 ⟨rfl, hX5⟩
            refine ⟨_, rfl, ?_⟩
            simp only [Act.put, List.setIfInBounds_toArray, List.set_cons_zero, List.set_cons_succ]
            replace hA2 := hideit (hA2.out.ext hX5)
            replace hb2 := hideit (hb2.out.ext hX5)
            replace hX := hideit (Ext.trans hX.out hX5)
            clear hX5 kl
            refine wpList_run rfl (.bool false) (by simp [go_sem]) ?_
            simp only [Act.put, List.setIfInBounds_toArray, List.set_cons_zero, List.set_cons_succ]
            have hgood : Hid (ls (k + 1) = 512 ∧ tnB t k = like 512 (xF t k (fs (k + 1)))) := ⟨hl.out, htb.out.trans hlk2.symm⟩
            clear hlk hlk2
            obtain ⟨pa, hpa, _⟩ := hIL.out.at k hlt.out
            have hpl : Hid (∀ X, Ext w1 X → X.cell? (pa.add k) = some (.int .i64 (bP (fs 0) k))) := fun X hX' => by
              obtain ⟨_, e1, q1⟩ := (hIL.out.ext hX').at k hlt.out
              rw [hpa] at e1
              injection e1 with e1
              subst e1
              exact q1
            subst hpa
            go_upto_region 20 with (fail)
            replace hA2 := hideit (hA2.out.ext (Ext.draw (Ext.refl y5)))
            replace hb2 := hideit (hb2.out.ext (Ext.draw (Ext.refl y5)))
            replace hX := hideit (Ext.draw hX.out)
            refine wp_region_lad (fun X => Ext w1 X) [(false, 0), (false, 1), (false, 2), (false, 3), (false, 4), (false, 6), (true, 5), (true, 7), (false, 8), (true, 9), (true, 10), (false, 11)] (by kernel_rfl) (by kernel_rfl) (by decide +kernel) (by decide +kernel) (by decide +kernel) (by decide +kernel) (hA2.out.gb.2) ?_
            refine wpX_f _ (.slice so k sc) rfl rfl (fun X _ => by simp [go_sem]) ?_
            simp only [List.getElem_toArray, List.getElem_cons_zero, Act.put, List.setIfInBounds_toArray, List.set_cons_zero, List.set_cons_succ]
            refine wpX_f _ (.slice (some pa) n pc) rfl rfl (fun X _ => by simp [go_sem]) ?_
            simp only [List.getElem_toArray, List.getElem_cons_zero, List.getElem_cons_succ, Act.put, List.setIfInBounds_toArray, List.set_cons_zero, List.set_cons_succ]
            refine wpX_f _ (.int .i64 (k : Int)) rfl rfl (fun X _ => by simp [go_sem]) ?_
            simp only [List.getElem_toArray, List.getElem_cons_zero, List.getElem_cons_succ, Act.put, List.setIfInBounds_toArray, List.set_cons_zero, List.set_cons_succ]
            refine wpX_f _ (.pointer (some (pa.add k))) rfl rfl (fun X _ => by simp [go_sem, k1]) ?_
            simp only [List.getElem_toArray, List.getElem_cons_zero, List.getElem_cons_succ, Act.put, List.setIfInBounds_toArray, List.set_cons_zero, List.set_cons_succ]
            refine wpX_f _ (.int .i64 (bP (fs 0) k)) rfl rfl (fun X hX => (by have q := hpl.out X hX; simp [go_sem, q])) ?_
            simp only [List.getElem_toArray, List.getElem_cons_zero, List.getElem_cons_succ, Act.put, List.setIfInBounds_toArray, List.set_cons_zero, List.set_cons_succ]
            refine wpX_f _ (.slice (some ⟨d, 0, none⟩) 512 dc) rfl rfl (fun X _ => by simp [go_sem]) ?_
            simp only [List.getElem_toArray, List.getElem_cons_zero, List.getElem_cons_succ, Act.put, List.setIfInBounds_toArray, List.set_cons_zero, List.set_cons_succ]
            have XN : Ext y5.drew (y5.drew.alloc (.cells #[] 5)) := (Below.refl _ _).alloc (Nat.le_refl _) _
            have G0 := hideit (GB.empty y5.drew (Ext.refl y5.drew) (xF t k (fs (k + 1))))
            replace hb2 := hideit (hb2.out.ext XN)
            refine wpX_to _ (.slice (some ⟨y5.drew.heap.size, 0, none⟩) 0 0) (y5.drew.alloc (.cells #[] 5)) rfl rfl (by simp [go_sem]) (fun X => Ext w1 X) (fun X hX' => hX') (Ext.trans hA2.out.gb.2 XN) ?_
            simp only [List.getElem_toArray, List.getElem_cons_zero, List.getElem_cons_succ, Act.put, List.setIfInBounds_toArray, List.set_cons_zero, List.set_cons_succ]
            clear XN
            generalize y5.drew.alloc (.cells #[] 5) = x1 at hb2 G0 ⊢
            obtain ⟨u, x2, hr2, G2⟩ := run_gb 34 G0.out (.slice (some ⟨d, 0, none⟩) 512 dc) 512 (xF t k (fs (k + 1))) hb2.out (by decide) (by decide)
            replace G2 : GB y5.drew u 512 (xF t k (fs (k + 1))) x2 := G2.congr (by decide) fun j hj => by unfold catF; rw [if_neg (by omega), Nat.sub_zero]
            have hA3 := hideit (hA2.out.ext G2.2)
            have hX3 := hideit (Ext.trans hX.out G2.2)
            have hu1 : Hid (∀ z, u.ownBlock = some z → (Value.slice so k sc).ownBlock ≠ some z) := fun z h1 h2 => by
              have q1 := (G2.1.lt z h1).1
              have q2 := (hA2.out.rd.own.lt z h2).2
              omega
            have hu2 : Hid (∀ z, u.ownBlock = some z → av.ownBlock ≠ some z) := fun z h1 h2 => by
              have q1 := (G2.1.lt z h1).1
              have q2 := (hA2.out.gb.1.lt z h2).2
              omega
            have hu0 := hideit (G2.1.down (Below.size hA2.out.gb.2))
            obtain ⟨uo, uc2, rfl⟩ := G2.form
            refine wpX_to _ (.slice uo 512 uc2) x2 rfl rfl (exec_append (.tmp 82) (.tmp 83) 34 34 rfl _ _ _ rfl rfl hr2) (fun X => Ext w1 X) (fun X hX' => hX') hA3.out.gb.2 ?_
            simp only [List.getElem_toArray, List.getElem_cons_zero, List.getElem_cons_succ, Act.put, List.setIfInBounds_toArray, List.set_cons_zero, List.set_cons_succ]
            clear hr2 G0 hb2 G2 hA2 hX
            refine wpX_f _ (.agg #[.int .i64 (bP (fs 0) k), .slice uo 512 uc2]) rfl rfl (fun X _ => by simp [go_sem]) ?_
            simp only [List.getElem_toArray, List.getElem_cons_zero, List.getElem_cons_succ, Act.put, List.setIfInBounds_toArray, List.set_cons_zero, List.set_cons_succ]
            obtain ⟨sv, x4, hr4, hA4⟩ := hA3.out.out (by have := hc64.out; have := hlt.out; omega) hu0.out hu1.out hu2.out 23
            refine wpX_to _ (.slice (some ⟨x2.heap.size, 0, none⟩) 1 1) (x2.alloc (.cells #[.int .i64 (bP (fs 0) k), .slice uo 512 uc2] 51)) rfl rfl (by simp [go_sem]) (fun X => Ext w1 X) (fun X hX' => hX') (Below.alloc hA3.out.gb.2 (Below.size hA3.out.gb.2) _) ?_
            simp only [List.getElem_toArray, List.getElem_cons_zero, List.getElem_cons_succ, Act.put, List.setIfInBounds_toArray, List.set_cons_zero, List.set_cons_succ]
            refine wpX_to _ sv x4 rfl rfl (exec_append (.tmp 77) (.tmp 86) 23 23 rfl _ _ _ rfl rfl hr4) (fun X => Ext w1 X) (fun X hX' => hX') hA4.gb.2 ?_
            simp only [List.getElem_toArray, List.getElem_cons_zero, List.getElem_cons_succ, Act.put, List.setIfInBounds_toArray, List.set_cons_zero, List.set_cons_succ]
            clear hr4 hu0 hu1 hu2 hA3 hX3
            replace hA4 := hideit hA4
            refine wpX_f _ (sv) rfl rfl (fun X _ => by simp [go_sem]) ?_
            simp only [List.getElem_toArray, List.getElem_cons_zero, List.getElem_cons_succ, Act.put, List.setIfInBounds_toArray, List.set_cons_zero, List.set_cons_succ]
            refine wpX_nil ?_
            go_upto_region 10 with (fail)
            refine wp_region_lit ?_
            refine wpList_run rfl (.int .i64 (k : Int)) (by simp [go_sem]) ?_
            simp only [Act.put, List.setIfInBounds_toArray, List.set_cons_zero, List.set_cons_succ]
            refine wpList_run rfl (.int .i64 ((k + 1 : Nat) : Int)) (by simp [go_sem, ek]) ?_
            simp only [Act.put, List.setIfInBounds_toArray, List.set_cons_zero, List.set_cons_succ]
            refine wpList_run rfl (.int .i64 ((k + 1 : Nat) : Int)) (by simp [go_sem]) ?_
            simp only [Act.put, List.setIfInBounds_toArray, List.set_cons_zero, List.set_cons_succ]
            go_wp2
            refine ⟨⟨k + 1, up1 us' k (.slice uo 512 uc2), by have := hlt.out; omega, rfl, hA4.out, fun i hi => ?_⟩, by have := hlt.out; have := hc64.out; simp [intOf]; omega⟩
            by_cases e : i = k
            · rw [e]; exact hgood.out
            · exact hI.out i (by omega)
          · have hlk2 : like 512 (xF t k (fs (k + 1))) = false := by cases h : like 512 (xF t k (fs (k + 1))) <;> simp_all
            go_upto_region 18 with (fail)
            refine wp_region_lit ?_
            refine wpList_run rfl (.bool true) (by simp [go_sem]) ?_
            simp only [Act.put, List.setIfInBounds_toArray, List.set_cons_zero, List.set_cons_succ]
            refine wpList_run rfl (.slice (some ⟨d, 0, none⟩) 512 dc) (by simp [go_sem]) ?_
            simp only [Act.put, List.setIfInBounds_toArray, List.set_cons_zero, List.set_cons_succ]
            have kl := rlike_any (.slice (some ⟨d, 0, none⟩) 512 dc) 512 (xF t k (fs (k + 1))) Y2 hb2.out (by decide)
            rw [hlk2] at kl
            refine wpList_call rfl (by simp [go_sem]) ((kl).mono ?_)
            rintro e y5 ⟨rfl, hX5⟩
            refine ⟨_, rfl, ?_⟩
            simp only [Act.put, List.setIfInBounds_toArray, List.set_cons_zero, List.set_cons_succ]
            replace hA2 := hideit (hA2.out.ext hX5)
            replace hb2 := hideit (hb2.out.ext hX5)
            replace hX := hideit (Ext.trans hX.out hX5)
            clear hX5 kl
            refine wpList_run rfl (.bool true) (by simp [go_sem]) ?_
            simp only [Act.put, List.setIfInBounds_toArray, List.set_cons_zero, List.set_cons_succ]
            have hno : Hid (¬ (okS (tP (fs 0)) (cP (fs 0)) ls fs ∧ okE x (cP (fs 0)) ls fs)) := fun h => by
              have := (h.1 k (by rw [hn.out]; exact hlt.out)).2
              rw [ht.out, htb.out, hlk2] at this
              cases this
            go_wp2
            refine bodyPost_ret (res3 rfl _ _ _) rfl ?_
            exact rpq_no hX.out hno.out rfl
        · have s1i : ¬ (s.toNat : Int) % 2 = 1 := by omega
          have htb : Hid (tnB t k = false) := hmod.trans (decide_eq_false s1)
          go_upto_region 15 with (fail)
          refine wp_region_lit ?_
          refine wpList_run rfl (.int .u64 (t.toNat : Int)) (by simp [go_sem]) ?_
          simp only [Act.put, List.setIfInBounds_toArray, List.set_cons_zero, List.set_cons_succ]
          refine wpList_run rfl (.int .i64 (k : Int)) (by simp [go_sem]) ?_
          simp only [Act.put, List.setIfInBounds_toArray, List.set_cons_zero, List.set_cons_succ]
          refine wpList_run rfl (.int .u64 (s.toNat : Int)) (by simp [go_sem, hs]) ?_
          simp only [Act.put, List.setIfInBounds_toArray, List.set_cons_zero, List.set_cons_succ]
          refine wpList_run rfl (.int .u64 ((s.toNat % 2 : Nat) : Int)) (by simp [go_sem, e68]) ?_
          simp only [Act.put, List.setIfInBounds_toArray, List.set_cons_zero, List.set_cons_succ]
          refine wpList_run rfl (.bool false) (by simp [go_sem, s1i]) ?_
          simp only [Act.put, List.setIfInBounds_toArray, List.set_cons_zero, List.set_cons_succ]
          refine wpList_run rfl (.bool false) (by simp [go_sem]) ?_
          simp only [Act.put, List.setIfInBounds_toArray, List.set_cons_zero, List.set_cons_succ]
          clear s1 s1i hs e68 hmod hse
          go_upto_region 16 with (fail)
          refine wp_region_lit ?_
          refine wpList_run rfl (.bool false) (by simp [go_sem]) ?_
          simp only [Act.put, List.setIfInBounds_toArray, List.set_cons_zero, List.set_cons_succ]
          have hb2 : Hid (BV (.slice bo 512 bc) 512 (xF t k (fs (k + 1))) Y) := hideit (by
            rw [show xF t k (fs (k + 1)) = fs (k + 1) from if_neg (by rw [htb.out]; decide)]
            exact hbv.out Y hX.out)
          by_cases hlk : like 512 (xF t k (fs (k + 1))) = false

          · have hlk2 : like 512 (xF t k (fs (k + 1))) = false := hlk
            go_upto_region 18 with (fail)
            refine wp_region_lit ?_
            refine wpList_run rfl (.bool false) (by simp [go_sem]) ?_
            simp only [Act.put, List.setIfInBounds_toArray, List.set_cons_zero, List.set_cons_succ]
            refine wpList_run rfl (.slice bo 512 bc) (by simp [go_sem]) ?_
            simp only [Act.put, List.setIfInBounds_toArray, List.set_cons_zero, List.set_cons_succ]
            have kl := rlike_any (.slice bo 512 bc) 512 (xF t k (fs (k + 1))) Y hb2.out (by decide)
            rw [hlk2] at kl
            refine wpList_call rfl (by simp [go_sem]) ((kl).mono ?_)
            rintro e y5 ⟨rfl, hX5⟩
            refine ⟨_, rfl, ?_⟩
            simp only [Act.put, List.setIfInBounds_toArray, List.set_cons_zero, List.set_cons_succ]
            replace hA2 := hideit (hA2.out.ext hX5)
            replace hb2 := hideit (hb2.out.ext hX5)
            replace hX := hideit (Ext.trans hX.out hX5)
            clear hX5 kl
            refine wpList_run rfl (.bool false) (by simp [go_sem]) ?_
            simp only [Act.put, List.setIfInBounds_toArray, List.set_cons_zero, List.set_cons_succ]
            have hgood : Hid (ls (k + 1) = 512 ∧ tnB t k = like 512 (xF t k (fs (k + 1)))) := ⟨hl.out, htb.out.trans hlk2.symm⟩
            clear hlk hlk2
            obtain ⟨pa, hpa, _⟩ := hIL.out.at k hlt.out
            have hpl : Hid (∀ X, Ext w1 X → X.cell? (pa.add k) = some (.int .i64 (bP (fs 0) k))) := fun X hX' => by
              obtain ⟨_, e1, q1⟩ := (hIL.out.ext hX').at k hlt.out
              rw [hpa] at e1
              injection e1 with e1
              subst e1
              exact q1
            subst hpa
            go_upto_region 20 with (fail)
            replace hA2 := hideit (hA2.out.ext (Ext.draw (Ext.refl y5)))
            replace hb2 := hideit (hb2.out.ext (Ext.draw (Ext.refl y5)))
            replace hX := hideit (Ext.draw hX.out)
            refine wp_region_lad (fun X => Ext w1 X) [(false, 0), (false, 1), (false, 2), (false, 3), (false, 4), (false, 6), (true, 5), (true, 7), (false, 8), (true, 9), (true, 10), (false, 11)] (by kernel_rfl) (by kernel_rfl) (by decide +kernel) (by decide +kernel) (by decide +kernel) (by decide +kernel) (hA2.out.gb.2) ?_
            refine wpX_f _ (.slice so k sc) rfl rfl (fun X _ => by simp [go_sem]) ?_
            simp only [List.getElem_toArray, List.getElem_cons_zero, Act.put, List.setIfInBounds_toArray, List.set_cons_zero, List.set_cons_succ]
            refine wpX_f _ (.slice (some pa) n pc) rfl rfl (fun X _ => by simp [go_sem]) ?_
            simp only [List.getElem_toArray, List.getElem_cons_zero, List.getElem_cons_succ, Act.put, List.setIfInBounds_toArray, List.set_cons_zero, List.set_cons_succ]
            refine wpX_f _ (.int .i64 (k : Int)) rfl rfl (fun X _ => by simp [go_sem]) ?_
            simp only [List.getElem_toArray, List.getElem_cons_zero, List.getElem_cons_succ, Act.put, List.setIfInBounds_toArray, List.set_cons_zero, List.set_cons_succ]
            refine wpX_f _ (.pointer (some (pa.add k))) rfl rfl (fun X _ => by simp [go_sem, k1]) ?_
            simp only [List.getElem_toArray, List.getElem_cons_zero, List.getElem_cons_succ, Act.put, List.setIfInBounds_toArray, List.set_cons_zero, List.set_cons_succ]
            refine wpX_f _ (.int .i64 (bP (fs 0) k)) rfl rfl (fun X hX => (by have q := hpl.out X hX; simp [go_sem, q])) ?_
            simp only [List.getElem_toArray, List.getElem_cons_zero, List.getElem_cons_succ, Act.put, List.setIfInBounds_toArray, List.set_cons_zero, List.set_cons_succ]
            refine wpX_f _ (.slice bo 512 bc) rfl rfl (fun X _ => by simp [go_sem]) ?_
            simp only [List.getElem_toArray, List.getElem_cons_zero, List.getElem_cons_succ, Act.put, List.setIfInBounds_toArray, List.set_cons_zero, List.set_cons_succ]
            have XN : Ext y5.drew (y5.drew.alloc (.cells #[] 5)) := (Below.refl _ _).alloc (Nat.le_refl _) _
            have G0 := hideit (GB.empty y5.drew (Ext.refl y5.drew) (xF t k (fs (k + 1))))
            replace hb2 := hideit (hb2.out.ext XN)
            refine wpX_to _ (.slice (some ⟨y5.drew.heap.size, 0, none⟩) 0 0) (y5.drew.alloc (.cells #[] 5)) rfl rfl (by simp [go_sem]) (fun X => Ext w1 X) (fun X hX' => hX') (Ext.trans hA2.out.gb.2 XN) ?_
            simp only [List.getElem_toArray, List.getElem_cons_zero, List.getElem_cons_succ, Act.put, List.setIfInBounds_toArray, List.set_cons_zero, List.set_cons_succ]
            clear XN
            generalize y5.drew.alloc (.cells #[] 5) = x1 at hb2 G0 ⊢
            obtain ⟨u, x2, hr2, G2⟩ := run_gb 34 G0.out (.slice bo 512 bc) 512 (xF t k (fs (k + 1))) hb2.out (by decide) (by decide)
            replace G2 : GB y5.drew u 512 (xF t k (fs (k + 1))) x2 := G2.congr (by decide) fun j hj => by unfold catF; rw [if_neg (by omega), Nat.sub_zero]
            have hA3 := hideit (hA2.out.ext G2.2)
            have hX3 := hideit (Ext.trans hX.out G2.2)
            have hu1 : Hid (∀ z, u.ownBlock = some z → (Value.slice so k sc).ownBlock ≠ some z) := fun z h1 h2 => by
              have q1 := (G2.1.lt z h1).1
              have q2 := (hA2.out.rd.own.lt z h2).2
              omega
            have hu2 : Hid (∀ z, u.ownBlock = some z → av.ownBlock ≠ some z) := fun z h1 h2 => by
              have q1 := (G2.1.lt z h1).1
              have q2 := (hA2.out.gb.1.lt z h2).2
              omega
            have hu0 := hideit (G2.1.down (Below.size hA2.out.gb.2))
            obtain ⟨uo, uc2, rfl⟩ := G2.form
            refine wpX_to _ (.slice uo 512 uc2) x2 rfl rfl (exec_append (.tmp 82) (.tmp 83) 34 34 rfl _ _ _ rfl rfl hr2) (fun X => Ext w1 X) (fun X hX' => hX') hA3.out.gb.2 ?_
            simp only [List.getElem_toArray, List.getElem_cons_zero, List.getElem_cons_succ, Act.put, List.setIfInBounds_toArray, List.set_cons_zero, List.set_cons_succ]
            clear hr2 G0 hb2 G2 hA2 hX
            refine wpX_f _ (.agg #[.int .i64 (bP (fs 0) k), .slice uo 512 uc2]) rfl rfl (fun X _ => by simp [go_sem]) ?_
            simp only [List.getElem_toArray, List.getElem_cons_zero, List.getElem_cons_succ, Act.put, List.setIfInBounds_toArray, List.set_cons_zero, List.set_cons_succ]
            obtain ⟨sv, x4, hr4, hA4⟩ := hA3.out.out (by have := hc64.out; have := hlt.out; omega) hu0.out hu1.out hu2.out 23
            refine wpX_to _ (.slice (some ⟨x2.heap.size, 0, none⟩) 1 1) (x2.alloc (.cells #[.int .i64 (bP (fs 0) k), .slice uo 512 uc2] 51)) rfl rfl (by simp [go_sem]) (fun X => Ext w1 X) (fun X hX' => hX') (Below.alloc hA3.out.gb.2 (Below.size hA3.out.gb.2) _) ?_
            simp only [List.getElem_toArray, List.getElem_cons_zero, List.getElem_cons_succ, Act.put, List.setIfInBounds_toArray, List.set_cons_zero, List.set_cons_succ]
            refine wpX_to _ sv x4 rfl rfl (exec_append (.tmp 77) (.tmp 86) 23 23 rfl _ _ _ rfl rfl hr4) (fun X => Ext w1 X) (fun X hX' => hX') hA4.gb.2 ?_
            simp only [List.getElem_toArray, List.getElem_cons_zero, List.getElem_cons_succ, Act.put, List.setIfInBounds_toArray, List.set_cons_zero, List.set_cons_succ]
            clear hr4 hu0 hu1 hu2 hA3 hX3
            replace hA4 := hideit hA4
            refine wpX_f _ (sv) rfl rfl (fun X _ => by simp [go_sem]) ?_
            simp only [List.getElem_toArray, List.getElem_cons_zero, List.getElem_cons_succ, Act.put, List.setIfInBounds_toArray, List.set_cons_zero, List.set_cons_succ]
            refine wpX_nil ?_
            go_upto_region 10 with (fail)
            refine wp_region_lit ?_
            refine wpList_run rfl (.int .i64 (k : Int)) (by simp [go_sem]) ?_
            simp only [Act.put, List.setIfInBounds_toArray, List.set_cons_zero, List.set_cons_succ]
            refine wpList_run rfl (.int .i64 ((k + 1 : Nat) : Int)) (by simp [go_sem, ek]) ?_
            simp only [Act.put, List.setIfInBounds_toArray, List.set_cons_zero, List.set_cons_succ]
            refine wpList_run rfl (.int .i64 ((k + 1 : Nat) : Int)) (by simp [go_sem]) ?_
            simp only [Act.put, List.setIfInBounds_toArray, List.set_cons_zero, List.set_cons_succ]
            go_wp2
            refine ⟨⟨k + 1, up1 us' k (.slice uo 512 uc2), by have := hlt.out; omega, rfl, hA4.out, fun i hi => ?_⟩, by have := hlt.out; have := hc64.out; simp [intOf]; omega⟩
            by_cases e : i = k
            · rw [e]; exact hgood.out
            · exact hI.out i (by omega)
          · have hlk2 : like 512 (xF t k (fs (k + 1))) = true := by cases h : like 512 (xF t k (fs (k + 1))) <;> simp_all
            go_upto_region 18 with (fail)
            refine wp_region_lit ?_
            refine wpList_run rfl (.bool false) (by simp [go_sem]) ?_
            simp only [Act.put, List.setIfInBounds_toArray, List.set_cons_zero, List.set_cons_succ]
            refine wpList_run rfl (.slice bo 512 bc) (by simp [go_sem]) ?_
            simp only [Act.put, List.setIfInBounds_toArray, List.set_cons_zero, List.set_cons_succ]
            have kl := rlike_any (.slice bo 512 bc) 512 (xF t k (fs (k + 1))) Y hb2.out (by decide)
            rw [hlk2] at kl
            refine wpList_call rfl (by simp [go_sem]) ((kl).mono ?_)
            rintro e y5 ⟨rfl, hX5⟩
            refine ⟨_, rfl, ?_⟩
            simp only [Act.put, List.setIfInBounds_toArray, List.set_cons_zero, List.set_cons_succ]
            replace hA2 := hideit (hA2.out.ext hX5)
            replace hb2 := hideit (hb2.out.ext hX5)
            replace hX := hideit (Ext.trans hX.out hX5)
            clear hX5 kl
            refine wpList_run rfl (.bool true) (by simp [go_sem]) ?_
            simp only [Act.put, List.setIfInBounds_toArray, List.set_cons_zero, List.set_cons_succ]
            have hno : Hid (¬ (okS (tP (fs 0)) (cP (fs 0)) ls fs ∧ okE x (cP (fs 0)) ls fs)) := fun h => by
              have := (h.1 k (by rw [hn.out]; exact hlt.out)).2
              rw [ht.out, htb.out, hlk2] at this
              cases this
            go_wp2
            refine bodyPost_ret (res3 rfl _ _ _) rfl ?_
            exact rpq_no hX.out hno.out rfl
      · have hl6 : ¬ (l : Int) = 512 := by omega
        have hno : Hid (¬ (okS (tP (fs 0)) (cP (fs 0)) ls fs ∧ okE x (cP (fs 0)) ls fs)) := fun h => by
          have := (h.1 k (by rw [hn.out]; exact hlt.out)).1
          have := hl.out
          omega
        go_upto_region 12 with (fail)
        refine wp_region_lit ?_
        refine wpList_run rfl (.slice bo l bc) (by simp [go_sem]) ?_
        simp only [Act.put, List.setIfInBounds_toArray, List.set_cons_zero, List.set_cons_succ]
        refine wpList_run rfl (.int .i64 (l : Int)) (by simp [go_sem]) ?_
        simp only [Act.put, List.setIfInBounds_toArray, List.set_cons_zero, List.set_cons_succ]
        refine wpList_run rfl (.bool true) (by simp [go_sem, hl6]) ?_
        simp only [Act.put, List.setIfInBounds_toArray, List.set_cons_zero, List.set_cons_succ]
        go_wp2
        refine bodyPost_ret (res3 rfl _ _ _) rfl ?_
        exact rpq_no hX.out hno.out rfl
    · obtain rfl : k = n := by omega
      have k1 : ¬ (k : Int) < (k : Int) := by omega
      have km : k + 1 < m := by have := hc.out; omega
      have kmi : (k : Int) + 1 < (m : Int) := by omega
      have kn0 : ¬ (k : Int) + 1 < 0 := by omega
      have e91 : IntKind.i64.wrap ((k : Int) + 1) = ((k + 1 : Nat) : Int) := by have := hc64.out; rw [IntKind.wrap_i64]; omega
      have e103 : IntKind.i64.wrap ((k : Int) + 2) = ((k + 2 : Nat) : Int) := by have := hc64.out; rw [IntKind.wrap_i64]; omega
      have hS : Hid (okS (tP (fs 0)) (cP (fs 0)) ls fs) := fun i hi => by rw [ht.out]; exact hI.out i (by rw [hn.out] at hi; exact hi)
      obtain ⟨a', ha, _⟩ := hP.out.at (k + 1) km
      injection ha with ha
      subst ha
      have hLL : Hid (∀ X, Ext wr.drew X → X.cell? ⟨a.block, a.off + (k + 1), none⟩ = some (us (k + 1)) ∧ PV (us (k + 1)) (ls (k + 1)) (fs (k + 1)) X) := fun X hX' => by
        have h1 := hP.out.ext (Ext.trans (Ext.draw hX.out) hX')
        obtain ⟨_, e1, q1⟩ := h1.at (k + 1) km
        injection e1 with e1
        subst e1
        rw [add_suc] at q1
        exact ⟨q1, h1.2 (k + 1) km⟩
      have hgb := hideit hA.out.gb.bv
      replace km := hideit km
      by_cases hq : (bS (ls (k + 1)) (fs (k + 1))).toList = (bS 512 (sealF x (allF (fun _ => 512) fs (k + 1)) (sumL (fun _ => 512) (k + 1)))).toList
      · replace hq := hideit hq
        have hEE : Hid (okE x (cP (fs 0)) ls fs) := hideit (by unfold okE; rw [hn.out]; exact (bS_list _ _ _ _).1 hq.out)
        go_upto_region 9 with (fail)
        refine wp_region_lit ?_
        refine wpList_run rfl (.int .i64 (k : Int)) (by simp [go_sem]) ?_
        simp only [Act.put, List.setIfInBounds_toArray, List.set_cons_zero, List.set_cons_succ]
        refine wpList_run rfl (.slice po k pc) (by simp [go_sem]) ?_
        simp only [Act.put, List.setIfInBounds_toArray, List.set_cons_zero, List.set_cons_succ]
        refine wpList_run rfl (.int .i64 (k : Int)) (by simp [go_sem]) ?_
        simp only [Act.put, List.setIfInBounds_toArray, List.set_cons_zero, List.set_cons_succ]
        refine wpList_run rfl (.bool false) (by simp [go_sem, k1]) ?_
        simp only [Act.put, List.setIfInBounds_toArray, List.set_cons_zero, List.set_cons_succ]
        go_upto_region 21 with (fail)
        replace hA := hideit (hA.out.ext (Ext.draw (Ext.refl wr)))
        replace hgb := hideit (hgb.out.ext (Ext.draw (Ext.refl wr)))
        replace hX := hideit (Ext.draw hX.out)
        refine wp_region_lad (fun X => Ext wr.drew X) [(false, 0), (false, 1), (false, 2), (false, 3), (false, 4), (false, 5), (false, 6), (false, 7), (false, 8), (true, 9), (false, 10), (false, 11)] (by kernel_rfl) (by kernel_rfl) (by decide +kernel) (by decide +kernel) (by decide +kernel) (by decide +kernel) (Ext.refl _) ?_
        refine wpX_f _ (.slice (some a) m cap) rfl rfl (fun X _ => by simp [go_sem]) ?_
        simp only [List.getElem_toArray, List.getElem_cons_zero, Act.put, List.setIfInBounds_toArray, List.set_cons_zero, List.set_cons_succ]
        refine wpX_f _ (.slice po k pc) rfl rfl (fun X _ => by simp [go_sem]) ?_
        simp only [List.getElem_toArray, List.getElem_cons_zero, List.getElem_cons_succ, Act.put, List.setIfInBounds_toArray, List.set_cons_zero, List.set_cons_succ]
        refine wpX_f _ (.int .i64 (k : Int)) rfl rfl (fun X _ => by simp [go_sem]) ?_
        simp only [List.getElem_toArray, List.getElem_cons_zero, List.getElem_cons_succ, Act.put, List.setIfInBounds_toArray, List.set_cons_zero, List.set_cons_succ]
        refine wpX_f _ (.int .i64 ((k + 1 : Nat) : Int)) rfl rfl (fun X _ => by simp [go_sem, e91]) ?_
        simp only [List.getElem_toArray, List.getElem_cons_zero, List.getElem_cons_succ, Act.put, List.setIfInBounds_toArray, List.set_cons_zero, List.set_cons_succ]
        refine wpX_f _ (.pointer (some ⟨a.block, a.off + (k + 1), none⟩)) rfl rfl (fun X _ => by simp [go_sem, kmi, kn0]) ?_
        simp only [List.getElem_toArray, List.getElem_cons_zero, List.getElem_cons_succ, Act.put, List.setIfInBounds_toArray, List.set_cons_zero, List.set_cons_succ]
        refine wpX_f _ (us (k + 1)) rfl rfl (fun X hX => (by have q := (hLL.out X hX).1; simp [go_sem, q])) ?_
        simp only [List.getElem_toArray, List.getElem_cons_zero, List.getElem_cons_succ, Act.put, List.setIfInBounds_toArray, List.set_cons_zero, List.set_cons_succ]
        refine wpX_f _ (.string (bS (ls (k + 1)) (fs (k + 1)))) rfl rfl (fun X hX => (by have q := convQ _ _ _ X (hLL.out X hX).2; simp [go_sem, q])) ?_
        simp only [List.getElem_toArray, List.getElem_cons_zero, List.getElem_cons_succ, Act.put, List.setIfInBounds_toArray, List.set_cons_zero, List.set_cons_succ]
        refine wpX_f _ (.int .u64 (x.toNat : Int)) rfl rfl (fun X _ => by simp [go_sem]) ?_
        simp only [List.getElem_toArray, List.getElem_cons_zero, List.getElem_cons_succ, Act.put, List.setIfInBounds_toArray, List.set_cons_zero, List.set_cons_succ]
        refine wpX_f _ (.slice qo (sumL (fun _ => 512) (k + 1)) qc) rfl rfl (fun X _ => by simp [go_sem]) ?_
        simp only [List.getElem_toArray, List.getElem_cons_zero, List.getElem_cons_succ, Act.put, List.setIfInBounds_toArray, List.set_cons_zero, List.set_cons_succ]
        refine wpX_call _ rfl rfl (by simp [go_sem]) ((rdn_any x (.slice qo (sumL (fun _ => 512) (k + 1)) qc) (sumL (fun _ => 512) (k + 1)) (allF (fun _ => 512) fs (k + 1)) wr.drew hgb.out (by rw [sumL_512]; have := hc64.out; omega)).mono ?_)
        rintro e y6 ⟨u, rfl, hGu⟩
        refine ⟨_, rfl, fun X => Ext y6 X, fun X hX => Ext.trans hGu.2 hX, Ext.refl _, ?_⟩
        simp only [List.getElem_toArray, List.getElem_cons_zero, List.getElem_cons_succ, Act.put, List.setIfInBounds_toArray, List.set_cons_zero, List.set_cons_succ]
        replace hA := hideit (hA.out.ext hGu.2)
        replace hgb := hideit (hgb.out.ext hGu.2)
        replace hX := hideit (Ext.trans hX.out hGu.2)
        have hub := hideit hGu.bv
        obtain ⟨uo, uc, rfl⟩ := hub.out.form
        clear hGu
        refine wpX_f _ (.string (bS 512 (sealF x (allF (fun _ => 512) fs (k + 1)) (sumL (fun _ => 512) (k + 1))))) rfl rfl (fun X hX => (by have q := convS (.slice uo 512 uc) 512 _ X (hub.out.ext hX); simp [go_sem, q])) ?_
        simp only [List.getElem_toArray, List.getElem_cons_zero, List.getElem_cons_succ, Act.put, List.setIfInBounds_toArray, List.set_cons_zero, List.set_cons_succ]
        refine wpX_f _ (.bool false) rfl rfl (fun X _ => by simp [go_sem, hq.out]) ?_
        simp only [List.getElem_toArray, List.getElem_cons_zero, List.getElem_cons_succ, Act.put, List.setIfInBounds_toArray, List.set_cons_zero, List.set_cons_succ]
        refine wpX_nil ?_
        go_upto_region 23 with (fail)
        refine wp_region_lit ?_
        refine wpList_run rfl (.slice so k sc) (by simp [go_sem]) ?_
        simp only [Act.put, List.setIfInBounds_toArray, List.set_cons_zero, List.set_cons_succ]
        refine wpList_run rfl (.slice po k pc) (by simp [go_sem]) ?_
        simp only [Act.put, List.setIfInBounds_toArray, List.set_cons_zero, List.set_cons_succ]
        refine wpList_run rfl (.int .i64 (k : Int)) (by simp [go_sem]) ?_
        simp only [Act.put, List.setIfInBounds_toArray, List.set_cons_zero, List.set_cons_succ]
        refine wpList_run rfl (.int .i64 ((k + 2 : Nat) : Int)) (by simp [go_sem, e103]) ?_
        simp only [Act.put, List.setIfInBounds_toArray, List.set_cons_zero, List.set_cons_succ]
        refine wpList_run rfl (.slice so k sc) (by simp [go_sem]) ?_
        simp only [Act.put, List.setIfInBounds_toArray, List.set_cons_zero, List.set_cons_succ]
        refine wpList_run rfl (.int .i64 ((k + 2 : Nat) : Int)) (by simp [go_sem]) ?_
        simp only [Act.put, List.setIfInBounds_toArray, List.set_cons_zero, List.set_cons_succ]
        refine wpList_run rfl (.int .i64 0) (by simp [go_sem]) ?_
        simp only [Act.put, List.setIfInBounds_toArray, List.set_cons_zero, List.set_cons_succ]
        go_wp2
        refine bodyPost_ret (res3 rfl _ _ _) rfl ?_
        refine ⟨hX.out, .inl ⟨⟨hS.out, hEE.out⟩, _, us', by rw [hn.out]; rfl, ?_⟩⟩
        rw [hn.out, ht.out]
        exact ⟨hA.out.rd.own.down2 (Below.size hw1.out), fun i hi => ⟨(hA.out.rd.byt i hi).1.down (Below.size hw1.out), (hA.out.rd.byt i hi).2⟩⟩
      · replace hq := hideit hq
        have hno : Hid (¬ (okS (tP (fs 0)) (cP (fs 0)) ls fs ∧ okE x (cP (fs 0)) ls fs)) := fun h => hq.out (by have := h.2; unfold okE at this; rw [hn.out] at this; exact (bS_list _ _ _ _).2 this)
        go_upto_region 9 with (fail)
        refine wp_region_lit ?_
        refine wpList_run rfl (.int .i64 (k : Int)) (by simp [go_sem]) ?_
        simp only [Act.put, List.setIfInBounds_toArray, List.set_cons_zero, List.set_cons_succ]
        refine wpList_run rfl (.slice po k pc) (by simp [go_sem]) ?_
        simp only [Act.put, List.setIfInBounds_toArray, List.set_cons_zero, List.set_cons_succ]
        refine wpList_run rfl (.int .i64 (k : Int)) (by simp [go_sem]) ?_
        simp only [Act.put, List.setIfInBounds_toArray, List.set_cons_zero, List.set_cons_succ]
        refine wpList_run rfl (.bool false) (by simp [go_sem, k1]) ?_
        simp only [Act.put, List.setIfInBounds_toArray, List.set_cons_zero, List.set_cons_succ]
        go_upto_region 21 with (fail)
        replace hA := hideit (hA.out.ext (Ext.draw (Ext.refl wr)))
        replace hgb := hideit (hgb.out.ext (Ext.draw (Ext.refl wr)))
        replace hX := hideit (Ext.draw hX.out)
        refine wp_region_lad (fun X => Ext wr.drew X) [(false, 0), (false, 1), (false, 2), (false, 3), (false, 4), (false, 5), (false, 6), (false, 7), (false, 8), (true, 9), (false, 10), (false, 11)] (by kernel_rfl) (by kernel_rfl) (by decide +kernel) (by decide +kernel) (by decide +kernel) (by decide +kernel) (Ext.refl _) ?_
        refine wpX_f _ (.slice (some a) m cap) rfl rfl (fun X _ => by simp [go_sem]) ?_
        simp only [List.getElem_toArray, List.getElem_cons_zero, Act.put, List.setIfInBounds_toArray, List.set_cons_zero, List.set_cons_succ]
        refine wpX_f _ (.slice po k pc) rfl rfl (fun X _ => by simp [go_sem]) ?_
        simp only [List.getElem_toArray, List.getElem_cons_zero, List.getElem_cons_succ, Act.put, List.setIfInBounds_toArray, List.set_cons_zero, List.set_cons_succ]
        refine wpX_f _ (.int .i64 (k : Int)) rfl rfl (fun X _ => by simp [go_sem]) ?_
        simp only [List.getElem_toArray, List.getElem_cons_zero, List.getElem_cons_succ, Act.put, List.setIfInBounds_toArray, List.set_cons_zero, List.set_cons_succ]
        refine wpX_f _ (.int .i64 ((k + 1 : Nat) : Int)) rfl rfl (fun X _ => by simp [go_sem, e91]) ?_
        simp only [List.getElem_toArray, List.getElem_cons_zero, List.getElem_cons_succ, Act.put, List.setIfInBounds_toArray, List.set_cons_zero, List.set_cons_succ]
        refine wpX_f _ (.pointer (some ⟨a.block, a.off + (k + 1), none⟩)) rfl rfl (fun X _ => by simp [go_sem, kmi, kn0]) ?_
        simp only [List.getElem_toArray, List.getElem_cons_zero, List.getElem_cons_succ, Act.put, List.setIfInBounds_toArray, List.set_cons_zero, List.set_cons_succ]
        refine wpX_f _ (us (k + 1)) rfl rfl (fun X hX => (by have q := (hLL.out X hX).1; simp [go_sem, q])) ?_
        simp only [List.getElem_toArray, List.getElem_cons_zero, List.getElem_cons_succ, Act.put, List.setIfInBounds_toArray, List.set_cons_zero, List.set_cons_succ]
        refine wpX_f _ (.string (bS (ls (k + 1)) (fs (k + 1)))) rfl rfl (fun X hX => (by have q := convQ _ _ _ X (hLL.out X hX).2; simp [go_sem, q])) ?_
        simp only [List.getElem_toArray, List.getElem_cons_zero, List.getElem_cons_succ, Act.put, List.setIfInBounds_toArray, List.set_cons_zero, List.set_cons_succ]
        refine wpX_f _ (.int .u64 (x.toNat : Int)) rfl rfl (fun X _ => by simp [go_sem]) ?_
        simp only [List.getElem_toArray, List.getElem_cons_zero, List.getElem_cons_succ, Act.put, List.setIfInBounds_toArray, List.set_cons_zero, List.set_cons_succ]
        refine wpX_f _ (.slice qo (sumL (fun _ => 512) (k + 1)) qc) rfl rfl (fun X _ => by simp [go_sem]) ?_
        simp only [List.getElem_toArray, List.getElem_cons_zero, List.getElem_cons_succ, Act.put, List.setIfInBounds_toArray, List.set_cons_zero, List.set_cons_succ]
        refine wpX_call _ rfl rfl (by simp [go_sem]) ((rdn_any x (.slice qo (sumL (fun _ => 512) (k + 1)) qc) (sumL (fun _ => 512) (k + 1)) (allF (fun _ => 512) fs (k + 1)) wr.drew hgb.out (by rw [sumL_512]; have := hc64.out; omega)).mono ?_)
        rintro e y6 ⟨u, rfl, hGu⟩
        refine ⟨_, rfl, fun X => Ext y6 X, fun X hX => Ext.trans hGu.2 hX, Ext.refl _, ?_⟩
        simp only [List.getElem_toArray, List.getElem_cons_zero, List.getElem_cons_succ, Act.put, List.setIfInBounds_toArray, List.set_cons_zero, List.set_cons_succ]
        replace hA := hideit (hA.out.ext hGu.2)
        replace hgb := hideit (hgb.out.ext hGu.2)
        replace hX := hideit (Ext.trans hX.out hGu.2)
        have hub := hideit hGu.bv
        obtain ⟨uo, uc, rfl⟩ := hub.out.form
        clear hGu
        refine wpX_f _ (.string (bS 512 (sealF x (allF (fun _ => 512) fs (k + 1)) (sumL (fun _ => 512) (k + 1))))) rfl rfl (fun X hX => (by have q := convS (.slice uo 512 uc) 512 _ X (hub.out.ext hX); simp [go_sem, q])) ?_
        simp only [List.getElem_toArray, List.getElem_cons_zero, List.getElem_cons_succ, Act.put, List.setIfInBounds_toArray, List.set_cons_zero, List.set_cons_succ]
        refine wpX_f _ (.bool true) rfl rfl (fun X _ => by simp [go_sem, hq.out]) ?_
        simp only [List.getElem_toArray, List.getElem_cons_zero, List.getElem_cons_succ, Act.put, List.setIfInBounds_toArray, List.set_cons_zero, List.set_cons_succ]
        refine wpX_nil ?_
        go_wp2
        refine bodyPost_ret (res3 rfl _ _ _) rfl ?_
        exact rpq_no hX.out hno.out rfl
end Go.Proofs.YtedgopionpdfeaaDoor
