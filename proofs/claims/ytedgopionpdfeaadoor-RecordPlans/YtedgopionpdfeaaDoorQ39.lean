/-
  The document's parts. The document's Plan; the walk of RecordPlans.
-/
import Derived.Test.YtedgopionpdfeaaDoorQ38
namespace Go.Proofs.YtedgopionpdfeaaDoor
open Go.RowKit Go.BigFrame
set_option linter.unusedVariables false
theorem by_le1 (g : Nat → BitVec 8) (m : Nat) (hm : m < 1) : byB (leN g 1) m = g m := by
  apply BitVec.eq_of_toNat_eq
  rw [byB_nat, (leN_nat g 1 (by decide)).1]
  have h0 := (g 0).isLt
  simp only [leS]
  obtain rfl : m = 0 := by omega
  omega
theorem by_le2 (g : Nat → BitVec 8) (m : Nat) (hm : m < 2) : byB (leN g 2) m = g m := by
  apply BitVec.eq_of_toNat_eq
  rw [byB_nat, (leN_nat g 2 (by decide)).1]
  have h0 := (g 0).isLt
  have h1 := (g 1).isLt
  simp only [leS]
  rcases (by omega : m = 0 ∨ m = 1) with rfl | rfl <;> omega
theorem by_le4 (g : Nat → BitVec 8) (m : Nat) (hm : m < 4) : byB (leN g 4) m = g m := by
  apply BitVec.eq_of_toNat_eq
  rw [byB_nat, (leN_nat g 4 (by decide)).1]
  have h0 := (g 0).isLt
  have h1 := (g 1).isLt
  have h2 := (g 2).isLt
  have h3 := (g 3).isLt
  simp only [leS]
  rcases (by omega : m = 0 ∨ m = 1 ∨ m = 2 ∨ m = 3) with rfl | rfl | rfl | rfl <;> omega
theorem by_le8 (g : Nat → BitVec 8) (m : Nat) (hm : m < 8) : byB (leN g 8) m = g m := by
  apply BitVec.eq_of_toNat_eq
  rw [byB_nat, (leN_nat g 8 (by decide)).1]
  have h0 := (g 0).isLt
  have h1 := (g 1).isLt
  have h2 := (g 2).isLt
  have h3 := (g 3).isLt
  have h4 := (g 4).isLt
  have h5 := (g 5).isLt
  have h6 := (g 6).isLt
  have h7 := (g 7).isLt
  simp only [leS]
  rcases (by omega : m = 0 ∨ m = 1 ∨ m = 2 ∨ m = 3 ∨ m = 4 ∨ m = 5 ∨ m = 6 ∨ m = 7) with rfl | rfl | rfl | rfl | rfl | rfl | rfl | rfl <;> omega
theorem ofNat_toNat (x : BitVec 64) : BitVec.ofNat 64 x.toNat = x := by
  apply BitVec.eq_of_toNat_eq
  rw [BitVec.toNat_ofNat, Nat.mod_eq_of_lt x.isLt]
theorem bW_of (x : BitVec 64) : bW ((x.toNat : Nat) : Int) = x := by
  unfold bW
  rw [Int.toNat_natCast, ofNat_toNat]
/-- bytes are a plan's, as they say, if the name and the zeros are -/
theorem plan_of (f : Nat → BitVec 8) (hn : cP f ≤ 64) : (∀ j, j < 512 → planF (nP f) (tP f) (cP f) (bP f) j = f j) ↔ (∀ j, j < 4 → f j = labF sPL j) ∧ ∀ i, i < 490 - 4 * cP f → f (22 + 4 * cP f + i) = 0#8 := by
  constructor
  · intro h
    refine ⟨fun j hj => ?_, fun i hi => ?_⟩
    · rw [← h j (by omega), planF_name _ _ _ _ j hj]
    · rw [← h _ (by omega), planF_rest _ _ _ _ _ (by omega)]
  · intro h j hj
    by_cases h1 : j < 4
    · rw [planF_name _ _ _ _ j h1, h.1 j h1]
    by_cases h2 : j < 12
    · obtain ⟨k, rfl⟩ : ∃ k, j = 4 + k := ⟨j - 4, by omega⟩
      rw [planF_num _ _ _ _ k (by omega)]
      exact by_le8 (shF f 4) k (by omega)
    by_cases h3 : j < 22 + 4 * cP f
    · obtain ⟨k, rfl⟩ : ∃ k, j = 12 + k := ⟨j - 12, by omega⟩
      rw [planF_list _ _ _ _ k (by omega)]
      by_cases h4 : k < 2
      · rw [plB_cnt _ _ _ k h4]
        unfold cP
        rw [ofNat_toNat]
        exact by_le2 (shF f 12) k h4
      by_cases h5 : k < 10
      · obtain ⟨m, rfl⟩ : ∃ m, k = 2 + m := ⟨k - 2, by omega⟩
        rw [plB_trn _ _ _ m (by omega)]
        have := by_le8 (shF f 14) m (by omega)
        rw [show 12 + (2 + m) = 14 + m by omega]
        exact this
      · obtain ⟨m, q, hq, rfl⟩ : ∃ m q, q < 4 ∧ k = 10 + (4 * m + q) := ⟨(k - 10) / 4, (k - 10) % 4, by omega, by omega⟩
        rw [plB_num _ _ _ m q hq]
        unfold bP gtI
        rw [bW_of, by_le4 _ q hq]
        show f (22 + (4 * m + q)) = _
        rw [show 12 + (10 + (4 * m + q)) = 22 + (4 * m + q) by omega]
    · obtain ⟨i, rfl⟩ : ∃ i, j = 22 + 4 * cP f + i := ⟨j - (22 + 4 * cP f), by omega⟩
      rw [planF_rest _ _ _ _ _ (by omega), h.2 i (by omega)]
theorem isPl_iff (f : Nat → BitVec 8) : isPl 512 f ↔ nP f ≠ 0#64 ∧ (rbs (cP f) (bP f) ∧ 1 ≤ cP f) ∧ cP f ≤ 64 ∧ tP f >>> cP f = 0#64 ∧ (bS 512 (planF (nP f) (tP f) (cP f) (bP f))).toList = (bS 512 f).toList := by
  constructor
  · rintro ⟨_, h1, h2, h3, h4⟩
    refine ⟨h4.1, ⟨h4.2.2.2.2, h4.2.1⟩, h4.2.2.1, h4.2.2.2.1, (bS_list _ _ _ _).2 (decide_eq_true ⟨rfl, (plan_of f h4.2.2.1).2 ⟨fun j hj => ?_, (zB_spec _).1 h3⟩⟩)⟩
    exact (of_decide_eq_true h1).2 j hj
  · rintro ⟨h1, ⟨h2, h3⟩, h4, h5, h6⟩
    obtain ⟨q1, q2⟩ := (plan_of f h4).1 (of_decide_eq_true ((bS_list _ _ _ _).1 h6)).2
    exact ⟨rfl, decide_eq_true ⟨rfl, q1⟩, by omega, (zB_spec _).2 q2, h1, h3, h4, h5, h2⟩
/-- numbers of one's own since a world -/
def GI (w0 : World) (v : Value) (n : Nat) (g : Nat → Int) (X : World) : Prop := OwnB w0.heap.size 3 v n (fun j => .int .i64 (g j)) X ∧ Ext w0 X
theorem GI.ext {w0 : World} {v : Value} {n : Nat} {g : Nat → Int} {X Y : World} (h : GI w0 v n g X) (k : Ext X Y) : GI w0 v n g Y := ⟨h.1.ext k, Ext.trans h.2 k⟩
theorem GI.il {w0 : World} {v : Value} {n : Nat} {g : Nat → Int} {X : World} (h : GI w0 v n g X) (hk : ∀ j, j < n → okI (g j)) : IL v n g X := h.1.il hk
theorem GI.form {w0 : World} {v : Value} {n : Nat} {g : Nat → Int} {X : World} (h : GI w0 v n g X) (hk : ∀ j, j < n → okI (g j)) : ∃ o c, v = .slice o n c := (h.il hk).form
theorem GI.nil (w0 : World) {X : World} (h : Ext w0 X) (g : Nat → Int) : GI w0 (.slice none 0 0) 0 g X := ⟨own_nil _ _ _ _, h⟩
theorem wpList_gi {ops : Array Oper} {rest : List Oper} {o : Oper} {a : Act} {Q : Exit → Act → World → Prop} {w0 X : World} {v : Value} {n : Nat} {g : Nat → Int} (hgd : o.guard = none) (s x : Operand)
    (ho : o.op = .call { callee := .builtin .append, args := #[s, x], argTypes := #[36, 36] }) (hs : a.eval s = v) (hG : GI w0 v n g X) (b : Nat) (z : Int) (hx : a.eval x = .slice (some ⟨b, 0, none⟩) 1 1) (hb : RowAt b 1 (fun _ => .int .i64 z) X) (hz : z = g n) (hn : n ≤ 100000)
    (h : ∀ v' X', GI w0 v' (n + 1) g X' → wpList Tryd.prog ops Q rest (a.put o.dst v') X') : wpList Tryd.prog ops Q (o :: rest) a X := by
  refine wpList_growE (n := n) (base := w0.heap.size) elem36 hgd s x ho hs hG.1 ⟨b, 0, none⟩ 1 1 (fun _ => .int .i64 z) (fun j => .int .i64 (g j)) hx (RowAt.lie hb 1 (Nat.le_refl _)) (fun j hj => rfl) (fun j hj => rfl) (fun j hj => by rw [show n + j = n by omega, hz]) (by omega) (by omega) (Below.size hG.2) ?_
  intro v' X' hO hg
  exact h v' X' ⟨hO, Below.trans hG.2 (below_grown (Below.size hG.2) hg fun k hk => (hG.1.lt k hk).1)⟩
theorem res4 {fn : Func} {t u v x : Tmp} (h : fn.results = #[.tmp t, .tmp u, .tmp v, .tmp x]) (tmps : Array Value) (P : Program) (w : World) : (results fn tmps).run P w = .ok (.tuple #[tmps.getD t undef, tmps.getD u undef, tmps.getD v undef, tmps.getD x undef]) w := by
  simp [results, h]
/-- what the document's parts answers -/
def PtQ (w : World) (l : Nat) (f : Nat → BitVec 8) (e : Ending) (w' : World) : Prop :=
  Ext w w' ∧ ((isPl l f ∧ ∃ v, e = .returned (.tuple #[.int .u64 ((nP f).toNat : Int), v, .int .u64 ((tP f).toNat : Int), .int .i64 0]) ∧ GI w v (cP f) (bP f) w') ∨ (¬ isPl l f ∧ e = .returned (.tuple #[.int .u64 0, .slice none 0 0, .int .u64 0, .int .i64 110])))
set_option maxRecDepth 20000 in
set_option maxHeartbeats 4000000 in
theorem parts_len (u : Value) (l : Nat) (f : Nat → BitVec 8) (w : World) (hu : BV u l f w) (hl : l ≠ 512) : Calls Tryd.prog 37 #[u] w (PtQ w l f) := by
  obtain ⟨oa, cp, rfl⟩ := hu.form
  have hl2 : ¬ (l : Int) = 512 := by omega
  have hno : Hid (¬ isPl l f) := fun h => hl h.1
  have hE := hideit (Ext.refl w)
  go_enter Tryd.func37, Tryd.ntmps37
  go_upto_region 1 with (fail)
  refine wp_region_lit ?_
  refine wpList_run rfl (.slice oa l cp) (by simp [go_sem]) ?_
  simp only [Act.put, List.setIfInBounds_toArray, List.set_cons_zero, List.set_cons_succ]
  refine wpList_run rfl (.int .i64 (l : Int)) (by simp [go_sem]) ?_
  simp only [Act.put, List.setIfInBounds_toArray, List.set_cons_zero, List.set_cons_succ]
  refine wpList_run rfl (.bool true) (by simp [go_sem, hl2]) ?_
  simp only [Act.put, List.setIfInBounds_toArray, List.set_cons_zero, List.set_cons_succ]
  go_wp2
  refine bodyPost_ret (res4 rfl _ _ _) rfl ?_
  exact ⟨hE.out, .inr ⟨hno.out, rfl⟩⟩
theorem le2_small (g : Nat → BitVec 8) : (leN g 2).toNat < 65536 := by
  rw [(leN_nat g 2 (by decide)).1]
  have h0 := (g 0).isLt
  have h1 := (g 1).isLt
  simp only [leS]
  omega
theorem le4_small (g : Nat → BitVec 8) : (leN g 4).toNat < 4294967296 := by
  rw [(leN_nat g 4 (by decide)).1]
  have h0 := (g 0).isLt
  have h1 := (g 1).isLt
  have h2 := (g 2).isLt
  have h3 := (g 3).isLt
  simp only [leS]
  omega
theorem shF_sh (f : Nat → BitVec 8) (n m : Nat) : shF (shF f n) m = shF f (n + m) := by
  funext j
  unfold shF
  rw [Nat.add_assoc]
theorem bP_at (f : Nat → BitVec 8) (k : Nat) : bP f k = ((leN (shF f (22 + 4 * k)) 4).toNat : Int) := by
  unfold bP gtI
  rw [shF_sh]
set_option maxRecDepth 20000 in
set_option maxHeartbeats 4000000 in
theorem parts_512 (u : Value) (f : Nat → BitVec 8) (w : World) (hu : BV u 512 f w) : Calls Tryd.prog 37 #[u] w (PtQ w 512 f) := by
  obtain ⟨ad, cap, rfl⟩ := hu.nonnil (by decide)
  obtain ⟨c1, v1⟩ := hu.cut 4 12 (by decide) (by decide)
  obtain ⟨c2, v2⟩ := hu.cut 12 14 (by decide) (by decide)
  obtain ⟨c3, v3⟩ := hu.cut 14 22 (by decide) (by decide)
  have hcap : Hid (512 ≤ cap) := by
    rcases hu with ⟨h, _⟩ | ⟨_, _, h, h2, _⟩
    · cases h
    · injection h with _ _ h
      subst h
      exact h2
  obtain ⟨x, hx⟩ : ∃ x, nP f = x := ⟨_, rfl⟩
  obtain ⟨t, ht⟩ : ∃ t, tP f = t := ⟨_, rfl⟩
  obtain ⟨c, hc⟩ : ∃ c, cP f = c := ⟨_, rfl⟩
  have hci : Hid (IntKind.i64.wrap ((leN (shF f 12) 2).toNat : Int) = (c : Int)) := hideit (by rw [← hc]; unfold cP; have := le2_small (shF f 12); rw [IntKind.wrap_i64]; omega)
  have hu0 := hideit hu
  replace hu := hideit hu
  replace v1 := hideit v1
  replace v2 := hideit v2
  replace v3 := hideit v3
  replace hx := hideit hx
  replace ht := hideit ht
  replace hc := hideit hc
  have hE := hideit (Ext.refl w)
  go_enter Tryd.func37, Tryd.ntmps37
  go_upto_region 1 with (fail)
  refine wp_region_lit ?_
  refine wpList_run rfl (.slice (some ad) 512 cap) (by simp [go_sem]) ?_
  simp only [Act.put, List.setIfInBounds_toArray, List.set_cons_zero, List.set_cons_succ]
  refine wpList_run rfl (.int .i64 512) (by simp [go_sem]) ?_
  simp only [Act.put, List.setIfInBounds_toArray, List.set_cons_zero, List.set_cons_succ]
  refine wpList_run rfl (.bool false) (by simp [go_sem]) ?_
  simp only [Act.put, List.setIfInBounds_toArray, List.set_cons_zero, List.set_cons_succ]
  go_upto_region 3 with (fail)
  replace hu := hideit (hu.out.ext (Ext.draw (Ext.refl w)))
  replace v1 := hideit (v1.out.ext (Ext.draw (Ext.refl w)))
  replace v2 := hideit (v2.out.ext (Ext.draw (Ext.refl w)))
  replace v3 := hideit (v3.out.ext (Ext.draw (Ext.refl w)))
  replace hE := hideit (Ext.draw hE.out)
  refine wp_region_lad (fun X => Ext w.drew X) [(false, 0), (false, 1), (false, 3), (false, 4), (false, 7), (false, 8), (true, 2), (true, 5), (false, 6), (true, 9), (false, 10), (false, 11), (false, 12)] (by kernel_rfl) (by kernel_rfl) (by decide +kernel) (by decide +kernel) (by decide +kernel) (by decide +kernel) (Ext.refl _) ?_
  refine wpX_f _ (.slice (some ad) 512 cap) rfl rfl (fun X _ => by simp [go_sem]) ?_
  simp only [List.getElem_toArray, List.getElem_cons_zero, Act.put, List.setIfInBounds_toArray, List.set_cons_zero, List.set_cons_succ]
  refine wpX_f _ (.slice (some (ad.add 4)) 8 (cap - 4)) rfl rfl (fun X hX => xcut 34 (.tmp 14) (.const (.int .i64 4)) (.const (.int .i64 12)) rfl ad 512 cap 4 12 rfl rfl rfl Tryd.underlying34 Tryd.sizeOf5 (by decide) c1) ?_
  simp only [List.getElem_toArray, List.getElem_cons_zero, List.getElem_cons_succ, Act.put, List.setIfInBounds_toArray, List.set_cons_zero, List.set_cons_succ]
  refine wpX_f _ (.slice (some ad) 512 cap) rfl rfl (fun X _ => by simp [go_sem]) ?_
  simp only [List.getElem_toArray, List.getElem_cons_zero, List.getElem_cons_succ, Act.put, List.setIfInBounds_toArray, List.set_cons_zero, List.set_cons_succ]
  refine wpX_f _ (.slice (some (ad.add 12)) 2 (cap - 12)) rfl rfl (fun X hX => xcut 34 (.tmp 17) (.const (.int .i64 12)) (.const (.int .i64 14)) rfl ad 512 cap 12 14 rfl rfl rfl Tryd.underlying34 Tryd.sizeOf5 (by decide) c2) ?_
  simp only [List.getElem_toArray, List.getElem_cons_zero, List.getElem_cons_succ, Act.put, List.setIfInBounds_toArray, List.set_cons_zero, List.set_cons_succ]
  refine wpX_f _ (.slice (some ad) 512 cap) rfl rfl (fun X _ => by simp [go_sem]) ?_
  simp only [List.getElem_toArray, List.getElem_cons_zero, List.getElem_cons_succ, Act.put, List.setIfInBounds_toArray, List.set_cons_zero, List.set_cons_succ]
  refine wpX_f _ (.slice (some (ad.add 14)) 8 (cap - 14)) rfl rfl (fun X hX => xcut 34 (.tmp 21) (.const (.int .i64 14)) (.const (.int .i64 22)) rfl ad 512 cap 14 22 rfl rfl rfl Tryd.underlying34 Tryd.sizeOf5 (by decide) c3) ?_
  simp only [List.getElem_toArray, List.getElem_cons_zero, List.getElem_cons_succ, Act.put, List.setIfInBounds_toArray, List.set_cons_zero, List.set_cons_succ]
  refine wpX_call _ rfl rfl (by simp [go_sem]) ((value_any (.slice (some (ad.add 4)) 8 (cap - 4)) 8 (shF f 4) w.drew v1.out (by decide)).mono ?_)
  rintro e y1 ⟨rfl, rfl⟩
  refine ⟨_, rfl, fun X => Ext w.drew X, fun X hX => hX, Ext.refl _, ?_⟩
  simp only [List.getElem_toArray, List.getElem_cons_zero, List.getElem_cons_succ, Act.put, List.setIfInBounds_toArray, List.set_cons_zero, List.set_cons_succ]
  refine wpX_call _ rfl rfl (by simp [go_sem]) ((value_any (.slice (some (ad.add 12)) 2 (cap - 12)) 2 (shF f 12) w.drew v2.out (by decide)).mono ?_)
  rintro e y2 ⟨rfl, rfl⟩
  refine ⟨_, rfl, fun X => Ext w.drew X, fun X hX => hX, Ext.refl _, ?_⟩
  simp only [List.getElem_toArray, List.getElem_cons_zero, List.getElem_cons_succ, Act.put, List.setIfInBounds_toArray, List.set_cons_zero, List.set_cons_succ]
  refine wpX_f _ (.int .i64 (c : Int)) rfl rfl (fun X _ => by simp [go_sem, hci.out]) ?_
  simp only [List.getElem_toArray, List.getElem_cons_zero, List.getElem_cons_succ, Act.put, List.setIfInBounds_toArray, List.set_cons_zero, List.set_cons_succ]
  refine wpX_call _ rfl rfl (by simp [go_sem]) ((value_any (.slice (some (ad.add 14)) 8 (cap - 14)) 8 (shF f 14) w.drew v3.out (by decide)).mono ?_)
  rintro e y3 ⟨rfl, rfl⟩
  refine ⟨_, rfl, fun X => Ext w.drew X, fun X hX => hX, Ext.refl _, ?_⟩
  simp only [List.getElem_toArray, List.getElem_cons_zero, List.getElem_cons_succ, Act.put, List.setIfInBounds_toArray, List.set_cons_zero, List.set_cons_succ]
  refine wpX_f _ (.int .u64 ((leN (shF f 4) 8).toNat : Int)) rfl rfl (fun X _ => by simp [go_sem]) ?_
  simp only [List.getElem_toArray, List.getElem_cons_zero, List.getElem_cons_succ, Act.put, List.setIfInBounds_toArray, List.set_cons_zero, List.set_cons_succ]
  refine wpX_f _ (.int .i64 (c : Int)) rfl rfl (fun X _ => by simp [go_sem]) ?_
  simp only [List.getElem_toArray, List.getElem_cons_zero, List.getElem_cons_succ, Act.put, List.setIfInBounds_toArray, List.set_cons_zero, List.set_cons_succ]
  refine wpX_f _ (.int .u64 ((leN (shF f 14) 8).toNat : Int)) rfl rfl (fun X _ => by simp [go_sem]) ?_
  simp only [List.getElem_toArray, List.getElem_cons_zero, List.getElem_cons_succ, Act.put, List.setIfInBounds_toArray, List.set_cons_zero, List.set_cons_succ]
  refine wpX_nil ?_
  have ex : leN (shF f 4) 8 = x := hx.out
  have et : leN (shF f 14) 8 = t := ht.out
  rw [ex, et]
  clear ex et v1 v2 v3 hci c1 c2 c3
  have bok : Hid (∀ j, okI (bP f j)) := fun j => bP_ok f j
  go_upto_region 4 with (fail)
  refine wp_region_lit ?_
  refine wpList_run rfl (.slice none 0 0) (by simp [go_sem]) ?_
  simp only [Act.put, List.setIfInBounds_toArray, List.set_cons_zero, List.set_cons_succ]
  go_upto_region 5 with (fail)
  refine wp_region_lit ?_
  refine wpList_run rfl (.int .i64 0) (by simp [go_sem]) ?_
  simp only [Act.put, List.setIfInBounds_toArray, List.set_cons_zero, List.set_cons_succ]
  go_wp2
  go_loopw [9, 10] (fun v i X => ∃ k : Nat, k ≤ c ∧ k ≤ 64 ∧ i = .int .i64 (k : Int) ∧ GI w v k (bP f) X) (fun _ i _ => 64 - (intOf i).toNat)
  case atStart => exact ⟨0, Nat.zero_le _, Nat.zero_le _, rfl, GI.nil w hE.out _⟩
  case round =>
    obtain ⟨k, hkc, hk64, rfl, hG⟩ := hrel
    clear hE hu
    have hE := hideit hG.2
    obtain ⟨vo, vc, rfl⟩ := hG.form fun j _ => bok.out j
    replace hG := hideit hG
    have hu := hideit (hu0.out.ext hE.out)
    by_cases hlt : k < c ∧ k < 64
    · have k1 : (k : Int) < (c : Int) := by omega
      have k2 : (k : Int) < 64 := by omega
      have e1 : IntKind.i64.wrap (4 * (k : Int)) = 4 * (k : Int) := by rw [IntKind.wrap_i64]; omega
      have e2 : IntKind.i64.wrap (22 + 4 * (k : Int)) = ((22 + 4 * k : Nat) : Int) := by rw [IntKind.wrap_i64]; omega
      have e3 : IntKind.i64.wrap (26 + 4 * (k : Int)) = ((26 + 4 * k : Nat) : Int) := by rw [IntKind.wrap_i64]; omega
      have ek : IntKind.i64.wrap ((k : Int) + 1) = ((k + 1 : Nat) : Int) := by rw [IntKind.wrap_i64]; omega
      obtain ⟨c4, v4⟩ := hu.out.cut (22 + 4 * k) (26 + 4 * k) (by omega) (by omega)
      have h4 : 26 + 4 * k - (22 + 4 * k) = 4 := by omega
      rw [h4] at v4
      have hcv : IntKind.i64.wrap ((leN (shF f (22 + 4 * k)) 4).toNat : Int) = bP f k := by
        have := le4_small (shF f (22 + 4 * k))
        rw [IntKind.wrap_i64, bP_at]
        omega
      replace v4 := hideit v4
      go_upto_region 6 with (fail)
      refine wp_region_lit ?_
      refine wpList_run rfl (.int .i64 (k : Int)) (by simp [go_sem]) ?_
      simp only [Act.put, List.setIfInBounds_toArray, List.set_cons_zero, List.set_cons_succ]
      refine wpList_run rfl (.int .i64 (c : Int)) (by simp [go_sem]) ?_
      simp only [Act.put, List.setIfInBounds_toArray, List.set_cons_zero, List.set_cons_succ]
      refine wpList_run rfl (.bool true) (by simp [go_sem, k1]) ?_
      simp only [Act.put, List.setIfInBounds_toArray, List.set_cons_zero, List.set_cons_succ]
      refine wpList_run rfl (.bool true) (by simp [go_sem]) ?_
      simp only [Act.put, List.setIfInBounds_toArray, List.set_cons_zero, List.set_cons_succ]
      refine wpList_runW rfl (.int .i64 (k : Int)) (by simp [go_sem]) ?_
      simp only [Act.put, List.setIfInBounds_toArray, List.set_cons_zero, List.set_cons_succ]
      refine wpList_runW rfl (.bool true) (by simp [go_sem, k2]) ?_
      simp only [Act.put, List.setIfInBounds_toArray, List.set_cons_zero, List.set_cons_succ]
      refine wpList_run rfl (.bool true) (by simp [go_sem]) ?_
      simp only [Act.put, List.setIfInBounds_toArray, List.set_cons_zero, List.set_cons_succ]
      go_upto_region 8 with (fail)
      refine wp_region_lit ?_
      refine wpList_run rfl (.slice vo k vc) (by simp [go_sem]) ?_
      simp only [Act.put, List.setIfInBounds_toArray, List.set_cons_zero, List.set_cons_succ]
      refine wpList_run rfl (.slice (some ad) 512 cap) (by simp [go_sem]) ?_
      simp only [Act.put, List.setIfInBounds_toArray, List.set_cons_zero, List.set_cons_succ]
      refine wpList_run rfl (.int .i64 (k : Int)) (by simp [go_sem]) ?_
      simp only [Act.put, List.setIfInBounds_toArray, List.set_cons_zero, List.set_cons_succ]
      refine wpList_run rfl (.int .i64 (4 * (k : Int))) (by simp [go_sem, e1]) ?_
      simp only [Act.put, List.setIfInBounds_toArray, List.set_cons_zero, List.set_cons_succ]
      refine wpList_run rfl (.int .i64 ((22 + 4 * k : Nat) : Int)) (by simp [go_sem, e2]) ?_
      simp only [Act.put, List.setIfInBounds_toArray, List.set_cons_zero, List.set_cons_succ]
      refine wpList_run rfl (.int .i64 (k : Int)) (by simp [go_sem]) ?_
      simp only [Act.put, List.setIfInBounds_toArray, List.set_cons_zero, List.set_cons_succ]
      refine wpList_run rfl (.int .i64 (4 * (k : Int))) (by simp [go_sem, e1]) ?_
      simp only [Act.put, List.setIfInBounds_toArray, List.set_cons_zero, List.set_cons_succ]
      refine wpList_run rfl (.int .i64 ((26 + 4 * k : Nat) : Int)) (by simp [go_sem, e3]) ?_
      simp only [Act.put, List.setIfInBounds_toArray, List.set_cons_zero, List.set_cons_succ]
      refine wpList_run rfl (.slice (some (ad.add (22 + 4 * k))) 4 (cap - (22 + 4 * k))) ((xcut 34 (.tmp 34) (.tmp 37) (.tmp 40) rfl ad 512 cap (22 + 4 * k) (26 + 4 * k) rfl rfl rfl Tryd.underlying34 Tryd.sizeOf5 (by omega) c4).trans (by rw [h4])) ?_
      simp only [Act.put, List.setIfInBounds_toArray, List.set_cons_zero, List.set_cons_succ]
      refine wpList_call rfl (by simp [go_sem]) ((value_any (.slice (some (ad.add (22 + 4 * k))) 4 (cap - (22 + 4 * k))) 4 (shF f (22 + 4 * k)) wr v4.out (by decide)).mono ?_)
      rintro e y4 ⟨rfl, y4h⟩
      refine ⟨_, rfl, ?_⟩
      simp only [Act.put, List.setIfInBounds_toArray, List.set_cons_zero, List.set_cons_succ]
      rw [y4h]
      clear y4h y4
      refine wpList_run rfl (.int .i64 (bP f k)) (by simp [go_sem, hcv]) ?_
      simp only [Act.put, List.setIfInBounds_toArray, List.set_cons_zero, List.set_cons_succ]
      have N1 := hideit (RowAt.new wr 1 (fun _ => .int .i64 (bP f k)) 3)
      have XN : Ext wr (wr.alloc (.cells (row 1 fun _ => .int .i64 (bP f k)).toArray 3)) := (Below.refl _ _).alloc (Nat.le_refl _) _
      refine wpList_to rfl (.slice (some ⟨wr.heap.size, 0, none⟩) 1 1) (wr.alloc (.cells (row 1 fun _ => .int .i64 (bP f k)).toArray 3)) (by simp [go_sem, row]) ?_
      simp only [Act.put, List.setIfInBounds_toArray, List.set_cons_zero, List.set_cons_succ]
      replace hG := hideit (hG.out.ext XN)
      clear XN
      generalize wr.alloc (.cells (row 1 fun _ => .int .i64 (bP f k)).toArray 3) = x9 at N1 hG ⊢
      obtain ⟨g9, hg9⟩ : ∃ g, g = wr.heap.size := ⟨_, rfl⟩
      rw [← hg9] at N1 ⊢
      clear hg9
      refine wpList_gi rfl (.tmp 33) (.tmp 44) rfl rfl hG.out g9 (bP f k) rfl N1.out rfl (by omega) ?_
      intro v5 w5 hG5
      simp only [Act.put, List.setIfInBounds_toArray, List.set_cons_zero, List.set_cons_succ]
      replace hG5 := hideit hG5
      clear hG N1 hE hu v4 hcv e1 e2 e3 c4
      refine wpList_run rfl (v5) (by simp [go_sem]) ?_
      simp only [Act.put, List.setIfInBounds_toArray, List.set_cons_zero, List.set_cons_succ]
      go_upto_region 7 with (fail)
      refine wp_region_lit ?_
      refine wpList_run rfl (.int .i64 (k : Int)) (by simp [go_sem]) ?_
      simp only [Act.put, List.setIfInBounds_toArray, List.set_cons_zero, List.set_cons_succ]
      refine wpList_run rfl (.int .i64 ((k + 1 : Nat) : Int)) (by simp [go_sem, ek]) ?_
      simp only [Act.put, List.setIfInBounds_toArray, List.set_cons_zero, List.set_cons_succ]
      refine wpList_run rfl (.int .i64 ((k + 1 : Nat) : Int)) (by simp [go_sem]) ?_
      simp only [Act.put, List.setIfInBounds_toArray, List.set_cons_zero, List.set_cons_succ]
      go_wp2
      refine ⟨⟨k + 1, by omega, by omega, rfl, hG5.out⟩, by simp [intOf]; omega⟩
    · have hmin : Hid (k = c ∨ (k = 64 ∧ 64 < c)) := hideit (by omega)
      replace hkc := hideit hkc
      replace hk64 := hideit hk64
      have hpl := isPl_iff f
      rw [hx.out, ht.out, hc.out] at hpl
      replace hpl := hideit hpl
      by_cases x0 : x.toNat = 0
      · have hno : Hid (¬ isPl 512 f) := fun h => (hpl.out.1 h).1 (u0.1 x0)
        have hr : Hid True := trivial
        by_cases kc : (k : Int) < (c : Int)
        · have k64 : ¬ (k : Int) < 64 := by have := hmin.out; omega
          go_upto_region 6 with (fail)
          refine wp_region_lit ?_
          refine wpList_run rfl (.int .i64 (k : Int)) (by simp [go_sem]) ?_
          simp only [Act.put, List.setIfInBounds_toArray, List.set_cons_zero, List.set_cons_succ]
          refine wpList_run rfl (.int .i64 (c : Int)) (by simp [go_sem]) ?_
          simp only [Act.put, List.setIfInBounds_toArray, List.set_cons_zero, List.set_cons_succ]
          refine wpList_run rfl (.bool true) (by simp [go_sem, kc]) ?_
          simp only [Act.put, List.setIfInBounds_toArray, List.set_cons_zero, List.set_cons_succ]
          refine wpList_run rfl (.bool true) (by simp [go_sem]) ?_
          simp only [Act.put, List.setIfInBounds_toArray, List.set_cons_zero, List.set_cons_succ]
          refine wpList_runW rfl (.int .i64 (k : Int)) (by simp [go_sem]) ?_
          simp only [Act.put, List.setIfInBounds_toArray, List.set_cons_zero, List.set_cons_succ]
          refine wpList_runW rfl (.bool false) (by simp [go_sem, k64]) ?_
          simp only [Act.put, List.setIfInBounds_toArray, List.set_cons_zero, List.set_cons_succ]
          refine wpList_run rfl (.bool false) (by simp [go_sem]) ?_
          simp only [Act.put, List.setIfInBounds_toArray, List.set_cons_zero, List.set_cons_succ]
          go_upto_region 9 with (fail)
          replace hu := hideit (hu.out.ext (Ext.draw (Ext.refl wr)))
          replace hG := hideit (hG.out.ext (Ext.draw (Ext.refl wr)))
          replace hE := hideit (Ext.draw hE.out)
          refine wp_region_lad (fun X => Ext wr.drew X) [(false, 0), (false, 1), (false, 2), (false, 3), (true, 4), (false, 5), (false, 6), (false, 7), (false, 8), (false, 9), (false, 10), (false, 11), (false, 12), (false, 13), (false, 14), (false, 15), (false, 16), (false, 17), (false, 18), (false, 19), (false, 20), (false, 21), (false, 22), (false, 23), (false, 24), (false, 25), (false, 26), (false, 27), (false, 28), (false, 31), (false, 32), (true, 29), (false, 30), (false, 33), (false, 34)] (by kernel_rfl) (by kernel_rfl) (by decide +kernel) (by decide +kernel) (by decide +kernel) (by decide +kernel) (Ext.refl _) ?_
          refine wpX_f _ (.int .u64 (x.toNat : Int)) rfl rfl (fun X _ => by simp [go_sem]) ?_
          simp only [List.getElem_toArray, List.getElem_cons_zero, Act.put, List.setIfInBounds_toArray, List.set_cons_zero, List.set_cons_succ]
          refine wpX_f _ (.bool true) rfl rfl (fun X _ => by simp [go_sem, x0]) ?_
          simp only [List.getElem_toArray, List.getElem_cons_zero, List.getElem_cons_succ, Act.put, List.setIfInBounds_toArray, List.set_cons_zero, List.set_cons_succ]
          refine wpX_f _ (.bool true) rfl rfl (fun X _ => by simp [go_sem]) ?_
          simp only [List.getElem_toArray, List.getElem_cons_zero, List.getElem_cons_succ, Act.put, List.setIfInBounds_toArray, List.set_cons_zero, List.set_cons_succ]
          refine wpX_fskip _ rfl rfl ?_
          simp only [List.getElem_toArray, List.getElem_cons_zero, List.getElem_cons_succ, Act.put, List.setIfInBounds_toArray, List.set_cons_zero, List.set_cons_succ]
          refine ⟨_, rfl, .inr ⟨rfl, fun X => Ext wr.drew X, fun X hX => hX, Ext.refl _, ?_⟩⟩
          simp only [List.getElem_toArray, List.getElem_cons_zero, List.getElem_cons_succ, Act.put, List.setIfInBounds_toArray, List.set_cons_zero, List.set_cons_succ]
          refine wpX_fskip _ rfl rfl ?_
          simp only [List.getElem_toArray, List.getElem_cons_zero, List.getElem_cons_succ, Act.put, List.setIfInBounds_toArray, List.set_cons_zero, List.set_cons_succ]
          refine wpX_f _ (.bool true) rfl rfl (fun X _ => by simp [go_sem]) ?_
          simp only [List.getElem_toArray, List.getElem_cons_zero, List.getElem_cons_succ, Act.put, List.setIfInBounds_toArray, List.set_cons_zero, List.set_cons_succ]
          refine wpX_f _ (.bool true) rfl rfl (fun X _ => by simp [go_sem]) ?_
          simp only [List.getElem_toArray, List.getElem_cons_zero, List.getElem_cons_succ, Act.put, List.setIfInBounds_toArray, List.set_cons_zero, List.set_cons_succ]
          refine wpX_fskip _ rfl rfl ?_
          simp only [List.getElem_toArray, List.getElem_cons_zero, List.getElem_cons_succ, Act.put, List.setIfInBounds_toArray, List.set_cons_zero, List.set_cons_succ]
          refine wpX_fskip _ rfl rfl ?_
          simp only [List.getElem_toArray, List.getElem_cons_zero, List.getElem_cons_succ, Act.put, List.setIfInBounds_toArray, List.set_cons_zero, List.set_cons_succ]
          refine wpX_fskip _ rfl rfl ?_
          simp only [List.getElem_toArray, List.getElem_cons_zero, List.getElem_cons_succ, Act.put, List.setIfInBounds_toArray, List.set_cons_zero, List.set_cons_succ]
          refine wpX_fskip _ rfl rfl ?_
          simp only [List.getElem_toArray, List.getElem_cons_zero, List.getElem_cons_succ, Act.put, List.setIfInBounds_toArray, List.set_cons_zero, List.set_cons_succ]
          refine wpX_f _ (.bool true) rfl rfl (fun X _ => by simp [go_sem]) ?_
          simp only [List.getElem_toArray, List.getElem_cons_zero, List.getElem_cons_succ, Act.put, List.setIfInBounds_toArray, List.set_cons_zero, List.set_cons_succ]
          refine wpX_f _ (.bool true) rfl rfl (fun X _ => by simp [go_sem]) ?_
          simp only [List.getElem_toArray, List.getElem_cons_zero, List.getElem_cons_succ, Act.put, List.setIfInBounds_toArray, List.set_cons_zero, List.set_cons_succ]
          refine wpX_fskip _ rfl rfl ?_
          simp only [List.getElem_toArray, List.getElem_cons_zero, List.getElem_cons_succ, Act.put, List.setIfInBounds_toArray, List.set_cons_zero, List.set_cons_succ]
          refine wpX_fskip _ rfl rfl ?_
          simp only [List.getElem_toArray, List.getElem_cons_zero, List.getElem_cons_succ, Act.put, List.setIfInBounds_toArray, List.set_cons_zero, List.set_cons_succ]
          refine wpX_fskip _ rfl rfl ?_
          simp only [List.getElem_toArray, List.getElem_cons_zero, List.getElem_cons_succ, Act.put, List.setIfInBounds_toArray, List.set_cons_zero, List.set_cons_succ]
          refine wpX_fskip _ rfl rfl ?_
          simp only [List.getElem_toArray, List.getElem_cons_zero, List.getElem_cons_succ, Act.put, List.setIfInBounds_toArray, List.set_cons_zero, List.set_cons_succ]
          refine wpX_fskip _ rfl rfl ?_
          simp only [List.getElem_toArray, List.getElem_cons_zero, List.getElem_cons_succ, Act.put, List.setIfInBounds_toArray, List.set_cons_zero, List.set_cons_succ]
          refine wpX_fskip _ rfl rfl ?_
          simp only [List.getElem_toArray, List.getElem_cons_zero, List.getElem_cons_succ, Act.put, List.setIfInBounds_toArray, List.set_cons_zero, List.set_cons_succ]
          refine wpX_fskip _ rfl rfl ?_
          simp only [List.getElem_toArray, List.getElem_cons_zero, List.getElem_cons_succ, Act.put, List.setIfInBounds_toArray, List.set_cons_zero, List.set_cons_succ]
          refine wpX_fskip _ rfl rfl ?_
          simp only [List.getElem_toArray, List.getElem_cons_zero, List.getElem_cons_succ, Act.put, List.setIfInBounds_toArray, List.set_cons_zero, List.set_cons_succ]
          refine wpX_fskip _ rfl rfl ?_
          simp only [List.getElem_toArray, List.getElem_cons_zero, List.getElem_cons_succ, Act.put, List.setIfInBounds_toArray, List.set_cons_zero, List.set_cons_succ]
          refine wpX_fskip _ rfl rfl ?_
          simp only [List.getElem_toArray, List.getElem_cons_zero, List.getElem_cons_succ, Act.put, List.setIfInBounds_toArray, List.set_cons_zero, List.set_cons_succ]
          refine wpX_f _ (.bool true) rfl rfl (fun X _ => by simp [go_sem]) ?_
          simp only [List.getElem_toArray, List.getElem_cons_zero, List.getElem_cons_succ, Act.put, List.setIfInBounds_toArray, List.set_cons_zero, List.set_cons_succ]
          refine wpX_f _ (.bool true) rfl rfl (fun X _ => by simp [go_sem]) ?_
          simp only [List.getElem_toArray, List.getElem_cons_zero, List.getElem_cons_succ, Act.put, List.setIfInBounds_toArray, List.set_cons_zero, List.set_cons_succ]
          refine wpX_fskip _ rfl rfl ?_
          simp only [List.getElem_toArray, List.getElem_cons_zero, List.getElem_cons_succ, Act.put, List.setIfInBounds_toArray, List.set_cons_zero, List.set_cons_succ]
          refine wpX_fskip _ rfl rfl ?_
          simp only [List.getElem_toArray, List.getElem_cons_zero, List.getElem_cons_succ, Act.put, List.setIfInBounds_toArray, List.set_cons_zero, List.set_cons_succ]
          refine wpX_fskip _ rfl rfl ?_
          simp only [List.getElem_toArray, List.getElem_cons_zero, List.getElem_cons_succ, Act.put, List.setIfInBounds_toArray, List.set_cons_zero, List.set_cons_succ]
          refine wpX_fskip _ rfl rfl ?_
          simp only [List.getElem_toArray, List.getElem_cons_zero, List.getElem_cons_succ, Act.put, List.setIfInBounds_toArray, List.set_cons_zero, List.set_cons_succ]
          refine wpX_fskip _ rfl rfl ?_
          simp only [List.getElem_toArray, List.getElem_cons_zero, List.getElem_cons_succ, Act.put, List.setIfInBounds_toArray, List.set_cons_zero, List.set_cons_succ]
          refine ⟨_, rfl, .inr ⟨rfl, fun X => Ext wr.drew X, fun X hX => hX, Ext.refl _, ?_⟩⟩
          simp only [List.getElem_toArray, List.getElem_cons_zero, List.getElem_cons_succ, Act.put, List.setIfInBounds_toArray, List.set_cons_zero, List.set_cons_succ]
          refine wpX_fskip _ rfl rfl ?_
          simp only [List.getElem_toArray, List.getElem_cons_zero, List.getElem_cons_succ, Act.put, List.setIfInBounds_toArray, List.set_cons_zero, List.set_cons_succ]
          refine wpX_fskip _ rfl rfl ?_
          simp only [List.getElem_toArray, List.getElem_cons_zero, List.getElem_cons_succ, Act.put, List.setIfInBounds_toArray, List.set_cons_zero, List.set_cons_succ]
          refine wpX_f _ (.bool true) rfl rfl (fun X _ => by simp [go_sem]) ?_
          simp only [List.getElem_toArray, List.getElem_cons_zero, List.getElem_cons_succ, Act.put, List.setIfInBounds_toArray, List.set_cons_zero, List.set_cons_succ]
          refine wpX_nil ?_
          go_wp2
          refine bodyPost_ret (res4 rfl _ _ _) rfl ?_
          exact ⟨hE.out, .inr ⟨hno.out, rfl⟩⟩
        · have k64 : True := trivial
          go_upto_region 6 with (fail)
          refine wp_region_lit ?_
          refine wpList_run rfl (.int .i64 (k : Int)) (by simp [go_sem]) ?_
          simp only [Act.put, List.setIfInBounds_toArray, List.set_cons_zero, List.set_cons_succ]
          refine wpList_run rfl (.int .i64 (c : Int)) (by simp [go_sem]) ?_
          simp only [Act.put, List.setIfInBounds_toArray, List.set_cons_zero, List.set_cons_succ]
          refine wpList_run rfl (.bool false) (by simp [go_sem, kc]) ?_
          simp only [Act.put, List.setIfInBounds_toArray, List.set_cons_zero, List.set_cons_succ]
          refine wpList_run rfl (.bool false) (by simp [go_sem]) ?_
          simp only [Act.put, List.setIfInBounds_toArray, List.set_cons_zero, List.set_cons_succ]
          with_reducible refine xnot (by with_unfolding_all rfl) ?_
          simp only [Act.put, List.setIfInBounds_toArray, List.set_cons_zero, List.set_cons_succ]
          with_reducible refine xnot (by with_unfolding_all rfl) ?_
          simp only [Act.put, List.setIfInBounds_toArray, List.set_cons_zero, List.set_cons_succ]
          refine wpList_run rfl (.bool false) (by simp [go_sem]) ?_
          simp only [Act.put, List.setIfInBounds_toArray, List.set_cons_zero, List.set_cons_succ]
          go_upto_region 9 with (fail)
          replace hu := hideit (hu.out.ext (Ext.draw (Ext.refl wr)))
          replace hG := hideit (hG.out.ext (Ext.draw (Ext.refl wr)))
          replace hE := hideit (Ext.draw hE.out)
          refine wp_region_lad (fun X => Ext wr.drew X) [(false, 0), (false, 1), (false, 2), (false, 3), (true, 4), (false, 5), (false, 6), (false, 7), (false, 8), (false, 9), (false, 10), (false, 11), (false, 12), (false, 13), (false, 14), (false, 15), (false, 16), (false, 17), (false, 18), (false, 19), (false, 20), (false, 21), (false, 22), (false, 23), (false, 24), (false, 25), (false, 26), (false, 27), (false, 28), (false, 31), (false, 32), (true, 29), (false, 30), (false, 33), (false, 34)] (by kernel_rfl) (by kernel_rfl) (by decide +kernel) (by decide +kernel) (by decide +kernel) (by decide +kernel) (Ext.refl _) ?_
          refine wpX_f _ (.int .u64 (x.toNat : Int)) rfl rfl (fun X _ => by simp [go_sem]) ?_
          simp only [List.getElem_toArray, List.getElem_cons_zero, Act.put, List.setIfInBounds_toArray, List.set_cons_zero, List.set_cons_succ]
          refine wpX_f _ (.bool true) rfl rfl (fun X _ => by simp [go_sem, x0]) ?_
          simp only [List.getElem_toArray, List.getElem_cons_zero, List.getElem_cons_succ, Act.put, List.setIfInBounds_toArray, List.set_cons_zero, List.set_cons_succ]
          refine wpX_f _ (.bool true) rfl rfl (fun X _ => by simp [go_sem]) ?_
          simp only [List.getElem_toArray, List.getElem_cons_zero, List.getElem_cons_succ, Act.put, List.setIfInBounds_toArray, List.set_cons_zero, List.set_cons_succ]
          refine wpX_fskip _ rfl rfl ?_
          simp only [List.getElem_toArray, List.getElem_cons_zero, List.getElem_cons_succ, Act.put, List.setIfInBounds_toArray, List.set_cons_zero, List.set_cons_succ]
          refine ⟨_, rfl, .inr ⟨rfl, fun X => Ext wr.drew X, fun X hX => hX, Ext.refl _, ?_⟩⟩
          simp only [List.getElem_toArray, List.getElem_cons_zero, List.getElem_cons_succ, Act.put, List.setIfInBounds_toArray, List.set_cons_zero, List.set_cons_succ]
          refine wpX_fskip _ rfl rfl ?_
          simp only [List.getElem_toArray, List.getElem_cons_zero, List.getElem_cons_succ, Act.put, List.setIfInBounds_toArray, List.set_cons_zero, List.set_cons_succ]
          refine wpX_f _ (.bool true) rfl rfl (fun X _ => by simp [go_sem]) ?_
          simp only [List.getElem_toArray, List.getElem_cons_zero, List.getElem_cons_succ, Act.put, List.setIfInBounds_toArray, List.set_cons_zero, List.set_cons_succ]
          refine wpX_f _ (.bool true) rfl rfl (fun X _ => by simp [go_sem]) ?_
          simp only [List.getElem_toArray, List.getElem_cons_zero, List.getElem_cons_succ, Act.put, List.setIfInBounds_toArray, List.set_cons_zero, List.set_cons_succ]
          refine wpX_fskip _ rfl rfl ?_
          simp only [List.getElem_toArray, List.getElem_cons_zero, List.getElem_cons_succ, Act.put, List.setIfInBounds_toArray, List.set_cons_zero, List.set_cons_succ]
          refine wpX_fskip _ rfl rfl ?_
          simp only [List.getElem_toArray, List.getElem_cons_zero, List.getElem_cons_succ, Act.put, List.setIfInBounds_toArray, List.set_cons_zero, List.set_cons_succ]
          refine wpX_fskip _ rfl rfl ?_
          simp only [List.getElem_toArray, List.getElem_cons_zero, List.getElem_cons_succ, Act.put, List.setIfInBounds_toArray, List.set_cons_zero, List.set_cons_succ]
          refine wpX_fskip _ rfl rfl ?_
          simp only [List.getElem_toArray, List.getElem_cons_zero, List.getElem_cons_succ, Act.put, List.setIfInBounds_toArray, List.set_cons_zero, List.set_cons_succ]
          refine wpX_f _ (.bool true) rfl rfl (fun X _ => by simp [go_sem]) ?_
          simp only [List.getElem_toArray, List.getElem_cons_zero, List.getElem_cons_succ, Act.put, List.setIfInBounds_toArray, List.set_cons_zero, List.set_cons_succ]
          refine wpX_f _ (.bool true) rfl rfl (fun X _ => by simp [go_sem]) ?_
          simp only [List.getElem_toArray, List.getElem_cons_zero, List.getElem_cons_succ, Act.put, List.setIfInBounds_toArray, List.set_cons_zero, List.set_cons_succ]
          refine wpX_fskip _ rfl rfl ?_
          simp only [List.getElem_toArray, List.getElem_cons_zero, List.getElem_cons_succ, Act.put, List.setIfInBounds_toArray, List.set_cons_zero, List.set_cons_succ]
          refine wpX_fskip _ rfl rfl ?_
          simp only [List.getElem_toArray, List.getElem_cons_zero, List.getElem_cons_succ, Act.put, List.setIfInBounds_toArray, List.set_cons_zero, List.set_cons_succ]
          refine wpX_fskip _ rfl rfl ?_
          simp only [List.getElem_toArray, List.getElem_cons_zero, List.getElem_cons_succ, Act.put, List.setIfInBounds_toArray, List.set_cons_zero, List.set_cons_succ]
          refine wpX_fskip _ rfl rfl ?_
          simp only [List.getElem_toArray, List.getElem_cons_zero, List.getElem_cons_succ, Act.put, List.setIfInBounds_toArray, List.set_cons_zero, List.set_cons_succ]
          refine wpX_fskip _ rfl rfl ?_
          simp only [List.getElem_toArray, List.getElem_cons_zero, List.getElem_cons_succ, Act.put, List.setIfInBounds_toArray, List.set_cons_zero, List.set_cons_succ]
          refine wpX_fskip _ rfl rfl ?_
          simp only [List.getElem_toArray, List.getElem_cons_zero, List.getElem_cons_succ, Act.put, List.setIfInBounds_toArray, List.set_cons_zero, List.set_cons_succ]
          refine wpX_fskip _ rfl rfl ?_
          simp only [List.getElem_toArray, List.getElem_cons_zero, List.getElem_cons_succ, Act.put, List.setIfInBounds_toArray, List.set_cons_zero, List.set_cons_succ]
          refine wpX_fskip _ rfl rfl ?_
          simp only [List.getElem_toArray, List.getElem_cons_zero, List.getElem_cons_succ, Act.put, List.setIfInBounds_toArray, List.set_cons_zero, List.set_cons_succ]
          refine wpX_fskip _ rfl rfl ?_
          simp only [List.getElem_toArray, List.getElem_cons_zero, List.getElem_cons_succ, Act.put, List.setIfInBounds_toArray, List.set_cons_zero, List.set_cons_succ]
          refine wpX_fskip _ rfl rfl ?_
          simp only [List.getElem_toArray, List.getElem_cons_zero, List.getElem_cons_succ, Act.put, List.setIfInBounds_toArray, List.set_cons_zero, List.set_cons_succ]
          refine wpX_f _ (.bool true) rfl rfl (fun X _ => by simp [go_sem]) ?_
          simp only [List.getElem_toArray, List.getElem_cons_zero, List.getElem_cons_succ, Act.put, List.setIfInBounds_toArray, List.set_cons_zero, List.set_cons_succ]
          refine wpX_f _ (.bool true) rfl rfl (fun X _ => by simp [go_sem]) ?_
          simp only [List.getElem_toArray, List.getElem_cons_zero, List.getElem_cons_succ, Act.put, List.setIfInBounds_toArray, List.set_cons_zero, List.set_cons_succ]
          refine wpX_fskip _ rfl rfl ?_
          simp only [List.getElem_toArray, List.getElem_cons_zero, List.getElem_cons_succ, Act.put, List.setIfInBounds_toArray, List.set_cons_zero, List.set_cons_succ]
          refine wpX_fskip _ rfl rfl ?_
          simp only [List.getElem_toArray, List.getElem_cons_zero, List.getElem_cons_succ, Act.put, List.setIfInBounds_toArray, List.set_cons_zero, List.set_cons_succ]
          refine wpX_fskip _ rfl rfl ?_
          simp only [List.getElem_toArray, List.getElem_cons_zero, List.getElem_cons_succ, Act.put, List.setIfInBounds_toArray, List.set_cons_zero, List.set_cons_succ]
          refine wpX_fskip _ rfl rfl ?_
          simp only [List.getElem_toArray, List.getElem_cons_zero, List.getElem_cons_succ, Act.put, List.setIfInBounds_toArray, List.set_cons_zero, List.set_cons_succ]
          refine wpX_fskip _ rfl rfl ?_
          simp only [List.getElem_toArray, List.getElem_cons_zero, List.getElem_cons_succ, Act.put, List.setIfInBounds_toArray, List.set_cons_zero, List.set_cons_succ]
          refine ⟨_, rfl, .inr ⟨rfl, fun X => Ext wr.drew X, fun X hX => hX, Ext.refl _, ?_⟩⟩
          simp only [List.getElem_toArray, List.getElem_cons_zero, List.getElem_cons_succ, Act.put, List.setIfInBounds_toArray, List.set_cons_zero, List.set_cons_succ]
          refine wpX_fskip _ rfl rfl ?_
          simp only [List.getElem_toArray, List.getElem_cons_zero, List.getElem_cons_succ, Act.put, List.setIfInBounds_toArray, List.set_cons_zero, List.set_cons_succ]
          refine wpX_fskip _ rfl rfl ?_
          simp only [List.getElem_toArray, List.getElem_cons_zero, List.getElem_cons_succ, Act.put, List.setIfInBounds_toArray, List.set_cons_zero, List.set_cons_succ]
          refine wpX_f _ (.bool true) rfl rfl (fun X _ => by simp [go_sem]) ?_
          simp only [List.getElem_toArray, List.getElem_cons_zero, List.getElem_cons_succ, Act.put, List.setIfInBounds_toArray, List.set_cons_zero, List.set_cons_succ]
          refine wpX_nil ?_
          go_wp2
          refine bodyPost_ret (res4 rfl _ _ _) rfl ?_
          exact ⟨hE.out, .inr ⟨hno.out, rfl⟩⟩
      · by_cases hr : rbs k (bP f) ∧ 1 ≤ k
        · replace hr := hideit hr
          by_cases hkc2 : k = c
          · subst hkc2
            have kk : ¬ (k : Int) < (k : Int) := by omega
            by_cases h64 : k < 64
            · have k64 : (k : Int) < 64 := by omega
              have hs := shr_nat t k
              rw [Nat.min_eq_left (by omega)] at hs
              obtain ⟨s, hse⟩ : ∃ s, s = t >>> k := ⟨_, rfl⟩
              rw [← hse] at hs
              by_cases ht0 : t >>> k = 0#64
              · have s0 : s.toNat = 0 := u0.2 (by rw [hse]; exact ht0)
                replace hse := hideit hse
                by_cases hq : (bS 512 (planF x t k (bP f))).toList = (bS 512 f).toList
                · have hyes : Hid (isPl 512 f) := hpl.out.2 ⟨fun h => x0 (u0.2 h), hr.out, hk64.out, ht0, hq⟩
                  replace hq := hideit hq
                  replace ht0 := hideit ht0
                  go_upto_region 6 with (fail)
                  refine wp_region_lit ?_
                  refine wpList_run rfl (.int .i64 (k : Int)) (by simp [go_sem]) ?_
                  simp only [Act.put, List.setIfInBounds_toArray, List.set_cons_zero, List.set_cons_succ]
                  refine wpList_run rfl (.int .i64 (k : Int)) (by simp [go_sem]) ?_
                  simp only [Act.put, List.setIfInBounds_toArray, List.set_cons_zero, List.set_cons_succ]
                  refine wpList_run rfl (.bool false) (by simp [go_sem, kk]) ?_
                  simp only [Act.put, List.setIfInBounds_toArray, List.set_cons_zero, List.set_cons_succ]
                  refine wpList_run rfl (.bool false) (by simp [go_sem]) ?_
                  simp only [Act.put, List.setIfInBounds_toArray, List.set_cons_zero, List.set_cons_succ]
                  with_reducible refine xnot (by with_unfolding_all rfl) ?_
                  simp only [Act.put, List.setIfInBounds_toArray, List.set_cons_zero, List.set_cons_succ]
                  with_reducible refine xnot (by with_unfolding_all rfl) ?_
                  simp only [Act.put, List.setIfInBounds_toArray, List.set_cons_zero, List.set_cons_succ]
                  refine wpList_run rfl (.bool false) (by simp [go_sem]) ?_
                  simp only [Act.put, List.setIfInBounds_toArray, List.set_cons_zero, List.set_cons_succ]
                  go_upto_region 9 with (fail)
                  replace hu := hideit (hu.out.ext (Ext.draw (Ext.refl wr)))
                  replace hG := hideit (hG.out.ext (Ext.draw (Ext.refl wr)))
                  replace hE := hideit (Ext.draw hE.out)
                  refine wp_region_lad (fun X => Ext wr.drew X) [(false, 0), (false, 1), (false, 2), (false, 3), (true, 4), (false, 5), (false, 6), (false, 7), (false, 8), (false, 9), (false, 10), (false, 11), (false, 12), (false, 13), (false, 14), (false, 15), (false, 16), (false, 17), (false, 18), (false, 19), (false, 20), (false, 21), (false, 22), (false, 23), (false, 24), (false, 25), (false, 26), (false, 27), (false, 28), (false, 31), (false, 32), (true, 29), (false, 30), (false, 33), (false, 34)] (by kernel_rfl) (by kernel_rfl) (by decide +kernel) (by decide +kernel) (by decide +kernel) (by decide +kernel) (Ext.refl _) ?_
                  refine wpX_f _ (.int .u64 (x.toNat : Int)) rfl rfl (fun X _ => by simp [go_sem]) ?_
                  simp only [List.getElem_toArray, List.getElem_cons_zero, Act.put, List.setIfInBounds_toArray, List.set_cons_zero, List.set_cons_succ]
                  refine wpX_f _ (.bool false) rfl rfl (fun X _ => by simp [go_sem, x0]) ?_
                  simp only [List.getElem_toArray, List.getElem_cons_zero, List.getElem_cons_succ, Act.put, List.setIfInBounds_toArray, List.set_cons_zero, List.set_cons_succ]
                  refine wpX_f _ (.bool false) rfl rfl (fun X _ => by simp [go_sem]) ?_
                  simp only [List.getElem_toArray, List.getElem_cons_zero, List.getElem_cons_succ, Act.put, List.setIfInBounds_toArray, List.set_cons_zero, List.set_cons_succ]
                  refine wpX_f _ (.slice vo k vc) rfl rfl (fun X _ => by simp [go_sem]) ?_
                  simp only [List.getElem_toArray, List.getElem_cons_zero, List.getElem_cons_succ, Act.put, List.setIfInBounds_toArray, List.set_cons_zero, List.set_cons_succ]
                  refine wpX_call _ rfl rfl (by simp [go_sem]) ((rright_any (.slice vo k vc) k (bP f) wr.drew (hG.out.il fun j _ => bok.out j) hk64.out true (iff_of_true rfl hr.out)).mono ?_)
                  rintro e y1 ⟨rfl, hX2⟩
                  refine ⟨_, rfl, fun X => Ext y1 X, fun X hX => Ext.trans hX2 hX, Ext.refl _, ?_⟩
                  simp only [List.getElem_toArray, List.getElem_cons_zero, List.getElem_cons_succ, Act.put, List.setIfInBounds_toArray, List.set_cons_zero, List.set_cons_succ]
                  replace hu := hideit (hu.out.ext hX2)
                  replace hG := hideit (hG.out.ext hX2)
                  replace hE := hideit (Ext.trans hE.out hX2)

                  clear hX2
                  refine wpX_f _ (.bool false) rfl rfl (fun X _ => by simp [go_sem]) ?_
                  simp only [List.getElem_toArray, List.getElem_cons_zero, List.getElem_cons_succ, Act.put, List.setIfInBounds_toArray, List.set_cons_zero, List.set_cons_succ]
                  refine wpX_f _ (.bool false) rfl rfl (fun X _ => by simp [go_sem]) ?_
                  simp only [List.getElem_toArray, List.getElem_cons_zero, List.getElem_cons_succ, Act.put, List.setIfInBounds_toArray, List.set_cons_zero, List.set_cons_succ]
                  refine wpX_f _ (.bool false) rfl rfl (fun X _ => by simp [go_sem]) ?_
                  simp only [List.getElem_toArray, List.getElem_cons_zero, List.getElem_cons_succ, Act.put, List.setIfInBounds_toArray, List.set_cons_zero, List.set_cons_succ]
                  refine wpX_f _ (.slice vo k vc) rfl rfl (fun X _ => by simp [go_sem]) ?_
                  simp only [List.getElem_toArray, List.getElem_cons_zero, List.getElem_cons_succ, Act.put, List.setIfInBounds_toArray, List.set_cons_zero, List.set_cons_succ]
                  refine wpX_f _ (.int .i64 (k : Int)) rfl rfl (fun X _ => by simp [go_sem]) ?_
                  simp only [List.getElem_toArray, List.getElem_cons_zero, List.getElem_cons_succ, Act.put, List.setIfInBounds_toArray, List.set_cons_zero, List.set_cons_succ]
                  refine wpX_f _ (.int .i64 (k : Int)) rfl rfl (fun X _ => by simp [go_sem]) ?_
                  simp only [List.getElem_toArray, List.getElem_cons_zero, List.getElem_cons_succ, Act.put, List.setIfInBounds_toArray, List.set_cons_zero, List.set_cons_succ]
                  refine wpX_f _ (.bool false) rfl rfl (fun X _ => by simp [go_sem]) ?_
                  simp only [List.getElem_toArray, List.getElem_cons_zero, List.getElem_cons_succ, Act.put, List.setIfInBounds_toArray, List.set_cons_zero, List.set_cons_succ]
                  refine wpX_f _ (.bool false) rfl rfl (fun X _ => by simp [go_sem]) ?_
                  simp only [List.getElem_toArray, List.getElem_cons_zero, List.getElem_cons_succ, Act.put, List.setIfInBounds_toArray, List.set_cons_zero, List.set_cons_succ]
                  refine wpX_f _ (.bool false) rfl rfl (fun X _ => by simp [go_sem]) ?_
                  simp only [List.getElem_toArray, List.getElem_cons_zero, List.getElem_cons_succ, Act.put, List.setIfInBounds_toArray, List.set_cons_zero, List.set_cons_succ]
                  refine wpX_f _ (.slice vo k vc) rfl rfl (fun X _ => by simp [go_sem]) ?_
                  simp only [List.getElem_toArray, List.getElem_cons_zero, List.getElem_cons_succ, Act.put, List.setIfInBounds_toArray, List.set_cons_zero, List.set_cons_succ]
                  refine wpX_f _ (.int .i64 (k : Int)) rfl rfl (fun X _ => by simp [go_sem]) ?_
                  simp only [List.getElem_toArray, List.getElem_cons_zero, List.getElem_cons_succ, Act.put, List.setIfInBounds_toArray, List.set_cons_zero, List.set_cons_succ]
                  refine wpX_f _ (.bool true) rfl rfl (fun X _ => by simp [go_sem, k64]) ?_
                  simp only [List.getElem_toArray, List.getElem_cons_zero, List.getElem_cons_succ, Act.put, List.setIfInBounds_toArray, List.set_cons_zero, List.set_cons_succ]
                  refine wpX_f _ (.bool true) rfl rfl (fun X _ => by simp [go_sem]) ?_
                  simp only [List.getElem_toArray, List.getElem_cons_zero, List.getElem_cons_succ, Act.put, List.setIfInBounds_toArray, List.set_cons_zero, List.set_cons_succ]
                  refine wpX_f _ (.int .u64 (t.toNat : Int)) rfl rfl (fun X _ => by simp [go_sem]) ?_
                  simp only [List.getElem_toArray, List.getElem_cons_zero, List.getElem_cons_succ, Act.put, List.setIfInBounds_toArray, List.set_cons_zero, List.set_cons_succ]
                  refine wpX_f _ (.slice vo k vc) rfl rfl (fun X _ => by simp [go_sem]) ?_
                  simp only [List.getElem_toArray, List.getElem_cons_zero, List.getElem_cons_succ, Act.put, List.setIfInBounds_toArray, List.set_cons_zero, List.set_cons_succ]
                  refine wpX_f _ (.int .i64 (k : Int)) rfl rfl (fun X _ => by simp [go_sem]) ?_
                  simp only [List.getElem_toArray, List.getElem_cons_zero, List.getElem_cons_succ, Act.put, List.setIfInBounds_toArray, List.set_cons_zero, List.set_cons_succ]
                  refine wpX_f _ (.int .u64 (s.toNat : Int)) rfl rfl (fun X _ => by simp [go_sem, hs]) ?_
                  simp only [List.getElem_toArray, List.getElem_cons_zero, List.getElem_cons_succ, Act.put, List.setIfInBounds_toArray, List.set_cons_zero, List.set_cons_succ]
                  refine wpX_f _ (.bool false) rfl rfl (fun X _ => by simp [go_sem, s0]) ?_
                  simp only [List.getElem_toArray, List.getElem_cons_zero, List.getElem_cons_succ, Act.put, List.setIfInBounds_toArray, List.set_cons_zero, List.set_cons_succ]
                  refine wpX_f _ (.bool false) rfl rfl (fun X _ => by simp [go_sem]) ?_
                  simp only [List.getElem_toArray, List.getElem_cons_zero, List.getElem_cons_succ, Act.put, List.setIfInBounds_toArray, List.set_cons_zero, List.set_cons_succ]
                  refine wpX_f _ (.bool false) rfl rfl (fun X _ => by simp [go_sem]) ?_
                  simp only [List.getElem_toArray, List.getElem_cons_zero, List.getElem_cons_succ, Act.put, List.setIfInBounds_toArray, List.set_cons_zero, List.set_cons_succ]
                  refine wpX_f _ (.bool false) rfl rfl (fun X _ => by simp [go_sem]) ?_
                  simp only [List.getElem_toArray, List.getElem_cons_zero, List.getElem_cons_succ, Act.put, List.setIfInBounds_toArray, List.set_cons_zero, List.set_cons_succ]
                  refine wpX_f _ (.int .u64 (x.toNat : Int)) rfl rfl (fun X _ => by simp [go_sem]) ?_
                  simp only [List.getElem_toArray, List.getElem_cons_zero, List.getElem_cons_succ, Act.put, List.setIfInBounds_toArray, List.set_cons_zero, List.set_cons_succ]
                  refine wpX_f _ (.slice vo k vc) rfl rfl (fun X _ => by simp [go_sem]) ?_
                  simp only [List.getElem_toArray, List.getElem_cons_zero, List.getElem_cons_succ, Act.put, List.setIfInBounds_toArray, List.set_cons_zero, List.set_cons_succ]
                  refine wpX_f _ (.int .u64 (t.toNat : Int)) rfl rfl (fun X _ => by simp [go_sem]) ?_
                  simp only [List.getElem_toArray, List.getElem_cons_zero, List.getElem_cons_succ, Act.put, List.setIfInBounds_toArray, List.set_cons_zero, List.set_cons_succ]
                  refine wpX_f _ (.slice (some ad) 512 cap) rfl rfl (fun X _ => by simp [go_sem]) ?_
                  simp only [List.getElem_toArray, List.getElem_cons_zero, List.getElem_cons_succ, Act.put, List.setIfInBounds_toArray, List.set_cons_zero, List.set_cons_succ]
                  refine wpX_f _ (.string (bS 512 (f))) rfl rfl (fun X hX => (by have cv3 := convS (.slice (some ad) 512 cap) 512 (f) X (hu.out.ext hX); simp [go_sem, cv3])) ?_
                  simp only [List.getElem_toArray, List.getElem_cons_zero, List.getElem_cons_succ, Act.put, List.setIfInBounds_toArray, List.set_cons_zero, List.set_cons_succ]
                  refine wpX_call _ rfl rfl (by simp [go_sem]) ((rplan_any x t (.slice vo k vc) k (bP f) y1 (hG.out.il fun j _ => bok.out j) hk64.out (fun i hi => (hr.out.1 i hi).1)).mono ?_)
                  rintro e y4 ⟨pv, rfl, hp, hX5⟩
                  refine ⟨_, rfl, fun X => Ext y4 X, fun X hX => Ext.trans hX5 hX, Ext.refl _, ?_⟩
                  simp only [List.getElem_toArray, List.getElem_cons_zero, List.getElem_cons_succ, Act.put, List.setIfInBounds_toArray, List.set_cons_zero, List.set_cons_succ]
                  replace hu := hideit (hu.out.ext hX5)
                  replace hG := hideit (hG.out.ext hX5)
                  replace hE := hideit (Ext.trans hE.out hX5)
                  obtain ⟨po, pc, rfl⟩ := hp.form
                  replace hp := hideit hp
                  clear hX5
                  refine wpX_f _ (.string (bS 512 (planF x t k (bP f)))) rfl rfl (fun X hX => (by have cv6 := convS (.slice po 512 pc) 512 (planF x t k (bP f)) X (hp.out.ext hX); simp [go_sem, cv6])) ?_
                  simp only [List.getElem_toArray, List.getElem_cons_zero, List.getElem_cons_succ, Act.put, List.setIfInBounds_toArray, List.set_cons_zero, List.set_cons_succ]
                  refine wpX_f _ (.bool false) rfl rfl (fun X _ => by simp [go_sem, hq.out]) ?_
                  simp only [List.getElem_toArray, List.getElem_cons_zero, List.getElem_cons_succ, Act.put, List.setIfInBounds_toArray, List.set_cons_zero, List.set_cons_succ]
                  refine wpX_f _ (.bool false) rfl rfl (fun X _ => by simp [go_sem]) ?_
                  simp only [List.getElem_toArray, List.getElem_cons_zero, List.getElem_cons_succ, Act.put, List.setIfInBounds_toArray, List.set_cons_zero, List.set_cons_succ]
                  refine wpX_nil ?_
                  go_upto_region 11 with (fail)
                  refine wp_region_lit ?_
                  refine wpList_run rfl (.int .u64 (x.toNat : Int)) (by simp [go_sem]) ?_
                  simp only [Act.put, List.setIfInBounds_toArray, List.set_cons_zero, List.set_cons_succ]
                  refine wpList_run rfl (.slice vo k vc) (by simp [go_sem]) ?_
                  simp only [Act.put, List.setIfInBounds_toArray, List.set_cons_zero, List.set_cons_succ]
                  refine wpList_run rfl (.int .u64 (t.toNat : Int)) (by simp [go_sem]) ?_
                  simp only [Act.put, List.setIfInBounds_toArray, List.set_cons_zero, List.set_cons_succ]
                  refine wpList_run rfl (.int .u64 (x.toNat : Int)) (by simp [go_sem]) ?_
                  simp only [Act.put, List.setIfInBounds_toArray, List.set_cons_zero, List.set_cons_succ]
                  refine wpList_run rfl (.slice vo k vc) (by simp [go_sem]) ?_
                  simp only [Act.put, List.setIfInBounds_toArray, List.set_cons_zero, List.set_cons_succ]
                  refine wpList_run rfl (.int .u64 (t.toNat : Int)) (by simp [go_sem]) ?_
                  simp only [Act.put, List.setIfInBounds_toArray, List.set_cons_zero, List.set_cons_succ]
                  refine wpList_run rfl (.int .i64 0) (by simp [go_sem]) ?_
                  simp only [Act.put, List.setIfInBounds_toArray, List.set_cons_zero, List.set_cons_succ]
                  go_wp2
                  refine bodyPost_ret (res4 rfl _ _ _) rfl ?_
                  exact ⟨hE.out, .inl ⟨hyes.out, _, by rw [hx.out, ht.out]; rfl, by rw [hc.out]; exact ⟨hG.out.1, hG.out.2⟩⟩⟩
                · have hno : Hid (¬ isPl 512 f) := fun h => hq (hpl.out.1 h).2.2.2.2
                  replace hq := hideit hq
                  replace ht0 := hideit ht0
                  go_upto_region 6 with (fail)
                  refine wp_region_lit ?_
                  refine wpList_run rfl (.int .i64 (k : Int)) (by simp [go_sem]) ?_
                  simp only [Act.put, List.setIfInBounds_toArray, List.set_cons_zero, List.set_cons_succ]
                  refine wpList_run rfl (.int .i64 (k : Int)) (by simp [go_sem]) ?_
                  simp only [Act.put, List.setIfInBounds_toArray, List.set_cons_zero, List.set_cons_succ]
                  refine wpList_run rfl (.bool false) (by simp [go_sem, kk]) ?_
                  simp only [Act.put, List.setIfInBounds_toArray, List.set_cons_zero, List.set_cons_succ]
                  refine wpList_run rfl (.bool false) (by simp [go_sem]) ?_
                  simp only [Act.put, List.setIfInBounds_toArray, List.set_cons_zero, List.set_cons_succ]
                  with_reducible refine xnot (by with_unfolding_all rfl) ?_
                  simp only [Act.put, List.setIfInBounds_toArray, List.set_cons_zero, List.set_cons_succ]
                  with_reducible refine xnot (by with_unfolding_all rfl) ?_
                  simp only [Act.put, List.setIfInBounds_toArray, List.set_cons_zero, List.set_cons_succ]
                  refine wpList_run rfl (.bool false) (by simp [go_sem]) ?_
                  simp only [Act.put, List.setIfInBounds_toArray, List.set_cons_zero, List.set_cons_succ]
                  go_upto_region 9 with (fail)
                  replace hu := hideit (hu.out.ext (Ext.draw (Ext.refl wr)))
                  replace hG := hideit (hG.out.ext (Ext.draw (Ext.refl wr)))
                  replace hE := hideit (Ext.draw hE.out)
                  refine wp_region_lad (fun X => Ext wr.drew X) [(false, 0), (false, 1), (false, 2), (false, 3), (true, 4), (false, 5), (false, 6), (false, 7), (false, 8), (false, 9), (false, 10), (false, 11), (false, 12), (false, 13), (false, 14), (false, 15), (false, 16), (false, 17), (false, 18), (false, 19), (false, 20), (false, 21), (false, 22), (false, 23), (false, 24), (false, 25), (false, 26), (false, 27), (false, 28), (false, 31), (false, 32), (true, 29), (false, 30), (false, 33), (false, 34)] (by kernel_rfl) (by kernel_rfl) (by decide +kernel) (by decide +kernel) (by decide +kernel) (by decide +kernel) (Ext.refl _) ?_
                  refine wpX_f _ (.int .u64 (x.toNat : Int)) rfl rfl (fun X _ => by simp [go_sem]) ?_
                  simp only [List.getElem_toArray, List.getElem_cons_zero, Act.put, List.setIfInBounds_toArray, List.set_cons_zero, List.set_cons_succ]
                  refine wpX_f _ (.bool false) rfl rfl (fun X _ => by simp [go_sem, x0]) ?_
                  simp only [List.getElem_toArray, List.getElem_cons_zero, List.getElem_cons_succ, Act.put, List.setIfInBounds_toArray, List.set_cons_zero, List.set_cons_succ]
                  refine wpX_f _ (.bool false) rfl rfl (fun X _ => by simp [go_sem]) ?_
                  simp only [List.getElem_toArray, List.getElem_cons_zero, List.getElem_cons_succ, Act.put, List.setIfInBounds_toArray, List.set_cons_zero, List.set_cons_succ]
                  refine wpX_f _ (.slice vo k vc) rfl rfl (fun X _ => by simp [go_sem]) ?_
                  simp only [List.getElem_toArray, List.getElem_cons_zero, List.getElem_cons_succ, Act.put, List.setIfInBounds_toArray, List.set_cons_zero, List.set_cons_succ]
                  refine wpX_call _ rfl rfl (by simp [go_sem]) ((rright_any (.slice vo k vc) k (bP f) wr.drew (hG.out.il fun j _ => bok.out j) hk64.out true (iff_of_true rfl hr.out)).mono ?_)
                  rintro e y1 ⟨rfl, hX2⟩
                  refine ⟨_, rfl, fun X => Ext y1 X, fun X hX => Ext.trans hX2 hX, Ext.refl _, ?_⟩
                  simp only [List.getElem_toArray, List.getElem_cons_zero, List.getElem_cons_succ, Act.put, List.setIfInBounds_toArray, List.set_cons_zero, List.set_cons_succ]
                  replace hu := hideit (hu.out.ext hX2)
                  replace hG := hideit (hG.out.ext hX2)
                  replace hE := hideit (Ext.trans hE.out hX2)

                  clear hX2
                  refine wpX_f _ (.bool false) rfl rfl (fun X _ => by simp [go_sem]) ?_
                  simp only [List.getElem_toArray, List.getElem_cons_zero, List.getElem_cons_succ, Act.put, List.setIfInBounds_toArray, List.set_cons_zero, List.set_cons_succ]
                  refine wpX_f _ (.bool false) rfl rfl (fun X _ => by simp [go_sem]) ?_
                  simp only [List.getElem_toArray, List.getElem_cons_zero, List.getElem_cons_succ, Act.put, List.setIfInBounds_toArray, List.set_cons_zero, List.set_cons_succ]
                  refine wpX_f _ (.bool false) rfl rfl (fun X _ => by simp [go_sem]) ?_
                  simp only [List.getElem_toArray, List.getElem_cons_zero, List.getElem_cons_succ, Act.put, List.setIfInBounds_toArray, List.set_cons_zero, List.set_cons_succ]
                  refine wpX_f _ (.slice vo k vc) rfl rfl (fun X _ => by simp [go_sem]) ?_
                  simp only [List.getElem_toArray, List.getElem_cons_zero, List.getElem_cons_succ, Act.put, List.setIfInBounds_toArray, List.set_cons_zero, List.set_cons_succ]
                  refine wpX_f _ (.int .i64 (k : Int)) rfl rfl (fun X _ => by simp [go_sem]) ?_
                  simp only [List.getElem_toArray, List.getElem_cons_zero, List.getElem_cons_succ, Act.put, List.setIfInBounds_toArray, List.set_cons_zero, List.set_cons_succ]
                  refine wpX_f _ (.int .i64 (k : Int)) rfl rfl (fun X _ => by simp [go_sem]) ?_
                  simp only [List.getElem_toArray, List.getElem_cons_zero, List.getElem_cons_succ, Act.put, List.setIfInBounds_toArray, List.set_cons_zero, List.set_cons_succ]
                  refine wpX_f _ (.bool false) rfl rfl (fun X _ => by simp [go_sem]) ?_
                  simp only [List.getElem_toArray, List.getElem_cons_zero, List.getElem_cons_succ, Act.put, List.setIfInBounds_toArray, List.set_cons_zero, List.set_cons_succ]
                  refine wpX_f _ (.bool false) rfl rfl (fun X _ => by simp [go_sem]) ?_
                  simp only [List.getElem_toArray, List.getElem_cons_zero, List.getElem_cons_succ, Act.put, List.setIfInBounds_toArray, List.set_cons_zero, List.set_cons_succ]
                  refine wpX_f _ (.bool false) rfl rfl (fun X _ => by simp [go_sem]) ?_
                  simp only [List.getElem_toArray, List.getElem_cons_zero, List.getElem_cons_succ, Act.put, List.setIfInBounds_toArray, List.set_cons_zero, List.set_cons_succ]
                  refine wpX_f _ (.slice vo k vc) rfl rfl (fun X _ => by simp [go_sem]) ?_
                  simp only [List.getElem_toArray, List.getElem_cons_zero, List.getElem_cons_succ, Act.put, List.setIfInBounds_toArray, List.set_cons_zero, List.set_cons_succ]
                  refine wpX_f _ (.int .i64 (k : Int)) rfl rfl (fun X _ => by simp [go_sem]) ?_
                  simp only [List.getElem_toArray, List.getElem_cons_zero, List.getElem_cons_succ, Act.put, List.setIfInBounds_toArray, List.set_cons_zero, List.set_cons_succ]
                  refine wpX_f _ (.bool true) rfl rfl (fun X _ => by simp [go_sem, k64]) ?_
                  simp only [List.getElem_toArray, List.getElem_cons_zero, List.getElem_cons_succ, Act.put, List.setIfInBounds_toArray, List.set_cons_zero, List.set_cons_succ]
                  refine wpX_f _ (.bool true) rfl rfl (fun X _ => by simp [go_sem]) ?_
                  simp only [List.getElem_toArray, List.getElem_cons_zero, List.getElem_cons_succ, Act.put, List.setIfInBounds_toArray, List.set_cons_zero, List.set_cons_succ]
                  refine wpX_f _ (.int .u64 (t.toNat : Int)) rfl rfl (fun X _ => by simp [go_sem]) ?_
                  simp only [List.getElem_toArray, List.getElem_cons_zero, List.getElem_cons_succ, Act.put, List.setIfInBounds_toArray, List.set_cons_zero, List.set_cons_succ]
                  refine wpX_f _ (.slice vo k vc) rfl rfl (fun X _ => by simp [go_sem]) ?_
                  simp only [List.getElem_toArray, List.getElem_cons_zero, List.getElem_cons_succ, Act.put, List.setIfInBounds_toArray, List.set_cons_zero, List.set_cons_succ]
                  refine wpX_f _ (.int .i64 (k : Int)) rfl rfl (fun X _ => by simp [go_sem]) ?_
                  simp only [List.getElem_toArray, List.getElem_cons_zero, List.getElem_cons_succ, Act.put, List.setIfInBounds_toArray, List.set_cons_zero, List.set_cons_succ]
                  refine wpX_f _ (.int .u64 (s.toNat : Int)) rfl rfl (fun X _ => by simp [go_sem, hs]) ?_
                  simp only [List.getElem_toArray, List.getElem_cons_zero, List.getElem_cons_succ, Act.put, List.setIfInBounds_toArray, List.set_cons_zero, List.set_cons_succ]
                  refine wpX_f _ (.bool false) rfl rfl (fun X _ => by simp [go_sem, s0]) ?_
                  simp only [List.getElem_toArray, List.getElem_cons_zero, List.getElem_cons_succ, Act.put, List.setIfInBounds_toArray, List.set_cons_zero, List.set_cons_succ]
                  refine wpX_f _ (.bool false) rfl rfl (fun X _ => by simp [go_sem]) ?_
                  simp only [List.getElem_toArray, List.getElem_cons_zero, List.getElem_cons_succ, Act.put, List.setIfInBounds_toArray, List.set_cons_zero, List.set_cons_succ]
                  refine wpX_f _ (.bool false) rfl rfl (fun X _ => by simp [go_sem]) ?_
                  simp only [List.getElem_toArray, List.getElem_cons_zero, List.getElem_cons_succ, Act.put, List.setIfInBounds_toArray, List.set_cons_zero, List.set_cons_succ]
                  refine wpX_f _ (.bool false) rfl rfl (fun X _ => by simp [go_sem]) ?_
                  simp only [List.getElem_toArray, List.getElem_cons_zero, List.getElem_cons_succ, Act.put, List.setIfInBounds_toArray, List.set_cons_zero, List.set_cons_succ]
                  refine wpX_f _ (.int .u64 (x.toNat : Int)) rfl rfl (fun X _ => by simp [go_sem]) ?_
                  simp only [List.getElem_toArray, List.getElem_cons_zero, List.getElem_cons_succ, Act.put, List.setIfInBounds_toArray, List.set_cons_zero, List.set_cons_succ]
                  refine wpX_f _ (.slice vo k vc) rfl rfl (fun X _ => by simp [go_sem]) ?_
                  simp only [List.getElem_toArray, List.getElem_cons_zero, List.getElem_cons_succ, Act.put, List.setIfInBounds_toArray, List.set_cons_zero, List.set_cons_succ]
                  refine wpX_f _ (.int .u64 (t.toNat : Int)) rfl rfl (fun X _ => by simp [go_sem]) ?_
                  simp only [List.getElem_toArray, List.getElem_cons_zero, List.getElem_cons_succ, Act.put, List.setIfInBounds_toArray, List.set_cons_zero, List.set_cons_succ]
                  refine wpX_f _ (.slice (some ad) 512 cap) rfl rfl (fun X _ => by simp [go_sem]) ?_
                  simp only [List.getElem_toArray, List.getElem_cons_zero, List.getElem_cons_succ, Act.put, List.setIfInBounds_toArray, List.set_cons_zero, List.set_cons_succ]
                  refine wpX_f _ (.string (bS 512 (f))) rfl rfl (fun X hX => (by have cv3 := convS (.slice (some ad) 512 cap) 512 (f) X (hu.out.ext hX); simp [go_sem, cv3])) ?_
                  simp only [List.getElem_toArray, List.getElem_cons_zero, List.getElem_cons_succ, Act.put, List.setIfInBounds_toArray, List.set_cons_zero, List.set_cons_succ]
                  refine wpX_call _ rfl rfl (by simp [go_sem]) ((rplan_any x t (.slice vo k vc) k (bP f) y1 (hG.out.il fun j _ => bok.out j) hk64.out (fun i hi => (hr.out.1 i hi).1)).mono ?_)
                  rintro e y4 ⟨pv, rfl, hp, hX5⟩
                  refine ⟨_, rfl, fun X => Ext y4 X, fun X hX => Ext.trans hX5 hX, Ext.refl _, ?_⟩
                  simp only [List.getElem_toArray, List.getElem_cons_zero, List.getElem_cons_succ, Act.put, List.setIfInBounds_toArray, List.set_cons_zero, List.set_cons_succ]
                  replace hu := hideit (hu.out.ext hX5)
                  replace hG := hideit (hG.out.ext hX5)
                  replace hE := hideit (Ext.trans hE.out hX5)
                  obtain ⟨po, pc, rfl⟩ := hp.form
                  replace hp := hideit hp
                  clear hX5
                  refine wpX_f _ (.string (bS 512 (planF x t k (bP f)))) rfl rfl (fun X hX => (by have cv6 := convS (.slice po 512 pc) 512 (planF x t k (bP f)) X (hp.out.ext hX); simp [go_sem, cv6])) ?_
                  simp only [List.getElem_toArray, List.getElem_cons_zero, List.getElem_cons_succ, Act.put, List.setIfInBounds_toArray, List.set_cons_zero, List.set_cons_succ]
                  refine wpX_f _ (.bool true) rfl rfl (fun X _ => by simp [go_sem, hq.out]) ?_
                  simp only [List.getElem_toArray, List.getElem_cons_zero, List.getElem_cons_succ, Act.put, List.setIfInBounds_toArray, List.set_cons_zero, List.set_cons_succ]
                  refine wpX_f _ (.bool true) rfl rfl (fun X _ => by simp [go_sem]) ?_
                  simp only [List.getElem_toArray, List.getElem_cons_zero, List.getElem_cons_succ, Act.put, List.setIfInBounds_toArray, List.set_cons_zero, List.set_cons_succ]
                  refine wpX_nil ?_
                  go_wp2
                  refine bodyPost_ret (res4 rfl _ _ _) rfl ?_
                  exact ⟨hE.out, .inr ⟨hno.out, rfl⟩⟩
              · have s0 : ¬ s.toNat = 0 := fun h => ht0 (by rw [← hse]; exact u0.1 h)
                have hno : Hid (¬ isPl 512 f) := fun h => ht0 (hpl.out.1 h).2.2.2.1
                replace hse := hideit hse
                replace ht0 := hideit ht0
                go_upto_region 6 with (fail)
                refine wp_region_lit ?_
                refine wpList_run rfl (.int .i64 (k : Int)) (by simp [go_sem]) ?_
                simp only [Act.put, List.setIfInBounds_toArray, List.set_cons_zero, List.set_cons_succ]
                refine wpList_run rfl (.int .i64 (k : Int)) (by simp [go_sem]) ?_
                simp only [Act.put, List.setIfInBounds_toArray, List.set_cons_zero, List.set_cons_succ]
                refine wpList_run rfl (.bool false) (by simp [go_sem, kk]) ?_
                simp only [Act.put, List.setIfInBounds_toArray, List.set_cons_zero, List.set_cons_succ]
                refine wpList_run rfl (.bool false) (by simp [go_sem]) ?_
                simp only [Act.put, List.setIfInBounds_toArray, List.set_cons_zero, List.set_cons_succ]
                with_reducible refine xnot (by with_unfolding_all rfl) ?_
                simp only [Act.put, List.setIfInBounds_toArray, List.set_cons_zero, List.set_cons_succ]
                with_reducible refine xnot (by with_unfolding_all rfl) ?_
                simp only [Act.put, List.setIfInBounds_toArray, List.set_cons_zero, List.set_cons_succ]
                refine wpList_run rfl (.bool false) (by simp [go_sem]) ?_
                simp only [Act.put, List.setIfInBounds_toArray, List.set_cons_zero, List.set_cons_succ]
                go_upto_region 9 with (fail)
                replace hu := hideit (hu.out.ext (Ext.draw (Ext.refl wr)))
                replace hG := hideit (hG.out.ext (Ext.draw (Ext.refl wr)))
                replace hE := hideit (Ext.draw hE.out)
                refine wp_region_lad (fun X => Ext wr.drew X) [(false, 0), (false, 1), (false, 2), (false, 3), (true, 4), (false, 5), (false, 6), (false, 7), (false, 8), (false, 9), (false, 10), (false, 11), (false, 12), (false, 13), (false, 14), (false, 15), (false, 16), (false, 17), (false, 18), (false, 19), (false, 20), (false, 21), (false, 22), (false, 23), (false, 24), (false, 25), (false, 26), (false, 27), (false, 28), (false, 31), (false, 32), (true, 29), (false, 30), (false, 33), (false, 34)] (by kernel_rfl) (by kernel_rfl) (by decide +kernel) (by decide +kernel) (by decide +kernel) (by decide +kernel) (Ext.refl _) ?_
                refine wpX_f _ (.int .u64 (x.toNat : Int)) rfl rfl (fun X _ => by simp [go_sem]) ?_
                simp only [List.getElem_toArray, List.getElem_cons_zero, Act.put, List.setIfInBounds_toArray, List.set_cons_zero, List.set_cons_succ]
                refine wpX_f _ (.bool false) rfl rfl (fun X _ => by simp [go_sem, x0]) ?_
                simp only [List.getElem_toArray, List.getElem_cons_zero, List.getElem_cons_succ, Act.put, List.setIfInBounds_toArray, List.set_cons_zero, List.set_cons_succ]
                refine wpX_f _ (.bool false) rfl rfl (fun X _ => by simp [go_sem]) ?_
                simp only [List.getElem_toArray, List.getElem_cons_zero, List.getElem_cons_succ, Act.put, List.setIfInBounds_toArray, List.set_cons_zero, List.set_cons_succ]
                refine wpX_f _ (.slice vo k vc) rfl rfl (fun X _ => by simp [go_sem]) ?_
                simp only [List.getElem_toArray, List.getElem_cons_zero, List.getElem_cons_succ, Act.put, List.setIfInBounds_toArray, List.set_cons_zero, List.set_cons_succ]
                refine wpX_call _ rfl rfl (by simp [go_sem]) ((rright_any (.slice vo k vc) k (bP f) wr.drew (hG.out.il fun j _ => bok.out j) hk64.out true (iff_of_true rfl hr.out)).mono ?_)
                rintro e y1 ⟨rfl, hX2⟩
                refine ⟨_, rfl, fun X => Ext y1 X, fun X hX => Ext.trans hX2 hX, Ext.refl _, ?_⟩
                simp only [List.getElem_toArray, List.getElem_cons_zero, List.getElem_cons_succ, Act.put, List.setIfInBounds_toArray, List.set_cons_zero, List.set_cons_succ]
                replace hu := hideit (hu.out.ext hX2)
                replace hG := hideit (hG.out.ext hX2)
                replace hE := hideit (Ext.trans hE.out hX2)

                clear hX2
                refine wpX_f _ (.bool false) rfl rfl (fun X _ => by simp [go_sem]) ?_
                simp only [List.getElem_toArray, List.getElem_cons_zero, List.getElem_cons_succ, Act.put, List.setIfInBounds_toArray, List.set_cons_zero, List.set_cons_succ]
                refine wpX_f _ (.bool false) rfl rfl (fun X _ => by simp [go_sem]) ?_
                simp only [List.getElem_toArray, List.getElem_cons_zero, List.getElem_cons_succ, Act.put, List.setIfInBounds_toArray, List.set_cons_zero, List.set_cons_succ]
                refine wpX_f _ (.bool false) rfl rfl (fun X _ => by simp [go_sem]) ?_
                simp only [List.getElem_toArray, List.getElem_cons_zero, List.getElem_cons_succ, Act.put, List.setIfInBounds_toArray, List.set_cons_zero, List.set_cons_succ]
                refine wpX_f _ (.slice vo k vc) rfl rfl (fun X _ => by simp [go_sem]) ?_
                simp only [List.getElem_toArray, List.getElem_cons_zero, List.getElem_cons_succ, Act.put, List.setIfInBounds_toArray, List.set_cons_zero, List.set_cons_succ]
                refine wpX_f _ (.int .i64 (k : Int)) rfl rfl (fun X _ => by simp [go_sem]) ?_
                simp only [List.getElem_toArray, List.getElem_cons_zero, List.getElem_cons_succ, Act.put, List.setIfInBounds_toArray, List.set_cons_zero, List.set_cons_succ]
                refine wpX_f _ (.int .i64 (k : Int)) rfl rfl (fun X _ => by simp [go_sem]) ?_
                simp only [List.getElem_toArray, List.getElem_cons_zero, List.getElem_cons_succ, Act.put, List.setIfInBounds_toArray, List.set_cons_zero, List.set_cons_succ]
                refine wpX_f _ (.bool false) rfl rfl (fun X _ => by simp [go_sem]) ?_
                simp only [List.getElem_toArray, List.getElem_cons_zero, List.getElem_cons_succ, Act.put, List.setIfInBounds_toArray, List.set_cons_zero, List.set_cons_succ]
                refine wpX_f _ (.bool false) rfl rfl (fun X _ => by simp [go_sem]) ?_
                simp only [List.getElem_toArray, List.getElem_cons_zero, List.getElem_cons_succ, Act.put, List.setIfInBounds_toArray, List.set_cons_zero, List.set_cons_succ]
                refine wpX_f _ (.bool false) rfl rfl (fun X _ => by simp [go_sem]) ?_
                simp only [List.getElem_toArray, List.getElem_cons_zero, List.getElem_cons_succ, Act.put, List.setIfInBounds_toArray, List.set_cons_zero, List.set_cons_succ]
                refine wpX_f _ (.slice vo k vc) rfl rfl (fun X _ => by simp [go_sem]) ?_
                simp only [List.getElem_toArray, List.getElem_cons_zero, List.getElem_cons_succ, Act.put, List.setIfInBounds_toArray, List.set_cons_zero, List.set_cons_succ]
                refine wpX_f _ (.int .i64 (k : Int)) rfl rfl (fun X _ => by simp [go_sem]) ?_
                simp only [List.getElem_toArray, List.getElem_cons_zero, List.getElem_cons_succ, Act.put, List.setIfInBounds_toArray, List.set_cons_zero, List.set_cons_succ]
                refine wpX_f _ (.bool true) rfl rfl (fun X _ => by simp [go_sem, k64]) ?_
                simp only [List.getElem_toArray, List.getElem_cons_zero, List.getElem_cons_succ, Act.put, List.setIfInBounds_toArray, List.set_cons_zero, List.set_cons_succ]
                refine wpX_f _ (.bool true) rfl rfl (fun X _ => by simp [go_sem]) ?_
                simp only [List.getElem_toArray, List.getElem_cons_zero, List.getElem_cons_succ, Act.put, List.setIfInBounds_toArray, List.set_cons_zero, List.set_cons_succ]
                refine wpX_f _ (.int .u64 (t.toNat : Int)) rfl rfl (fun X _ => by simp [go_sem]) ?_
                simp only [List.getElem_toArray, List.getElem_cons_zero, List.getElem_cons_succ, Act.put, List.setIfInBounds_toArray, List.set_cons_zero, List.set_cons_succ]
                refine wpX_f _ (.slice vo k vc) rfl rfl (fun X _ => by simp [go_sem]) ?_
                simp only [List.getElem_toArray, List.getElem_cons_zero, List.getElem_cons_succ, Act.put, List.setIfInBounds_toArray, List.set_cons_zero, List.set_cons_succ]
                refine wpX_f _ (.int .i64 (k : Int)) rfl rfl (fun X _ => by simp [go_sem]) ?_
                simp only [List.getElem_toArray, List.getElem_cons_zero, List.getElem_cons_succ, Act.put, List.setIfInBounds_toArray, List.set_cons_zero, List.set_cons_succ]
                refine wpX_f _ (.int .u64 (s.toNat : Int)) rfl rfl (fun X _ => by simp [go_sem, hs]) ?_
                simp only [List.getElem_toArray, List.getElem_cons_zero, List.getElem_cons_succ, Act.put, List.setIfInBounds_toArray, List.set_cons_zero, List.set_cons_succ]
                refine wpX_f _ (.bool true) rfl rfl (fun X _ => by simp [go_sem, s0]) ?_
                simp only [List.getElem_toArray, List.getElem_cons_zero, List.getElem_cons_succ, Act.put, List.setIfInBounds_toArray, List.set_cons_zero, List.set_cons_succ]
                refine wpX_f _ (.bool true) rfl rfl (fun X _ => by simp [go_sem]) ?_
                simp only [List.getElem_toArray, List.getElem_cons_zero, List.getElem_cons_succ, Act.put, List.setIfInBounds_toArray, List.set_cons_zero, List.set_cons_succ]
                refine wpX_f _ (.bool true) rfl rfl (fun X _ => by simp [go_sem]) ?_
                simp only [List.getElem_toArray, List.getElem_cons_zero, List.getElem_cons_succ, Act.put, List.setIfInBounds_toArray, List.set_cons_zero, List.set_cons_succ]
                refine wpX_f _ (.bool true) rfl rfl (fun X _ => by simp [go_sem]) ?_
                simp only [List.getElem_toArray, List.getElem_cons_zero, List.getElem_cons_succ, Act.put, List.setIfInBounds_toArray, List.set_cons_zero, List.set_cons_succ]
                refine wpX_fskip _ rfl rfl ?_
                simp only [List.getElem_toArray, List.getElem_cons_zero, List.getElem_cons_succ, Act.put, List.setIfInBounds_toArray, List.set_cons_zero, List.set_cons_succ]
                refine wpX_fskip _ rfl rfl ?_
                simp only [List.getElem_toArray, List.getElem_cons_zero, List.getElem_cons_succ, Act.put, List.setIfInBounds_toArray, List.set_cons_zero, List.set_cons_succ]
                refine wpX_fskip _ rfl rfl ?_
                simp only [List.getElem_toArray, List.getElem_cons_zero, List.getElem_cons_succ, Act.put, List.setIfInBounds_toArray, List.set_cons_zero, List.set_cons_succ]
                refine wpX_fskip _ rfl rfl ?_
                simp only [List.getElem_toArray, List.getElem_cons_zero, List.getElem_cons_succ, Act.put, List.setIfInBounds_toArray, List.set_cons_zero, List.set_cons_succ]
                refine wpX_fskip _ rfl rfl ?_
                simp only [List.getElem_toArray, List.getElem_cons_zero, List.getElem_cons_succ, Act.put, List.setIfInBounds_toArray, List.set_cons_zero, List.set_cons_succ]
                refine ⟨_, rfl, .inr ⟨rfl, fun X => Ext y1 X, fun X hX => hX, Ext.refl _, ?_⟩⟩
                simp only [List.getElem_toArray, List.getElem_cons_zero, List.getElem_cons_succ, Act.put, List.setIfInBounds_toArray, List.set_cons_zero, List.set_cons_succ]
                refine wpX_fskip _ rfl rfl ?_
                simp only [List.getElem_toArray, List.getElem_cons_zero, List.getElem_cons_succ, Act.put, List.setIfInBounds_toArray, List.set_cons_zero, List.set_cons_succ]
                refine wpX_fskip _ rfl rfl ?_
                simp only [List.getElem_toArray, List.getElem_cons_zero, List.getElem_cons_succ, Act.put, List.setIfInBounds_toArray, List.set_cons_zero, List.set_cons_succ]
                refine wpX_f _ (.bool true) rfl rfl (fun X _ => by simp [go_sem]) ?_
                simp only [List.getElem_toArray, List.getElem_cons_zero, List.getElem_cons_succ, Act.put, List.setIfInBounds_toArray, List.set_cons_zero, List.set_cons_succ]
                refine wpX_nil ?_
                go_wp2
                refine bodyPost_ret (res4 rfl _ _ _) rfl ?_
                exact ⟨hE.out, .inr ⟨hno.out, rfl⟩⟩
            · have k64 : ¬ (k : Int) < 64 := by omega
              have ht0 : t >>> k = 0#64 := by
                obtain rfl : k = 64 := by have := hk64.out; omega
                exact BitVec.ushiftRight_eq_zero (by decide)
              by_cases hq : (bS 512 (planF x t k (bP f))).toList = (bS 512 f).toList
              · have hyes : Hid (isPl 512 f) := hpl.out.2 ⟨fun h => x0 (u0.2 h), hr.out, hk64.out, ht0, hq⟩
                replace hq := hideit hq
                replace ht0 := hideit ht0
                go_upto_region 6 with (fail)
                refine wp_region_lit ?_
                refine wpList_run rfl (.int .i64 (k : Int)) (by simp [go_sem]) ?_
                simp only [Act.put, List.setIfInBounds_toArray, List.set_cons_zero, List.set_cons_succ]
                refine wpList_run rfl (.int .i64 (k : Int)) (by simp [go_sem]) ?_
                simp only [Act.put, List.setIfInBounds_toArray, List.set_cons_zero, List.set_cons_succ]
                refine wpList_run rfl (.bool false) (by simp [go_sem, kk]) ?_
                simp only [Act.put, List.setIfInBounds_toArray, List.set_cons_zero, List.set_cons_succ]
                refine wpList_run rfl (.bool false) (by simp [go_sem]) ?_
                simp only [Act.put, List.setIfInBounds_toArray, List.set_cons_zero, List.set_cons_succ]
                with_reducible refine xnot (by with_unfolding_all rfl) ?_
                simp only [Act.put, List.setIfInBounds_toArray, List.set_cons_zero, List.set_cons_succ]
                with_reducible refine xnot (by with_unfolding_all rfl) ?_
                simp only [Act.put, List.setIfInBounds_toArray, List.set_cons_zero, List.set_cons_succ]
                refine wpList_run rfl (.bool false) (by simp [go_sem]) ?_
                simp only [Act.put, List.setIfInBounds_toArray, List.set_cons_zero, List.set_cons_succ]
                go_upto_region 9 with (fail)
                replace hu := hideit (hu.out.ext (Ext.draw (Ext.refl wr)))
                replace hG := hideit (hG.out.ext (Ext.draw (Ext.refl wr)))
                replace hE := hideit (Ext.draw hE.out)
                refine wp_region_lad (fun X => Ext wr.drew X) [(false, 0), (false, 1), (false, 2), (false, 3), (true, 4), (false, 5), (false, 6), (false, 7), (false, 8), (false, 9), (false, 10), (false, 11), (false, 12), (false, 13), (false, 14), (false, 15), (false, 16), (false, 17), (false, 18), (false, 19), (false, 20), (false, 21), (false, 22), (false, 23), (false, 24), (false, 25), (false, 26), (false, 27), (false, 28), (false, 31), (false, 32), (true, 29), (false, 30), (false, 33), (false, 34)] (by kernel_rfl) (by kernel_rfl) (by decide +kernel) (by decide +kernel) (by decide +kernel) (by decide +kernel) (Ext.refl _) ?_
                refine wpX_f _ (.int .u64 (x.toNat : Int)) rfl rfl (fun X _ => by simp [go_sem]) ?_
                simp only [List.getElem_toArray, List.getElem_cons_zero, Act.put, List.setIfInBounds_toArray, List.set_cons_zero, List.set_cons_succ]
                refine wpX_f _ (.bool false) rfl rfl (fun X _ => by simp [go_sem, x0]) ?_
                simp only [List.getElem_toArray, List.getElem_cons_zero, List.getElem_cons_succ, Act.put, List.setIfInBounds_toArray, List.set_cons_zero, List.set_cons_succ]
                refine wpX_f _ (.bool false) rfl rfl (fun X _ => by simp [go_sem]) ?_
                simp only [List.getElem_toArray, List.getElem_cons_zero, List.getElem_cons_succ, Act.put, List.setIfInBounds_toArray, List.set_cons_zero, List.set_cons_succ]
                refine wpX_f _ (.slice vo k vc) rfl rfl (fun X _ => by simp [go_sem]) ?_
                simp only [List.getElem_toArray, List.getElem_cons_zero, List.getElem_cons_succ, Act.put, List.setIfInBounds_toArray, List.set_cons_zero, List.set_cons_succ]
                refine wpX_call _ rfl rfl (by simp [go_sem]) ((rright_any (.slice vo k vc) k (bP f) wr.drew (hG.out.il fun j _ => bok.out j) hk64.out true (iff_of_true rfl hr.out)).mono ?_)
                rintro e y1 ⟨rfl, hX2⟩
                refine ⟨_, rfl, fun X => Ext y1 X, fun X hX => Ext.trans hX2 hX, Ext.refl _, ?_⟩
                simp only [List.getElem_toArray, List.getElem_cons_zero, List.getElem_cons_succ, Act.put, List.setIfInBounds_toArray, List.set_cons_zero, List.set_cons_succ]
                replace hu := hideit (hu.out.ext hX2)
                replace hG := hideit (hG.out.ext hX2)
                replace hE := hideit (Ext.trans hE.out hX2)

                clear hX2
                refine wpX_f _ (.bool false) rfl rfl (fun X _ => by simp [go_sem]) ?_
                simp only [List.getElem_toArray, List.getElem_cons_zero, List.getElem_cons_succ, Act.put, List.setIfInBounds_toArray, List.set_cons_zero, List.set_cons_succ]
                refine wpX_f _ (.bool false) rfl rfl (fun X _ => by simp [go_sem]) ?_
                simp only [List.getElem_toArray, List.getElem_cons_zero, List.getElem_cons_succ, Act.put, List.setIfInBounds_toArray, List.set_cons_zero, List.set_cons_succ]
                refine wpX_f _ (.bool false) rfl rfl (fun X _ => by simp [go_sem]) ?_
                simp only [List.getElem_toArray, List.getElem_cons_zero, List.getElem_cons_succ, Act.put, List.setIfInBounds_toArray, List.set_cons_zero, List.set_cons_succ]
                refine wpX_f _ (.slice vo k vc) rfl rfl (fun X _ => by simp [go_sem]) ?_
                simp only [List.getElem_toArray, List.getElem_cons_zero, List.getElem_cons_succ, Act.put, List.setIfInBounds_toArray, List.set_cons_zero, List.set_cons_succ]
                refine wpX_f _ (.int .i64 (k : Int)) rfl rfl (fun X _ => by simp [go_sem]) ?_
                simp only [List.getElem_toArray, List.getElem_cons_zero, List.getElem_cons_succ, Act.put, List.setIfInBounds_toArray, List.set_cons_zero, List.set_cons_succ]
                refine wpX_f _ (.int .i64 (k : Int)) rfl rfl (fun X _ => by simp [go_sem]) ?_
                simp only [List.getElem_toArray, List.getElem_cons_zero, List.getElem_cons_succ, Act.put, List.setIfInBounds_toArray, List.set_cons_zero, List.set_cons_succ]
                refine wpX_f _ (.bool false) rfl rfl (fun X _ => by simp [go_sem]) ?_
                simp only [List.getElem_toArray, List.getElem_cons_zero, List.getElem_cons_succ, Act.put, List.setIfInBounds_toArray, List.set_cons_zero, List.set_cons_succ]
                refine wpX_f _ (.bool false) rfl rfl (fun X _ => by simp [go_sem]) ?_
                simp only [List.getElem_toArray, List.getElem_cons_zero, List.getElem_cons_succ, Act.put, List.setIfInBounds_toArray, List.set_cons_zero, List.set_cons_succ]
                refine wpX_f _ (.bool false) rfl rfl (fun X _ => by simp [go_sem]) ?_
                simp only [List.getElem_toArray, List.getElem_cons_zero, List.getElem_cons_succ, Act.put, List.setIfInBounds_toArray, List.set_cons_zero, List.set_cons_succ]
                refine wpX_f _ (.slice vo k vc) rfl rfl (fun X _ => by simp [go_sem]) ?_
                simp only [List.getElem_toArray, List.getElem_cons_zero, List.getElem_cons_succ, Act.put, List.setIfInBounds_toArray, List.set_cons_zero, List.set_cons_succ]
                refine wpX_f _ (.int .i64 (k : Int)) rfl rfl (fun X _ => by simp [go_sem]) ?_
                simp only [List.getElem_toArray, List.getElem_cons_zero, List.getElem_cons_succ, Act.put, List.setIfInBounds_toArray, List.set_cons_zero, List.set_cons_succ]
                refine wpX_f _ (.bool false) rfl rfl (fun X _ => by simp [go_sem, k64]) ?_
                simp only [List.getElem_toArray, List.getElem_cons_zero, List.getElem_cons_succ, Act.put, List.setIfInBounds_toArray, List.set_cons_zero, List.set_cons_succ]
                refine wpX_f _ (.bool false) rfl rfl (fun X _ => by simp [go_sem]) ?_
                simp only [List.getElem_toArray, List.getElem_cons_zero, List.getElem_cons_succ, Act.put, List.setIfInBounds_toArray, List.set_cons_zero, List.set_cons_succ]
                refine wpX_fskip _ rfl rfl ?_
                simp only [List.getElem_toArray, List.getElem_cons_zero, List.getElem_cons_succ, Act.put, List.setIfInBounds_toArray, List.set_cons_zero, List.set_cons_succ]
                refine wpX_fskip _ rfl rfl ?_
                simp only [List.getElem_toArray, List.getElem_cons_zero, List.getElem_cons_succ, Act.put, List.setIfInBounds_toArray, List.set_cons_zero, List.set_cons_succ]
                refine wpX_fskip _ rfl rfl ?_
                simp only [List.getElem_toArray, List.getElem_cons_zero, List.getElem_cons_succ, Act.put, List.setIfInBounds_toArray, List.set_cons_zero, List.set_cons_succ]
                refine wpX_fskip _ rfl rfl ?_
                simp only [List.getElem_toArray, List.getElem_cons_zero, List.getElem_cons_succ, Act.put, List.setIfInBounds_toArray, List.set_cons_zero, List.set_cons_succ]
                refine wpX_fskip _ rfl rfl ?_
                simp only [List.getElem_toArray, List.getElem_cons_zero, List.getElem_cons_succ, Act.put, List.setIfInBounds_toArray, List.set_cons_zero, List.set_cons_succ]
                refine wpX_f _ (.bool false) rfl rfl (fun X _ => by simp [go_sem]) ?_
                simp only [List.getElem_toArray, List.getElem_cons_zero, List.getElem_cons_succ, Act.put, List.setIfInBounds_toArray, List.set_cons_zero, List.set_cons_succ]
                refine wpX_f _ (.bool false) rfl rfl (fun X _ => by simp [go_sem]) ?_
                simp only [List.getElem_toArray, List.getElem_cons_zero, List.getElem_cons_succ, Act.put, List.setIfInBounds_toArray, List.set_cons_zero, List.set_cons_succ]
                refine wpX_f _ (.bool false) rfl rfl (fun X _ => by simp [go_sem]) ?_
                simp only [List.getElem_toArray, List.getElem_cons_zero, List.getElem_cons_succ, Act.put, List.setIfInBounds_toArray, List.set_cons_zero, List.set_cons_succ]
                refine wpX_f _ (.int .u64 (x.toNat : Int)) rfl rfl (fun X _ => by simp [go_sem]) ?_
                simp only [List.getElem_toArray, List.getElem_cons_zero, List.getElem_cons_succ, Act.put, List.setIfInBounds_toArray, List.set_cons_zero, List.set_cons_succ]
                refine wpX_f _ (.slice vo k vc) rfl rfl (fun X _ => by simp [go_sem]) ?_
                simp only [List.getElem_toArray, List.getElem_cons_zero, List.getElem_cons_succ, Act.put, List.setIfInBounds_toArray, List.set_cons_zero, List.set_cons_succ]
                refine wpX_f _ (.int .u64 (t.toNat : Int)) rfl rfl (fun X _ => by simp [go_sem]) ?_
                simp only [List.getElem_toArray, List.getElem_cons_zero, List.getElem_cons_succ, Act.put, List.setIfInBounds_toArray, List.set_cons_zero, List.set_cons_succ]
                refine wpX_f _ (.slice (some ad) 512 cap) rfl rfl (fun X _ => by simp [go_sem]) ?_
                simp only [List.getElem_toArray, List.getElem_cons_zero, List.getElem_cons_succ, Act.put, List.setIfInBounds_toArray, List.set_cons_zero, List.set_cons_succ]
                refine wpX_f _ (.string (bS 512 (f))) rfl rfl (fun X hX => (by have cv3 := convS (.slice (some ad) 512 cap) 512 (f) X (hu.out.ext hX); simp [go_sem, cv3])) ?_
                simp only [List.getElem_toArray, List.getElem_cons_zero, List.getElem_cons_succ, Act.put, List.setIfInBounds_toArray, List.set_cons_zero, List.set_cons_succ]
                refine wpX_call _ rfl rfl (by simp [go_sem]) ((rplan_any x t (.slice vo k vc) k (bP f) y1 (hG.out.il fun j _ => bok.out j) hk64.out (fun i hi => (hr.out.1 i hi).1)).mono ?_)
                rintro e y4 ⟨pv, rfl, hp, hX5⟩
                refine ⟨_, rfl, fun X => Ext y4 X, fun X hX => Ext.trans hX5 hX, Ext.refl _, ?_⟩
                simp only [List.getElem_toArray, List.getElem_cons_zero, List.getElem_cons_succ, Act.put, List.setIfInBounds_toArray, List.set_cons_zero, List.set_cons_succ]
                replace hu := hideit (hu.out.ext hX5)
                replace hG := hideit (hG.out.ext hX5)
                replace hE := hideit (Ext.trans hE.out hX5)
                obtain ⟨po, pc, rfl⟩ := hp.form
                replace hp := hideit hp
                clear hX5
                refine wpX_f _ (.string (bS 512 (planF x t k (bP f)))) rfl rfl (fun X hX => (by have cv6 := convS (.slice po 512 pc) 512 (planF x t k (bP f)) X (hp.out.ext hX); simp [go_sem, cv6])) ?_
                simp only [List.getElem_toArray, List.getElem_cons_zero, List.getElem_cons_succ, Act.put, List.setIfInBounds_toArray, List.set_cons_zero, List.set_cons_succ]
                refine wpX_f _ (.bool false) rfl rfl (fun X _ => by simp [go_sem, hq.out]) ?_
                simp only [List.getElem_toArray, List.getElem_cons_zero, List.getElem_cons_succ, Act.put, List.setIfInBounds_toArray, List.set_cons_zero, List.set_cons_succ]
                refine wpX_f _ (.bool false) rfl rfl (fun X _ => by simp [go_sem]) ?_
                simp only [List.getElem_toArray, List.getElem_cons_zero, List.getElem_cons_succ, Act.put, List.setIfInBounds_toArray, List.set_cons_zero, List.set_cons_succ]
                refine wpX_nil ?_
                go_upto_region 11 with (fail)
                refine wp_region_lit ?_
                refine wpList_run rfl (.int .u64 (x.toNat : Int)) (by simp [go_sem]) ?_
                simp only [Act.put, List.setIfInBounds_toArray, List.set_cons_zero, List.set_cons_succ]
                refine wpList_run rfl (.slice vo k vc) (by simp [go_sem]) ?_
                simp only [Act.put, List.setIfInBounds_toArray, List.set_cons_zero, List.set_cons_succ]
                refine wpList_run rfl (.int .u64 (t.toNat : Int)) (by simp [go_sem]) ?_
                simp only [Act.put, List.setIfInBounds_toArray, List.set_cons_zero, List.set_cons_succ]
                refine wpList_run rfl (.int .u64 (x.toNat : Int)) (by simp [go_sem]) ?_
                simp only [Act.put, List.setIfInBounds_toArray, List.set_cons_zero, List.set_cons_succ]
                refine wpList_run rfl (.slice vo k vc) (by simp [go_sem]) ?_
                simp only [Act.put, List.setIfInBounds_toArray, List.set_cons_zero, List.set_cons_succ]
                refine wpList_run rfl (.int .u64 (t.toNat : Int)) (by simp [go_sem]) ?_
                simp only [Act.put, List.setIfInBounds_toArray, List.set_cons_zero, List.set_cons_succ]
                refine wpList_run rfl (.int .i64 0) (by simp [go_sem]) ?_
                simp only [Act.put, List.setIfInBounds_toArray, List.set_cons_zero, List.set_cons_succ]
                go_wp2
                refine bodyPost_ret (res4 rfl _ _ _) rfl ?_
                exact ⟨hE.out, .inl ⟨hyes.out, _, by rw [hx.out, ht.out]; rfl, by rw [hc.out]; exact ⟨hG.out.1, hG.out.2⟩⟩⟩
              · have hno : Hid (¬ isPl 512 f) := fun h => hq (hpl.out.1 h).2.2.2.2
                replace hq := hideit hq
                replace ht0 := hideit ht0
                go_upto_region 6 with (fail)
                refine wp_region_lit ?_
                refine wpList_run rfl (.int .i64 (k : Int)) (by simp [go_sem]) ?_
                simp only [Act.put, List.setIfInBounds_toArray, List.set_cons_zero, List.set_cons_succ]
                refine wpList_run rfl (.int .i64 (k : Int)) (by simp [go_sem]) ?_
                simp only [Act.put, List.setIfInBounds_toArray, List.set_cons_zero, List.set_cons_succ]
                refine wpList_run rfl (.bool false) (by simp [go_sem, kk]) ?_
                simp only [Act.put, List.setIfInBounds_toArray, List.set_cons_zero, List.set_cons_succ]
                refine wpList_run rfl (.bool false) (by simp [go_sem]) ?_
                simp only [Act.put, List.setIfInBounds_toArray, List.set_cons_zero, List.set_cons_succ]
                with_reducible refine xnot (by with_unfolding_all rfl) ?_
                simp only [Act.put, List.setIfInBounds_toArray, List.set_cons_zero, List.set_cons_succ]
                with_reducible refine xnot (by with_unfolding_all rfl) ?_
                simp only [Act.put, List.setIfInBounds_toArray, List.set_cons_zero, List.set_cons_succ]
                refine wpList_run rfl (.bool false) (by simp [go_sem]) ?_
                simp only [Act.put, List.setIfInBounds_toArray, List.set_cons_zero, List.set_cons_succ]
                go_upto_region 9 with (fail)
                replace hu := hideit (hu.out.ext (Ext.draw (Ext.refl wr)))
                replace hG := hideit (hG.out.ext (Ext.draw (Ext.refl wr)))
                replace hE := hideit (Ext.draw hE.out)
                refine wp_region_lad (fun X => Ext wr.drew X) [(false, 0), (false, 1), (false, 2), (false, 3), (true, 4), (false, 5), (false, 6), (false, 7), (false, 8), (false, 9), (false, 10), (false, 11), (false, 12), (false, 13), (false, 14), (false, 15), (false, 16), (false, 17), (false, 18), (false, 19), (false, 20), (false, 21), (false, 22), (false, 23), (false, 24), (false, 25), (false, 26), (false, 27), (false, 28), (false, 31), (false, 32), (true, 29), (false, 30), (false, 33), (false, 34)] (by kernel_rfl) (by kernel_rfl) (by decide +kernel) (by decide +kernel) (by decide +kernel) (by decide +kernel) (Ext.refl _) ?_
                refine wpX_f _ (.int .u64 (x.toNat : Int)) rfl rfl (fun X _ => by simp [go_sem]) ?_
                simp only [List.getElem_toArray, List.getElem_cons_zero, Act.put, List.setIfInBounds_toArray, List.set_cons_zero, List.set_cons_succ]
                refine wpX_f _ (.bool false) rfl rfl (fun X _ => by simp [go_sem, x0]) ?_
                simp only [List.getElem_toArray, List.getElem_cons_zero, List.getElem_cons_succ, Act.put, List.setIfInBounds_toArray, List.set_cons_zero, List.set_cons_succ]
                refine wpX_f _ (.bool false) rfl rfl (fun X _ => by simp [go_sem]) ?_
                simp only [List.getElem_toArray, List.getElem_cons_zero, List.getElem_cons_succ, Act.put, List.setIfInBounds_toArray, List.set_cons_zero, List.set_cons_succ]
                refine wpX_f _ (.slice vo k vc) rfl rfl (fun X _ => by simp [go_sem]) ?_
                simp only [List.getElem_toArray, List.getElem_cons_zero, List.getElem_cons_succ, Act.put, List.setIfInBounds_toArray, List.set_cons_zero, List.set_cons_succ]
                refine wpX_call _ rfl rfl (by simp [go_sem]) ((rright_any (.slice vo k vc) k (bP f) wr.drew (hG.out.il fun j _ => bok.out j) hk64.out true (iff_of_true rfl hr.out)).mono ?_)
                rintro e y1 ⟨rfl, hX2⟩
                refine ⟨_, rfl, fun X => Ext y1 X, fun X hX => Ext.trans hX2 hX, Ext.refl _, ?_⟩
                simp only [List.getElem_toArray, List.getElem_cons_zero, List.getElem_cons_succ, Act.put, List.setIfInBounds_toArray, List.set_cons_zero, List.set_cons_succ]
                replace hu := hideit (hu.out.ext hX2)
                replace hG := hideit (hG.out.ext hX2)
                replace hE := hideit (Ext.trans hE.out hX2)

                clear hX2
                refine wpX_f _ (.bool false) rfl rfl (fun X _ => by simp [go_sem]) ?_
                simp only [List.getElem_toArray, List.getElem_cons_zero, List.getElem_cons_succ, Act.put, List.setIfInBounds_toArray, List.set_cons_zero, List.set_cons_succ]
                refine wpX_f _ (.bool false) rfl rfl (fun X _ => by simp [go_sem]) ?_
                simp only [List.getElem_toArray, List.getElem_cons_zero, List.getElem_cons_succ, Act.put, List.setIfInBounds_toArray, List.set_cons_zero, List.set_cons_succ]
                refine wpX_f _ (.bool false) rfl rfl (fun X _ => by simp [go_sem]) ?_
                simp only [List.getElem_toArray, List.getElem_cons_zero, List.getElem_cons_succ, Act.put, List.setIfInBounds_toArray, List.set_cons_zero, List.set_cons_succ]
                refine wpX_f _ (.slice vo k vc) rfl rfl (fun X _ => by simp [go_sem]) ?_
                simp only [List.getElem_toArray, List.getElem_cons_zero, List.getElem_cons_succ, Act.put, List.setIfInBounds_toArray, List.set_cons_zero, List.set_cons_succ]
                refine wpX_f _ (.int .i64 (k : Int)) rfl rfl (fun X _ => by simp [go_sem]) ?_
                simp only [List.getElem_toArray, List.getElem_cons_zero, List.getElem_cons_succ, Act.put, List.setIfInBounds_toArray, List.set_cons_zero, List.set_cons_succ]
                refine wpX_f _ (.int .i64 (k : Int)) rfl rfl (fun X _ => by simp [go_sem]) ?_
                simp only [List.getElem_toArray, List.getElem_cons_zero, List.getElem_cons_succ, Act.put, List.setIfInBounds_toArray, List.set_cons_zero, List.set_cons_succ]
                refine wpX_f _ (.bool false) rfl rfl (fun X _ => by simp [go_sem]) ?_
                simp only [List.getElem_toArray, List.getElem_cons_zero, List.getElem_cons_succ, Act.put, List.setIfInBounds_toArray, List.set_cons_zero, List.set_cons_succ]
                refine wpX_f _ (.bool false) rfl rfl (fun X _ => by simp [go_sem]) ?_
                simp only [List.getElem_toArray, List.getElem_cons_zero, List.getElem_cons_succ, Act.put, List.setIfInBounds_toArray, List.set_cons_zero, List.set_cons_succ]
                refine wpX_f _ (.bool false) rfl rfl (fun X _ => by simp [go_sem]) ?_
                simp only [List.getElem_toArray, List.getElem_cons_zero, List.getElem_cons_succ, Act.put, List.setIfInBounds_toArray, List.set_cons_zero, List.set_cons_succ]
                refine wpX_f _ (.slice vo k vc) rfl rfl (fun X _ => by simp [go_sem]) ?_
                simp only [List.getElem_toArray, List.getElem_cons_zero, List.getElem_cons_succ, Act.put, List.setIfInBounds_toArray, List.set_cons_zero, List.set_cons_succ]
                refine wpX_f _ (.int .i64 (k : Int)) rfl rfl (fun X _ => by simp [go_sem]) ?_
                simp only [List.getElem_toArray, List.getElem_cons_zero, List.getElem_cons_succ, Act.put, List.setIfInBounds_toArray, List.set_cons_zero, List.set_cons_succ]
                refine wpX_f _ (.bool false) rfl rfl (fun X _ => by simp [go_sem, k64]) ?_
                simp only [List.getElem_toArray, List.getElem_cons_zero, List.getElem_cons_succ, Act.put, List.setIfInBounds_toArray, List.set_cons_zero, List.set_cons_succ]
                refine wpX_f _ (.bool false) rfl rfl (fun X _ => by simp [go_sem]) ?_
                simp only [List.getElem_toArray, List.getElem_cons_zero, List.getElem_cons_succ, Act.put, List.setIfInBounds_toArray, List.set_cons_zero, List.set_cons_succ]
                refine wpX_fskip _ rfl rfl ?_
                simp only [List.getElem_toArray, List.getElem_cons_zero, List.getElem_cons_succ, Act.put, List.setIfInBounds_toArray, List.set_cons_zero, List.set_cons_succ]
                refine wpX_fskip _ rfl rfl ?_
                simp only [List.getElem_toArray, List.getElem_cons_zero, List.getElem_cons_succ, Act.put, List.setIfInBounds_toArray, List.set_cons_zero, List.set_cons_succ]
                refine wpX_fskip _ rfl rfl ?_
                simp only [List.getElem_toArray, List.getElem_cons_zero, List.getElem_cons_succ, Act.put, List.setIfInBounds_toArray, List.set_cons_zero, List.set_cons_succ]
                refine wpX_fskip _ rfl rfl ?_
                simp only [List.getElem_toArray, List.getElem_cons_zero, List.getElem_cons_succ, Act.put, List.setIfInBounds_toArray, List.set_cons_zero, List.set_cons_succ]
                refine wpX_fskip _ rfl rfl ?_
                simp only [List.getElem_toArray, List.getElem_cons_zero, List.getElem_cons_succ, Act.put, List.setIfInBounds_toArray, List.set_cons_zero, List.set_cons_succ]
                refine wpX_f _ (.bool false) rfl rfl (fun X _ => by simp [go_sem]) ?_
                simp only [List.getElem_toArray, List.getElem_cons_zero, List.getElem_cons_succ, Act.put, List.setIfInBounds_toArray, List.set_cons_zero, List.set_cons_succ]
                refine wpX_f _ (.bool false) rfl rfl (fun X _ => by simp [go_sem]) ?_
                simp only [List.getElem_toArray, List.getElem_cons_zero, List.getElem_cons_succ, Act.put, List.setIfInBounds_toArray, List.set_cons_zero, List.set_cons_succ]
                refine wpX_f _ (.bool false) rfl rfl (fun X _ => by simp [go_sem]) ?_
                simp only [List.getElem_toArray, List.getElem_cons_zero, List.getElem_cons_succ, Act.put, List.setIfInBounds_toArray, List.set_cons_zero, List.set_cons_succ]
                refine wpX_f _ (.int .u64 (x.toNat : Int)) rfl rfl (fun X _ => by simp [go_sem]) ?_
                simp only [List.getElem_toArray, List.getElem_cons_zero, List.getElem_cons_succ, Act.put, List.setIfInBounds_toArray, List.set_cons_zero, List.set_cons_succ]
                refine wpX_f _ (.slice vo k vc) rfl rfl (fun X _ => by simp [go_sem]) ?_
                simp only [List.getElem_toArray, List.getElem_cons_zero, List.getElem_cons_succ, Act.put, List.setIfInBounds_toArray, List.set_cons_zero, List.set_cons_succ]
                refine wpX_f _ (.int .u64 (t.toNat : Int)) rfl rfl (fun X _ => by simp [go_sem]) ?_
                simp only [List.getElem_toArray, List.getElem_cons_zero, List.getElem_cons_succ, Act.put, List.setIfInBounds_toArray, List.set_cons_zero, List.set_cons_succ]
                refine wpX_f _ (.slice (some ad) 512 cap) rfl rfl (fun X _ => by simp [go_sem]) ?_
                simp only [List.getElem_toArray, List.getElem_cons_zero, List.getElem_cons_succ, Act.put, List.setIfInBounds_toArray, List.set_cons_zero, List.set_cons_succ]
                refine wpX_f _ (.string (bS 512 (f))) rfl rfl (fun X hX => (by have cv3 := convS (.slice (some ad) 512 cap) 512 (f) X (hu.out.ext hX); simp [go_sem, cv3])) ?_
                simp only [List.getElem_toArray, List.getElem_cons_zero, List.getElem_cons_succ, Act.put, List.setIfInBounds_toArray, List.set_cons_zero, List.set_cons_succ]
                refine wpX_call _ rfl rfl (by simp [go_sem]) ((rplan_any x t (.slice vo k vc) k (bP f) y1 (hG.out.il fun j _ => bok.out j) hk64.out (fun i hi => (hr.out.1 i hi).1)).mono ?_)
                rintro e y4 ⟨pv, rfl, hp, hX5⟩
                refine ⟨_, rfl, fun X => Ext y4 X, fun X hX => Ext.trans hX5 hX, Ext.refl _, ?_⟩
                simp only [List.getElem_toArray, List.getElem_cons_zero, List.getElem_cons_succ, Act.put, List.setIfInBounds_toArray, List.set_cons_zero, List.set_cons_succ]
                replace hu := hideit (hu.out.ext hX5)
                replace hG := hideit (hG.out.ext hX5)
                replace hE := hideit (Ext.trans hE.out hX5)
                obtain ⟨po, pc, rfl⟩ := hp.form
                replace hp := hideit hp
                clear hX5
                refine wpX_f _ (.string (bS 512 (planF x t k (bP f)))) rfl rfl (fun X hX => (by have cv6 := convS (.slice po 512 pc) 512 (planF x t k (bP f)) X (hp.out.ext hX); simp [go_sem, cv6])) ?_
                simp only [List.getElem_toArray, List.getElem_cons_zero, List.getElem_cons_succ, Act.put, List.setIfInBounds_toArray, List.set_cons_zero, List.set_cons_succ]
                refine wpX_f _ (.bool true) rfl rfl (fun X _ => by simp [go_sem, hq.out]) ?_
                simp only [List.getElem_toArray, List.getElem_cons_zero, List.getElem_cons_succ, Act.put, List.setIfInBounds_toArray, List.set_cons_zero, List.set_cons_succ]
                refine wpX_f _ (.bool true) rfl rfl (fun X _ => by simp [go_sem]) ?_
                simp only [List.getElem_toArray, List.getElem_cons_zero, List.getElem_cons_succ, Act.put, List.setIfInBounds_toArray, List.set_cons_zero, List.set_cons_succ]
                refine wpX_nil ?_
                go_wp2
                refine bodyPost_ret (res4 rfl _ _ _) rfl ?_
                exact ⟨hE.out, .inr ⟨hno.out, rfl⟩⟩
          · have hno : Hid (¬ isPl 512 f) := fun h => by have := (hpl.out.1 h).2.2.1; have := hmin.out; omega
            have kc : (k : Int) < (c : Int) := by have := hkc.out; omega
            have k64 : ¬ (k : Int) < 64 := by have := hmin.out; omega
            have kne : ¬ (k : Int) = (c : Int) := by omega
            replace hkc2 := hideit hkc2
            go_upto_region 6 with (fail)
            refine wp_region_lit ?_
            refine wpList_run rfl (.int .i64 (k : Int)) (by simp [go_sem]) ?_
            simp only [Act.put, List.setIfInBounds_toArray, List.set_cons_zero, List.set_cons_succ]
            refine wpList_run rfl (.int .i64 (c : Int)) (by simp [go_sem]) ?_
            simp only [Act.put, List.setIfInBounds_toArray, List.set_cons_zero, List.set_cons_succ]
            refine wpList_run rfl (.bool true) (by simp [go_sem, kc]) ?_
            simp only [Act.put, List.setIfInBounds_toArray, List.set_cons_zero, List.set_cons_succ]
            refine wpList_run rfl (.bool true) (by simp [go_sem]) ?_
            simp only [Act.put, List.setIfInBounds_toArray, List.set_cons_zero, List.set_cons_succ]
            refine wpList_runW rfl (.int .i64 (k : Int)) (by simp [go_sem]) ?_
            simp only [Act.put, List.setIfInBounds_toArray, List.set_cons_zero, List.set_cons_succ]
            refine wpList_runW rfl (.bool false) (by simp [go_sem, k64]) ?_
            simp only [Act.put, List.setIfInBounds_toArray, List.set_cons_zero, List.set_cons_succ]
            refine wpList_run rfl (.bool false) (by simp [go_sem]) ?_
            simp only [Act.put, List.setIfInBounds_toArray, List.set_cons_zero, List.set_cons_succ]
            go_upto_region 9 with (fail)
            replace hu := hideit (hu.out.ext (Ext.draw (Ext.refl wr)))
            replace hG := hideit (hG.out.ext (Ext.draw (Ext.refl wr)))
            replace hE := hideit (Ext.draw hE.out)
            refine wp_region_lad (fun X => Ext wr.drew X) [(false, 0), (false, 1), (false, 2), (false, 3), (true, 4), (false, 5), (false, 6), (false, 7), (false, 8), (false, 9), (false, 10), (false, 11), (false, 12), (false, 13), (false, 14), (false, 15), (false, 16), (false, 17), (false, 18), (false, 19), (false, 20), (false, 21), (false, 22), (false, 23), (false, 24), (false, 25), (false, 26), (false, 27), (false, 28), (false, 31), (false, 32), (true, 29), (false, 30), (false, 33), (false, 34)] (by kernel_rfl) (by kernel_rfl) (by decide +kernel) (by decide +kernel) (by decide +kernel) (by decide +kernel) (Ext.refl _) ?_
            refine wpX_f _ (.int .u64 (x.toNat : Int)) rfl rfl (fun X _ => by simp [go_sem]) ?_
            simp only [List.getElem_toArray, List.getElem_cons_zero, Act.put, List.setIfInBounds_toArray, List.set_cons_zero, List.set_cons_succ]
            refine wpX_f _ (.bool false) rfl rfl (fun X _ => by simp [go_sem, x0]) ?_
            simp only [List.getElem_toArray, List.getElem_cons_zero, List.getElem_cons_succ, Act.put, List.setIfInBounds_toArray, List.set_cons_zero, List.set_cons_succ]
            refine wpX_f _ (.bool false) rfl rfl (fun X _ => by simp [go_sem]) ?_
            simp only [List.getElem_toArray, List.getElem_cons_zero, List.getElem_cons_succ, Act.put, List.setIfInBounds_toArray, List.set_cons_zero, List.set_cons_succ]
            refine wpX_f _ (.slice vo k vc) rfl rfl (fun X _ => by simp [go_sem]) ?_
            simp only [List.getElem_toArray, List.getElem_cons_zero, List.getElem_cons_succ, Act.put, List.setIfInBounds_toArray, List.set_cons_zero, List.set_cons_succ]
            refine wpX_call _ rfl rfl (by simp [go_sem]) ((rright_any (.slice vo k vc) k (bP f) wr.drew (hG.out.il fun j _ => bok.out j) hk64.out true (iff_of_true rfl hr.out)).mono ?_)
            rintro e y1 ⟨rfl, hX2⟩
            refine ⟨_, rfl, fun X => Ext y1 X, fun X hX => Ext.trans hX2 hX, Ext.refl _, ?_⟩
            simp only [List.getElem_toArray, List.getElem_cons_zero, List.getElem_cons_succ, Act.put, List.setIfInBounds_toArray, List.set_cons_zero, List.set_cons_succ]
            replace hu := hideit (hu.out.ext hX2)
            replace hG := hideit (hG.out.ext hX2)
            replace hE := hideit (Ext.trans hE.out hX2)

            clear hX2
            refine wpX_f _ (.bool false) rfl rfl (fun X _ => by simp [go_sem]) ?_
            simp only [List.getElem_toArray, List.getElem_cons_zero, List.getElem_cons_succ, Act.put, List.setIfInBounds_toArray, List.set_cons_zero, List.set_cons_succ]
            refine wpX_f _ (.bool false) rfl rfl (fun X _ => by simp [go_sem]) ?_
            simp only [List.getElem_toArray, List.getElem_cons_zero, List.getElem_cons_succ, Act.put, List.setIfInBounds_toArray, List.set_cons_zero, List.set_cons_succ]
            refine wpX_f _ (.bool false) rfl rfl (fun X _ => by simp [go_sem]) ?_
            simp only [List.getElem_toArray, List.getElem_cons_zero, List.getElem_cons_succ, Act.put, List.setIfInBounds_toArray, List.set_cons_zero, List.set_cons_succ]
            refine wpX_f _ (.slice vo k vc) rfl rfl (fun X _ => by simp [go_sem]) ?_
            simp only [List.getElem_toArray, List.getElem_cons_zero, List.getElem_cons_succ, Act.put, List.setIfInBounds_toArray, List.set_cons_zero, List.set_cons_succ]
            refine wpX_f _ (.int .i64 (k : Int)) rfl rfl (fun X _ => by simp [go_sem]) ?_
            simp only [List.getElem_toArray, List.getElem_cons_zero, List.getElem_cons_succ, Act.put, List.setIfInBounds_toArray, List.set_cons_zero, List.set_cons_succ]
            refine wpX_f _ (.int .i64 (c : Int)) rfl rfl (fun X _ => by simp [go_sem]) ?_
            simp only [List.getElem_toArray, List.getElem_cons_zero, List.getElem_cons_succ, Act.put, List.setIfInBounds_toArray, List.set_cons_zero, List.set_cons_succ]
            refine wpX_f _ (.bool true) rfl rfl (fun X _ => by simp [go_sem, kne]) ?_
            simp only [List.getElem_toArray, List.getElem_cons_zero, List.getElem_cons_succ, Act.put, List.setIfInBounds_toArray, List.set_cons_zero, List.set_cons_succ]
            refine wpX_f _ (.bool true) rfl rfl (fun X _ => by simp [go_sem]) ?_
            simp only [List.getElem_toArray, List.getElem_cons_zero, List.getElem_cons_succ, Act.put, List.setIfInBounds_toArray, List.set_cons_zero, List.set_cons_succ]
            refine wpX_f _ (.bool true) rfl rfl (fun X _ => by simp [go_sem]) ?_
            simp only [List.getElem_toArray, List.getElem_cons_zero, List.getElem_cons_succ, Act.put, List.setIfInBounds_toArray, List.set_cons_zero, List.set_cons_succ]
            refine wpX_fskip _ rfl rfl ?_
            simp only [List.getElem_toArray, List.getElem_cons_zero, List.getElem_cons_succ, Act.put, List.setIfInBounds_toArray, List.set_cons_zero, List.set_cons_succ]
            refine wpX_fskip _ rfl rfl ?_
            simp only [List.getElem_toArray, List.getElem_cons_zero, List.getElem_cons_succ, Act.put, List.setIfInBounds_toArray, List.set_cons_zero, List.set_cons_succ]
            refine wpX_fskip _ rfl rfl ?_
            simp only [List.getElem_toArray, List.getElem_cons_zero, List.getElem_cons_succ, Act.put, List.setIfInBounds_toArray, List.set_cons_zero, List.set_cons_succ]
            refine wpX_fskip _ rfl rfl ?_
            simp only [List.getElem_toArray, List.getElem_cons_zero, List.getElem_cons_succ, Act.put, List.setIfInBounds_toArray, List.set_cons_zero, List.set_cons_succ]
            refine wpX_fskip _ rfl rfl ?_
            simp only [List.getElem_toArray, List.getElem_cons_zero, List.getElem_cons_succ, Act.put, List.setIfInBounds_toArray, List.set_cons_zero, List.set_cons_succ]
            refine wpX_fskip _ rfl rfl ?_
            simp only [List.getElem_toArray, List.getElem_cons_zero, List.getElem_cons_succ, Act.put, List.setIfInBounds_toArray, List.set_cons_zero, List.set_cons_succ]
            refine wpX_fskip _ rfl rfl ?_
            simp only [List.getElem_toArray, List.getElem_cons_zero, List.getElem_cons_succ, Act.put, List.setIfInBounds_toArray, List.set_cons_zero, List.set_cons_succ]
            refine wpX_fskip _ rfl rfl ?_
            simp only [List.getElem_toArray, List.getElem_cons_zero, List.getElem_cons_succ, Act.put, List.setIfInBounds_toArray, List.set_cons_zero, List.set_cons_succ]
            refine wpX_fskip _ rfl rfl ?_
            simp only [List.getElem_toArray, List.getElem_cons_zero, List.getElem_cons_succ, Act.put, List.setIfInBounds_toArray, List.set_cons_zero, List.set_cons_succ]
            refine wpX_fskip _ rfl rfl ?_
            simp only [List.getElem_toArray, List.getElem_cons_zero, List.getElem_cons_succ, Act.put, List.setIfInBounds_toArray, List.set_cons_zero, List.set_cons_succ]
            refine wpX_f _ (.bool true) rfl rfl (fun X _ => by simp [go_sem]) ?_
            simp only [List.getElem_toArray, List.getElem_cons_zero, List.getElem_cons_succ, Act.put, List.setIfInBounds_toArray, List.set_cons_zero, List.set_cons_succ]
            refine wpX_f _ (.bool true) rfl rfl (fun X _ => by simp [go_sem]) ?_
            simp only [List.getElem_toArray, List.getElem_cons_zero, List.getElem_cons_succ, Act.put, List.setIfInBounds_toArray, List.set_cons_zero, List.set_cons_succ]
            refine wpX_fskip _ rfl rfl ?_
            simp only [List.getElem_toArray, List.getElem_cons_zero, List.getElem_cons_succ, Act.put, List.setIfInBounds_toArray, List.set_cons_zero, List.set_cons_succ]
            refine wpX_fskip _ rfl rfl ?_
            simp only [List.getElem_toArray, List.getElem_cons_zero, List.getElem_cons_succ, Act.put, List.setIfInBounds_toArray, List.set_cons_zero, List.set_cons_succ]
            refine wpX_fskip _ rfl rfl ?_
            simp only [List.getElem_toArray, List.getElem_cons_zero, List.getElem_cons_succ, Act.put, List.setIfInBounds_toArray, List.set_cons_zero, List.set_cons_succ]
            refine wpX_fskip _ rfl rfl ?_
            simp only [List.getElem_toArray, List.getElem_cons_zero, List.getElem_cons_succ, Act.put, List.setIfInBounds_toArray, List.set_cons_zero, List.set_cons_succ]
            refine wpX_fskip _ rfl rfl ?_
            simp only [List.getElem_toArray, List.getElem_cons_zero, List.getElem_cons_succ, Act.put, List.setIfInBounds_toArray, List.set_cons_zero, List.set_cons_succ]
            refine ⟨_, rfl, .inr ⟨rfl, fun X => Ext y1 X, fun X hX => hX, Ext.refl _, ?_⟩⟩
            simp only [List.getElem_toArray, List.getElem_cons_zero, List.getElem_cons_succ, Act.put, List.setIfInBounds_toArray, List.set_cons_zero, List.set_cons_succ]
            refine wpX_fskip _ rfl rfl ?_
            simp only [List.getElem_toArray, List.getElem_cons_zero, List.getElem_cons_succ, Act.put, List.setIfInBounds_toArray, List.set_cons_zero, List.set_cons_succ]
            refine wpX_fskip _ rfl rfl ?_
            simp only [List.getElem_toArray, List.getElem_cons_zero, List.getElem_cons_succ, Act.put, List.setIfInBounds_toArray, List.set_cons_zero, List.set_cons_succ]
            refine wpX_f _ (.bool true) rfl rfl (fun X _ => by simp [go_sem]) ?_
            simp only [List.getElem_toArray, List.getElem_cons_zero, List.getElem_cons_succ, Act.put, List.setIfInBounds_toArray, List.set_cons_zero, List.set_cons_succ]
            refine wpX_nil ?_
            go_wp2
            refine bodyPost_ret (res4 rfl _ _ _) rfl ?_
            exact ⟨hE.out, .inr ⟨hno.out, rfl⟩⟩
        · have hno : Hid (¬ isPl 512 f) := fun h => by
            have q := hpl.out.1 h
            rcases hmin.out with e | e
            · exact hr (by rw [e]; exact q.2.1)
            · have := q.2.2.1; omega
          replace hr := hideit hr
          by_cases kc : (k : Int) < (c : Int)
          · have k64 : ¬ (k : Int) < 64 := by have := hmin.out; omega
            go_upto_region 6 with (fail)
            refine wp_region_lit ?_
            refine wpList_run rfl (.int .i64 (k : Int)) (by simp [go_sem]) ?_
            simp only [Act.put, List.setIfInBounds_toArray, List.set_cons_zero, List.set_cons_succ]
            refine wpList_run rfl (.int .i64 (c : Int)) (by simp [go_sem]) ?_
            simp only [Act.put, List.setIfInBounds_toArray, List.set_cons_zero, List.set_cons_succ]
            refine wpList_run rfl (.bool true) (by simp [go_sem, kc]) ?_
            simp only [Act.put, List.setIfInBounds_toArray, List.set_cons_zero, List.set_cons_succ]
            refine wpList_run rfl (.bool true) (by simp [go_sem]) ?_
            simp only [Act.put, List.setIfInBounds_toArray, List.set_cons_zero, List.set_cons_succ]
            refine wpList_runW rfl (.int .i64 (k : Int)) (by simp [go_sem]) ?_
            simp only [Act.put, List.setIfInBounds_toArray, List.set_cons_zero, List.set_cons_succ]
            refine wpList_runW rfl (.bool false) (by simp [go_sem, k64]) ?_
            simp only [Act.put, List.setIfInBounds_toArray, List.set_cons_zero, List.set_cons_succ]
            refine wpList_run rfl (.bool false) (by simp [go_sem]) ?_
            simp only [Act.put, List.setIfInBounds_toArray, List.set_cons_zero, List.set_cons_succ]
            go_upto_region 9 with (fail)
            replace hu := hideit (hu.out.ext (Ext.draw (Ext.refl wr)))
            replace hG := hideit (hG.out.ext (Ext.draw (Ext.refl wr)))
            replace hE := hideit (Ext.draw hE.out)
            refine wp_region_lad (fun X => Ext wr.drew X) [(false, 0), (false, 1), (false, 2), (false, 3), (true, 4), (false, 5), (false, 6), (false, 7), (false, 8), (false, 9), (false, 10), (false, 11), (false, 12), (false, 13), (false, 14), (false, 15), (false, 16), (false, 17), (false, 18), (false, 19), (false, 20), (false, 21), (false, 22), (false, 23), (false, 24), (false, 25), (false, 26), (false, 27), (false, 28), (false, 31), (false, 32), (true, 29), (false, 30), (false, 33), (false, 34)] (by kernel_rfl) (by kernel_rfl) (by decide +kernel) (by decide +kernel) (by decide +kernel) (by decide +kernel) (Ext.refl _) ?_
            refine wpX_f _ (.int .u64 (x.toNat : Int)) rfl rfl (fun X _ => by simp [go_sem]) ?_
            simp only [List.getElem_toArray, List.getElem_cons_zero, Act.put, List.setIfInBounds_toArray, List.set_cons_zero, List.set_cons_succ]
            refine wpX_f _ (.bool false) rfl rfl (fun X _ => by simp [go_sem, x0]) ?_
            simp only [List.getElem_toArray, List.getElem_cons_zero, List.getElem_cons_succ, Act.put, List.setIfInBounds_toArray, List.set_cons_zero, List.set_cons_succ]
            refine wpX_f _ (.bool false) rfl rfl (fun X _ => by simp [go_sem]) ?_
            simp only [List.getElem_toArray, List.getElem_cons_zero, List.getElem_cons_succ, Act.put, List.setIfInBounds_toArray, List.set_cons_zero, List.set_cons_succ]
            refine wpX_f _ (.slice vo k vc) rfl rfl (fun X _ => by simp [go_sem]) ?_
            simp only [List.getElem_toArray, List.getElem_cons_zero, List.getElem_cons_succ, Act.put, List.setIfInBounds_toArray, List.set_cons_zero, List.set_cons_succ]
            refine wpX_call _ rfl rfl (by simp [go_sem]) ((rright_any (.slice vo k vc) k (bP f) wr.drew (hG.out.il fun j _ => bok.out j) hk64.out false (iff_of_false (by decide) hr.out)).mono ?_)
            rintro e y1 ⟨rfl, hX2⟩
            refine ⟨_, rfl, fun X => Ext y1 X, fun X hX => Ext.trans hX2 hX, Ext.refl _, ?_⟩
            simp only [List.getElem_toArray, List.getElem_cons_zero, List.getElem_cons_succ, Act.put, List.setIfInBounds_toArray, List.set_cons_zero, List.set_cons_succ]
            replace hu := hideit (hu.out.ext hX2)
            replace hG := hideit (hG.out.ext hX2)
            replace hE := hideit (Ext.trans hE.out hX2)

            clear hX2
            refine wpX_f _ (.bool true) rfl rfl (fun X _ => by simp [go_sem]) ?_
            simp only [List.getElem_toArray, List.getElem_cons_zero, List.getElem_cons_succ, Act.put, List.setIfInBounds_toArray, List.set_cons_zero, List.set_cons_succ]
            refine wpX_f _ (.bool true) rfl rfl (fun X _ => by simp [go_sem]) ?_
            simp only [List.getElem_toArray, List.getElem_cons_zero, List.getElem_cons_succ, Act.put, List.setIfInBounds_toArray, List.set_cons_zero, List.set_cons_succ]
            refine wpX_f _ (.bool true) rfl rfl (fun X _ => by simp [go_sem]) ?_
            simp only [List.getElem_toArray, List.getElem_cons_zero, List.getElem_cons_succ, Act.put, List.setIfInBounds_toArray, List.set_cons_zero, List.set_cons_succ]
            refine wpX_fskip _ rfl rfl ?_
            simp only [List.getElem_toArray, List.getElem_cons_zero, List.getElem_cons_succ, Act.put, List.setIfInBounds_toArray, List.set_cons_zero, List.set_cons_succ]
            refine wpX_fskip _ rfl rfl ?_
            simp only [List.getElem_toArray, List.getElem_cons_zero, List.getElem_cons_succ, Act.put, List.setIfInBounds_toArray, List.set_cons_zero, List.set_cons_succ]
            refine wpX_fskip _ rfl rfl ?_
            simp only [List.getElem_toArray, List.getElem_cons_zero, List.getElem_cons_succ, Act.put, List.setIfInBounds_toArray, List.set_cons_zero, List.set_cons_succ]
            refine wpX_fskip _ rfl rfl ?_
            simp only [List.getElem_toArray, List.getElem_cons_zero, List.getElem_cons_succ, Act.put, List.setIfInBounds_toArray, List.set_cons_zero, List.set_cons_succ]
            refine wpX_f _ (.bool true) rfl rfl (fun X _ => by simp [go_sem]) ?_
            simp only [List.getElem_toArray, List.getElem_cons_zero, List.getElem_cons_succ, Act.put, List.setIfInBounds_toArray, List.set_cons_zero, List.set_cons_succ]
            refine wpX_f _ (.bool true) rfl rfl (fun X _ => by simp [go_sem]) ?_
            simp only [List.getElem_toArray, List.getElem_cons_zero, List.getElem_cons_succ, Act.put, List.setIfInBounds_toArray, List.set_cons_zero, List.set_cons_succ]
            refine wpX_fskip _ rfl rfl ?_
            simp only [List.getElem_toArray, List.getElem_cons_zero, List.getElem_cons_succ, Act.put, List.setIfInBounds_toArray, List.set_cons_zero, List.set_cons_succ]
            refine wpX_fskip _ rfl rfl ?_
            simp only [List.getElem_toArray, List.getElem_cons_zero, List.getElem_cons_succ, Act.put, List.setIfInBounds_toArray, List.set_cons_zero, List.set_cons_succ]
            refine wpX_fskip _ rfl rfl ?_
            simp only [List.getElem_toArray, List.getElem_cons_zero, List.getElem_cons_succ, Act.put, List.setIfInBounds_toArray, List.set_cons_zero, List.set_cons_succ]
            refine wpX_fskip _ rfl rfl ?_
            simp only [List.getElem_toArray, List.getElem_cons_zero, List.getElem_cons_succ, Act.put, List.setIfInBounds_toArray, List.set_cons_zero, List.set_cons_succ]
            refine wpX_fskip _ rfl rfl ?_
            simp only [List.getElem_toArray, List.getElem_cons_zero, List.getElem_cons_succ, Act.put, List.setIfInBounds_toArray, List.set_cons_zero, List.set_cons_succ]
            refine wpX_fskip _ rfl rfl ?_
            simp only [List.getElem_toArray, List.getElem_cons_zero, List.getElem_cons_succ, Act.put, List.setIfInBounds_toArray, List.set_cons_zero, List.set_cons_succ]
            refine wpX_fskip _ rfl rfl ?_
            simp only [List.getElem_toArray, List.getElem_cons_zero, List.getElem_cons_succ, Act.put, List.setIfInBounds_toArray, List.set_cons_zero, List.set_cons_succ]
            refine wpX_fskip _ rfl rfl ?_
            simp only [List.getElem_toArray, List.getElem_cons_zero, List.getElem_cons_succ, Act.put, List.setIfInBounds_toArray, List.set_cons_zero, List.set_cons_succ]
            refine wpX_fskip _ rfl rfl ?_
            simp only [List.getElem_toArray, List.getElem_cons_zero, List.getElem_cons_succ, Act.put, List.setIfInBounds_toArray, List.set_cons_zero, List.set_cons_succ]
            refine wpX_fskip _ rfl rfl ?_
            simp only [List.getElem_toArray, List.getElem_cons_zero, List.getElem_cons_succ, Act.put, List.setIfInBounds_toArray, List.set_cons_zero, List.set_cons_succ]
            refine wpX_f _ (.bool true) rfl rfl (fun X _ => by simp [go_sem]) ?_
            simp only [List.getElem_toArray, List.getElem_cons_zero, List.getElem_cons_succ, Act.put, List.setIfInBounds_toArray, List.set_cons_zero, List.set_cons_succ]
            refine wpX_f _ (.bool true) rfl rfl (fun X _ => by simp [go_sem]) ?_
            simp only [List.getElem_toArray, List.getElem_cons_zero, List.getElem_cons_succ, Act.put, List.setIfInBounds_toArray, List.set_cons_zero, List.set_cons_succ]
            refine wpX_fskip _ rfl rfl ?_
            simp only [List.getElem_toArray, List.getElem_cons_zero, List.getElem_cons_succ, Act.put, List.setIfInBounds_toArray, List.set_cons_zero, List.set_cons_succ]
            refine wpX_fskip _ rfl rfl ?_
            simp only [List.getElem_toArray, List.getElem_cons_zero, List.getElem_cons_succ, Act.put, List.setIfInBounds_toArray, List.set_cons_zero, List.set_cons_succ]
            refine wpX_fskip _ rfl rfl ?_
            simp only [List.getElem_toArray, List.getElem_cons_zero, List.getElem_cons_succ, Act.put, List.setIfInBounds_toArray, List.set_cons_zero, List.set_cons_succ]
            refine wpX_fskip _ rfl rfl ?_
            simp only [List.getElem_toArray, List.getElem_cons_zero, List.getElem_cons_succ, Act.put, List.setIfInBounds_toArray, List.set_cons_zero, List.set_cons_succ]
            refine wpX_fskip _ rfl rfl ?_
            simp only [List.getElem_toArray, List.getElem_cons_zero, List.getElem_cons_succ, Act.put, List.setIfInBounds_toArray, List.set_cons_zero, List.set_cons_succ]
            refine ⟨_, rfl, .inr ⟨rfl, fun X => Ext y1 X, fun X hX => hX, Ext.refl _, ?_⟩⟩
            simp only [List.getElem_toArray, List.getElem_cons_zero, List.getElem_cons_succ, Act.put, List.setIfInBounds_toArray, List.set_cons_zero, List.set_cons_succ]
            refine wpX_fskip _ rfl rfl ?_
            simp only [List.getElem_toArray, List.getElem_cons_zero, List.getElem_cons_succ, Act.put, List.setIfInBounds_toArray, List.set_cons_zero, List.set_cons_succ]
            refine wpX_fskip _ rfl rfl ?_
            simp only [List.getElem_toArray, List.getElem_cons_zero, List.getElem_cons_succ, Act.put, List.setIfInBounds_toArray, List.set_cons_zero, List.set_cons_succ]
            refine wpX_f _ (.bool true) rfl rfl (fun X _ => by simp [go_sem]) ?_
            simp only [List.getElem_toArray, List.getElem_cons_zero, List.getElem_cons_succ, Act.put, List.setIfInBounds_toArray, List.set_cons_zero, List.set_cons_succ]
            refine wpX_nil ?_
            go_wp2
            refine bodyPost_ret (res4 rfl _ _ _) rfl ?_
            exact ⟨hE.out, .inr ⟨hno.out, rfl⟩⟩
          · have k64 : True := trivial
            go_upto_region 6 with (fail)
            refine wp_region_lit ?_
            refine wpList_run rfl (.int .i64 (k : Int)) (by simp [go_sem]) ?_
            simp only [Act.put, List.setIfInBounds_toArray, List.set_cons_zero, List.set_cons_succ]
            refine wpList_run rfl (.int .i64 (c : Int)) (by simp [go_sem]) ?_
            simp only [Act.put, List.setIfInBounds_toArray, List.set_cons_zero, List.set_cons_succ]
            refine wpList_run rfl (.bool false) (by simp [go_sem, kc]) ?_
            simp only [Act.put, List.setIfInBounds_toArray, List.set_cons_zero, List.set_cons_succ]
            refine wpList_run rfl (.bool false) (by simp [go_sem]) ?_
            simp only [Act.put, List.setIfInBounds_toArray, List.set_cons_zero, List.set_cons_succ]
            with_reducible refine xnot (by with_unfolding_all rfl) ?_
            simp only [Act.put, List.setIfInBounds_toArray, List.set_cons_zero, List.set_cons_succ]
            with_reducible refine xnot (by with_unfolding_all rfl) ?_
            simp only [Act.put, List.setIfInBounds_toArray, List.set_cons_zero, List.set_cons_succ]
            refine wpList_run rfl (.bool false) (by simp [go_sem]) ?_
            simp only [Act.put, List.setIfInBounds_toArray, List.set_cons_zero, List.set_cons_succ]
            go_upto_region 9 with (fail)
            replace hu := hideit (hu.out.ext (Ext.draw (Ext.refl wr)))
            replace hG := hideit (hG.out.ext (Ext.draw (Ext.refl wr)))
            replace hE := hideit (Ext.draw hE.out)
            refine wp_region_lad (fun X => Ext wr.drew X) [(false, 0), (false, 1), (false, 2), (false, 3), (true, 4), (false, 5), (false, 6), (false, 7), (false, 8), (false, 9), (false, 10), (false, 11), (false, 12), (false, 13), (false, 14), (false, 15), (false, 16), (false, 17), (false, 18), (false, 19), (false, 20), (false, 21), (false, 22), (false, 23), (false, 24), (false, 25), (false, 26), (false, 27), (false, 28), (false, 31), (false, 32), (true, 29), (false, 30), (false, 33), (false, 34)] (by kernel_rfl) (by kernel_rfl) (by decide +kernel) (by decide +kernel) (by decide +kernel) (by decide +kernel) (Ext.refl _) ?_
            refine wpX_f _ (.int .u64 (x.toNat : Int)) rfl rfl (fun X _ => by simp [go_sem]) ?_
            simp only [List.getElem_toArray, List.getElem_cons_zero, Act.put, List.setIfInBounds_toArray, List.set_cons_zero, List.set_cons_succ]
            refine wpX_f _ (.bool false) rfl rfl (fun X _ => by simp [go_sem, x0]) ?_
            simp only [List.getElem_toArray, List.getElem_cons_zero, List.getElem_cons_succ, Act.put, List.setIfInBounds_toArray, List.set_cons_zero, List.set_cons_succ]
            refine wpX_f _ (.bool false) rfl rfl (fun X _ => by simp [go_sem]) ?_
            simp only [List.getElem_toArray, List.getElem_cons_zero, List.getElem_cons_succ, Act.put, List.setIfInBounds_toArray, List.set_cons_zero, List.set_cons_succ]
            refine wpX_f _ (.slice vo k vc) rfl rfl (fun X _ => by simp [go_sem]) ?_
            simp only [List.getElem_toArray, List.getElem_cons_zero, List.getElem_cons_succ, Act.put, List.setIfInBounds_toArray, List.set_cons_zero, List.set_cons_succ]
            refine wpX_call _ rfl rfl (by simp [go_sem]) ((rright_any (.slice vo k vc) k (bP f) wr.drew (hG.out.il fun j _ => bok.out j) hk64.out false (iff_of_false (by decide) hr.out)).mono ?_)
            rintro e y1 ⟨rfl, hX2⟩
            refine ⟨_, rfl, fun X => Ext y1 X, fun X hX => Ext.trans hX2 hX, Ext.refl _, ?_⟩
            simp only [List.getElem_toArray, List.getElem_cons_zero, List.getElem_cons_succ, Act.put, List.setIfInBounds_toArray, List.set_cons_zero, List.set_cons_succ]
            replace hu := hideit (hu.out.ext hX2)
            replace hG := hideit (hG.out.ext hX2)
            replace hE := hideit (Ext.trans hE.out hX2)

            clear hX2
            refine wpX_f _ (.bool true) rfl rfl (fun X _ => by simp [go_sem]) ?_
            simp only [List.getElem_toArray, List.getElem_cons_zero, List.getElem_cons_succ, Act.put, List.setIfInBounds_toArray, List.set_cons_zero, List.set_cons_succ]
            refine wpX_f _ (.bool true) rfl rfl (fun X _ => by simp [go_sem]) ?_
            simp only [List.getElem_toArray, List.getElem_cons_zero, List.getElem_cons_succ, Act.put, List.setIfInBounds_toArray, List.set_cons_zero, List.set_cons_succ]
            refine wpX_f _ (.bool true) rfl rfl (fun X _ => by simp [go_sem]) ?_
            simp only [List.getElem_toArray, List.getElem_cons_zero, List.getElem_cons_succ, Act.put, List.setIfInBounds_toArray, List.set_cons_zero, List.set_cons_succ]
            refine wpX_fskip _ rfl rfl ?_
            simp only [List.getElem_toArray, List.getElem_cons_zero, List.getElem_cons_succ, Act.put, List.setIfInBounds_toArray, List.set_cons_zero, List.set_cons_succ]
            refine wpX_fskip _ rfl rfl ?_
            simp only [List.getElem_toArray, List.getElem_cons_zero, List.getElem_cons_succ, Act.put, List.setIfInBounds_toArray, List.set_cons_zero, List.set_cons_succ]
            refine wpX_fskip _ rfl rfl ?_
            simp only [List.getElem_toArray, List.getElem_cons_zero, List.getElem_cons_succ, Act.put, List.setIfInBounds_toArray, List.set_cons_zero, List.set_cons_succ]
            refine wpX_fskip _ rfl rfl ?_
            simp only [List.getElem_toArray, List.getElem_cons_zero, List.getElem_cons_succ, Act.put, List.setIfInBounds_toArray, List.set_cons_zero, List.set_cons_succ]
            refine wpX_f _ (.bool true) rfl rfl (fun X _ => by simp [go_sem]) ?_
            simp only [List.getElem_toArray, List.getElem_cons_zero, List.getElem_cons_succ, Act.put, List.setIfInBounds_toArray, List.set_cons_zero, List.set_cons_succ]
            refine wpX_f _ (.bool true) rfl rfl (fun X _ => by simp [go_sem]) ?_
            simp only [List.getElem_toArray, List.getElem_cons_zero, List.getElem_cons_succ, Act.put, List.setIfInBounds_toArray, List.set_cons_zero, List.set_cons_succ]
            refine wpX_fskip _ rfl rfl ?_
            simp only [List.getElem_toArray, List.getElem_cons_zero, List.getElem_cons_succ, Act.put, List.setIfInBounds_toArray, List.set_cons_zero, List.set_cons_succ]
            refine wpX_fskip _ rfl rfl ?_
            simp only [List.getElem_toArray, List.getElem_cons_zero, List.getElem_cons_succ, Act.put, List.setIfInBounds_toArray, List.set_cons_zero, List.set_cons_succ]
            refine wpX_fskip _ rfl rfl ?_
            simp only [List.getElem_toArray, List.getElem_cons_zero, List.getElem_cons_succ, Act.put, List.setIfInBounds_toArray, List.set_cons_zero, List.set_cons_succ]
            refine wpX_fskip _ rfl rfl ?_
            simp only [List.getElem_toArray, List.getElem_cons_zero, List.getElem_cons_succ, Act.put, List.setIfInBounds_toArray, List.set_cons_zero, List.set_cons_succ]
            refine wpX_fskip _ rfl rfl ?_
            simp only [List.getElem_toArray, List.getElem_cons_zero, List.getElem_cons_succ, Act.put, List.setIfInBounds_toArray, List.set_cons_zero, List.set_cons_succ]
            refine wpX_fskip _ rfl rfl ?_
            simp only [List.getElem_toArray, List.getElem_cons_zero, List.getElem_cons_succ, Act.put, List.setIfInBounds_toArray, List.set_cons_zero, List.set_cons_succ]
            refine wpX_fskip _ rfl rfl ?_
            simp only [List.getElem_toArray, List.getElem_cons_zero, List.getElem_cons_succ, Act.put, List.setIfInBounds_toArray, List.set_cons_zero, List.set_cons_succ]
            refine wpX_fskip _ rfl rfl ?_
            simp only [List.getElem_toArray, List.getElem_cons_zero, List.getElem_cons_succ, Act.put, List.setIfInBounds_toArray, List.set_cons_zero, List.set_cons_succ]
            refine wpX_fskip _ rfl rfl ?_
            simp only [List.getElem_toArray, List.getElem_cons_zero, List.getElem_cons_succ, Act.put, List.setIfInBounds_toArray, List.set_cons_zero, List.set_cons_succ]
            refine wpX_fskip _ rfl rfl ?_
            simp only [List.getElem_toArray, List.getElem_cons_zero, List.getElem_cons_succ, Act.put, List.setIfInBounds_toArray, List.set_cons_zero, List.set_cons_succ]
            refine wpX_f _ (.bool true) rfl rfl (fun X _ => by simp [go_sem]) ?_
            simp only [List.getElem_toArray, List.getElem_cons_zero, List.getElem_cons_succ, Act.put, List.setIfInBounds_toArray, List.set_cons_zero, List.set_cons_succ]
            refine wpX_f _ (.bool true) rfl rfl (fun X _ => by simp [go_sem]) ?_
            simp only [List.getElem_toArray, List.getElem_cons_zero, List.getElem_cons_succ, Act.put, List.setIfInBounds_toArray, List.set_cons_zero, List.set_cons_succ]
            refine wpX_fskip _ rfl rfl ?_
            simp only [List.getElem_toArray, List.getElem_cons_zero, List.getElem_cons_succ, Act.put, List.setIfInBounds_toArray, List.set_cons_zero, List.set_cons_succ]
            refine wpX_fskip _ rfl rfl ?_
            simp only [List.getElem_toArray, List.getElem_cons_zero, List.getElem_cons_succ, Act.put, List.setIfInBounds_toArray, List.set_cons_zero, List.set_cons_succ]
            refine wpX_fskip _ rfl rfl ?_
            simp only [List.getElem_toArray, List.getElem_cons_zero, List.getElem_cons_succ, Act.put, List.setIfInBounds_toArray, List.set_cons_zero, List.set_cons_succ]
            refine wpX_fskip _ rfl rfl ?_
            simp only [List.getElem_toArray, List.getElem_cons_zero, List.getElem_cons_succ, Act.put, List.setIfInBounds_toArray, List.set_cons_zero, List.set_cons_succ]
            refine wpX_fskip _ rfl rfl ?_
            simp only [List.getElem_toArray, List.getElem_cons_zero, List.getElem_cons_succ, Act.put, List.setIfInBounds_toArray, List.set_cons_zero, List.set_cons_succ]
            refine ⟨_, rfl, .inr ⟨rfl, fun X => Ext y1 X, fun X hX => hX, Ext.refl _, ?_⟩⟩
            simp only [List.getElem_toArray, List.getElem_cons_zero, List.getElem_cons_succ, Act.put, List.setIfInBounds_toArray, List.set_cons_zero, List.set_cons_succ]
            refine wpX_fskip _ rfl rfl ?_
            simp only [List.getElem_toArray, List.getElem_cons_zero, List.getElem_cons_succ, Act.put, List.setIfInBounds_toArray, List.set_cons_zero, List.set_cons_succ]
            refine wpX_fskip _ rfl rfl ?_
            simp only [List.getElem_toArray, List.getElem_cons_zero, List.getElem_cons_succ, Act.put, List.setIfInBounds_toArray, List.set_cons_zero, List.set_cons_succ]
            refine wpX_f _ (.bool true) rfl rfl (fun X _ => by simp [go_sem]) ?_
            simp only [List.getElem_toArray, List.getElem_cons_zero, List.getElem_cons_succ, Act.put, List.setIfInBounds_toArray, List.set_cons_zero, List.set_cons_succ]
            refine wpX_nil ?_
            go_wp2
            refine bodyPost_ret (res4 rfl _ _ _) rfl ?_
            exact ⟨hE.out, .inr ⟨hno.out, rfl⟩⟩
end Go.Proofs.YtedgopionpdfeaaDoor
namespace Go.Proofs.YtedgopionpdfeaaDoor
open Go.RowKit Go.BigFrame
set_option linter.unusedVariables false
theorem IL.cons {v : Value} {n : Nat} {bs : Nat → Int} {w X : World} (h : IL v n bs w) (k : Ext w X) : IL v n bs X := h.ext k
theorem parts_yes (u : Value) (l : Nat) (f : Nat → BitVec 8) (w : World) (hu : BV u l f w) (hp : isPl l f) : Calls Tryd.prog 37 #[u] w fun e w' => ∃ v, e = .returned (.tuple #[.int .u64 ((nP f).toNat : Int), v, .int .u64 ((tP f).toNat : Int), .int .i64 0]) ∧ GI w v (cP f) (bP f) w' ∧ Ext w w' := by
  have hl := hp.1
  subst hl
  refine (parts_512 u f w hu).mono fun e w' ⟨hX, h⟩ => ?_
  rcases h with ⟨_, v, he, hG⟩ | ⟨h, _⟩
  · exact ⟨v, he, hG, hX⟩
  · exact absurd hp h
theorem parts_no (u : Value) (l : Nat) (f : Nat → BitVec 8) (w : World) (hu : BV u l f w) (hp : ¬ isPl l f) : Calls Tryd.prog 37 #[u] w fun e w' => e = .returned (.tuple #[.int .u64 0, .slice none 0 0, .int .u64 0, .int .i64 110]) ∧ Ext w w' := by
  have key : Calls Tryd.prog 37 #[u] w (PtQ w l f) := by
    by_cases hl : l = 512
    · subst hl
      exact parts_512 u f w hu
    · exact parts_len u l f w hu hl
  refine key.mono fun e w' ⟨hX, h⟩ => ?_
  rcases h with ⟨h, _⟩ | ⟨_, he⟩
  · exact absurd h hp
  · exact ⟨he, hX⟩
set_option maxRecDepth 20000 in
set_option maxHeartbeats 4000000 in
theorem rpl_yes (u : Value) (l : Nat) (f : Nat → BitVec 8) (w : World) (hu : BV u l f w) (hp : isPl l f) : Calls Tryd.prog 16 #[u] w fun e w' => ∃ v, e = .returned (.tuple #[.int .u64 ((nP f).toNat : Int), v, .int .i64 0]) ∧ GI w v (cP f) (bP f) w' ∧ Ext w w' := by
  replace hu := hideit hu
  replace hp := hideit hp
  have hE := hideit (Ext.refl w)
  go_enter Tryd.func16, Tryd.ntmps16
  go_upto_region 1 with (fail)
  refine wp_region_lit ?_
  refine wpList_run rfl (u) (by simp [go_sem]) ?_
  simp only [Act.put, List.setIfInBounds_toArray, List.set_cons_zero, List.set_cons_succ]
  refine wpList_call rfl (by simp [go_sem]) ((parts_yes u l f w hu.out hp.out).mono ?_)
  rintro e w1 ⟨v, rfl, hG, hX⟩
  refine ⟨_, rfl, ?_⟩
  simp only [Act.put, List.setIfInBounds_toArray, List.set_cons_zero, List.set_cons_succ]
  replace hE := hideit (Ext.trans hE.out hX)
  replace hG := hideit hG
  refine wpList_run rfl (.tuple #[.int .u64 ((nP f).toNat : Int), v, .int .u64 ((tP f).toNat : Int), .int .i64 0]) (by simp [go_sem]) ?_
  simp only [Act.put, List.setIfInBounds_toArray, List.set_cons_zero, List.set_cons_succ]
  refine wpList_run rfl (.int .u64 ((nP f).toNat : Int)) (by simp [go_sem]) ?_
  simp only [Act.put, List.setIfInBounds_toArray, List.set_cons_zero, List.set_cons_succ]
  refine wpList_run rfl (v) (by simp [go_sem]) ?_
  simp only [Act.put, List.setIfInBounds_toArray, List.set_cons_zero, List.set_cons_succ]
  refine wpList_run rfl (.int .u64 ((tP f).toNat : Int)) (by simp [go_sem]) ?_
  simp only [Act.put, List.setIfInBounds_toArray, List.set_cons_zero, List.set_cons_succ]
  refine wpList_run rfl (.int .i64 0) (by simp [go_sem]) ?_
  simp only [Act.put, List.setIfInBounds_toArray, List.set_cons_zero, List.set_cons_succ]
  refine wpList_run rfl (.int .u64 ((nP f).toNat : Int)) (by simp [go_sem]) ?_
  simp only [Act.put, List.setIfInBounds_toArray, List.set_cons_zero, List.set_cons_succ]
  refine wpList_run rfl (v) (by simp [go_sem]) ?_
  simp only [Act.put, List.setIfInBounds_toArray, List.set_cons_zero, List.set_cons_succ]
  refine wpList_run rfl (.int .u64 ((tP f).toNat : Int)) (by simp [go_sem]) ?_
  simp only [Act.put, List.setIfInBounds_toArray, List.set_cons_zero, List.set_cons_succ]
  refine wpList_run rfl (.int .i64 0) (by simp [go_sem]) ?_
  simp only [Act.put, List.setIfInBounds_toArray, List.set_cons_zero, List.set_cons_succ]
  go_upto_region 2 with (fail)
  refine wp_region_lit ?_
  refine wpList_run rfl (.int .u64 ((nP f).toNat : Int)) (by simp [go_sem]) ?_
  simp only [Act.put, List.setIfInBounds_toArray, List.set_cons_zero, List.set_cons_succ]
  refine wpList_run rfl (v) (by simp [go_sem]) ?_
  simp only [Act.put, List.setIfInBounds_toArray, List.set_cons_zero, List.set_cons_succ]
  refine wpList_run rfl (.int .i64 0) (by simp [go_sem]) ?_
  simp only [Act.put, List.setIfInBounds_toArray, List.set_cons_zero, List.set_cons_succ]
  refine wpList_run rfl (.int .u64 ((nP f).toNat : Int)) (by simp [go_sem]) ?_
  simp only [Act.put, List.setIfInBounds_toArray, List.set_cons_zero, List.set_cons_succ]
  refine wpList_run rfl (v) (by simp [go_sem]) ?_
  simp only [Act.put, List.setIfInBounds_toArray, List.set_cons_zero, List.set_cons_succ]
  refine wpList_run rfl (.int .i64 0) (by simp [go_sem]) ?_
  simp only [Act.put, List.setIfInBounds_toArray, List.set_cons_zero, List.set_cons_succ]
  go_wp2
  refine bodyPost_ret (res3 rfl _ _ _) rfl ?_
  exact ⟨v, rfl, hG.out, hE.out⟩
set_option maxRecDepth 20000 in
set_option maxHeartbeats 4000000 in
theorem rpl_no (u : Value) (l : Nat) (f : Nat → BitVec 8) (w : World) (hu : BV u l f w) (hp : ¬ isPl l f) : Calls Tryd.prog 16 #[u] w fun e w' => e = .returned (.tuple #[.int .u64 0, .slice none 0 0, .int .i64 110]) ∧ Ext w w' := by
  replace hu := hideit hu
  replace hp := hideit hp
  have hE := hideit (Ext.refl w)
  go_enter Tryd.func16, Tryd.ntmps16
  go_upto_region 1 with (fail)
  refine wp_region_lit ?_
  refine wpList_run rfl (u) (by simp [go_sem]) ?_
  simp only [Act.put, List.setIfInBounds_toArray, List.set_cons_zero, List.set_cons_succ]
  refine wpList_call rfl (by simp [go_sem]) ((parts_no u l f w hu.out hp.out).mono ?_)
  rintro e w1 ⟨rfl, hX⟩
  refine ⟨_, rfl, ?_⟩
  simp only [Act.put, List.setIfInBounds_toArray, List.set_cons_zero, List.set_cons_succ]
  replace hE := hideit (Ext.trans hE.out hX)
  refine wpList_run rfl (.tuple #[.int .u64 0, .slice none 0 0, .int .u64 0, .int .i64 110]) (by simp [go_sem]) ?_
  simp only [Act.put, List.setIfInBounds_toArray, List.set_cons_zero, List.set_cons_succ]
  refine wpList_run rfl (.int .u64 0) (by simp [go_sem]) ?_
  simp only [Act.put, List.setIfInBounds_toArray, List.set_cons_zero, List.set_cons_succ]
  refine wpList_run rfl (.slice none 0 0) (by simp [go_sem]) ?_
  simp only [Act.put, List.setIfInBounds_toArray, List.set_cons_zero, List.set_cons_succ]
  refine wpList_run rfl (.int .u64 0) (by simp [go_sem]) ?_
  simp only [Act.put, List.setIfInBounds_toArray, List.set_cons_zero, List.set_cons_succ]
  refine wpList_run rfl (.int .i64 110) (by simp [go_sem]) ?_
  simp only [Act.put, List.setIfInBounds_toArray, List.set_cons_zero, List.set_cons_succ]
  refine wpList_run rfl (.int .u64 0) (by simp [go_sem]) ?_
  simp only [Act.put, List.setIfInBounds_toArray, List.set_cons_zero, List.set_cons_succ]
  refine wpList_run rfl (.slice none 0 0) (by simp [go_sem]) ?_
  simp only [Act.put, List.setIfInBounds_toArray, List.set_cons_zero, List.set_cons_succ]
  refine wpList_run rfl (.int .u64 0) (by simp [go_sem]) ?_
  simp only [Act.put, List.setIfInBounds_toArray, List.set_cons_zero, List.set_cons_succ]
  refine wpList_run rfl (.int .i64 110) (by simp [go_sem]) ?_
  simp only [Act.put, List.setIfInBounds_toArray, List.set_cons_zero, List.set_cons_succ]
  go_upto_region 2 with (fail)
  refine wp_region_lit ?_
  refine wpList_run rfl (.int .u64 0) (by simp [go_sem]) ?_
  simp only [Act.put, List.setIfInBounds_toArray, List.set_cons_zero, List.set_cons_succ]
  refine wpList_run rfl (.slice none 0 0) (by simp [go_sem]) ?_
  simp only [Act.put, List.setIfInBounds_toArray, List.set_cons_zero, List.set_cons_succ]
  refine wpList_run rfl (.int .i64 110) (by simp [go_sem]) ?_
  simp only [Act.put, List.setIfInBounds_toArray, List.set_cons_zero, List.set_cons_succ]
  refine wpList_run rfl (.int .u64 0) (by simp [go_sem]) ?_
  simp only [Act.put, List.setIfInBounds_toArray, List.set_cons_zero, List.set_cons_succ]
  refine wpList_run rfl (.slice none 0 0) (by simp [go_sem]) ?_
  simp only [Act.put, List.setIfInBounds_toArray, List.set_cons_zero, List.set_cons_succ]
  refine wpList_run rfl (.int .i64 110) (by simp [go_sem]) ?_
  simp only [Act.put, List.setIfInBounds_toArray, List.set_cons_zero, List.set_cons_succ]
  go_wp2
  refine bodyPost_ret (res3 rfl _ _ _) rfl ?_
  exact ⟨rfl, hE.out⟩
/-- both sides answer one thing -/
theorem plan_both (u : Value) (l : Nat) (f : Nat → BitVec 8) (hl : l ≤ 140737488355328) : ∃ (x : BitVec 64) (n : Nat) (c : Int), n ≤ 64 ∧ (∀ w, BV u l f w → Calls Tryd.prog 15 #[u] w fun e w' => ∃ v, e = .returned (.tuple #[.int .u64 (x.toNat : Int), v, .int .i64 c]) ∧ IL v n (bP f) w' ∧ Ext w w') ∧ (∀ w, BV u l f w → Calls Tryd.prog 16 #[u] w fun e w' => ∃ v, e = .returned (.tuple #[.int .u64 (x.toNat : Int), v, .int .i64 c]) ∧ IL v n (bP f) w' ∧ Ext w w') := by
  by_cases hp : isPl l f
  · refine ⟨nP f, cP f, 0, hp.2.2.2.2.2.2.1, fun w hu => (plan_any u l f w hu hl).mono fun e w' ⟨hX, h⟩ => ?_, fun w hu => (rpl_yes u l f w hu hp).mono fun e w' ⟨v, he, hG, hX⟩ => ⟨v, he, hG.il fun j _ => bP_ok f j, hX⟩⟩
    rcases h with ⟨_, v, he, hO⟩ | ⟨h, _⟩
    · exact ⟨v, he, hO.il fun j _ => bP_ok f j, hX⟩
    · exact absurd hp h
  · refine ⟨0#64, 0, 110, by decide, fun w hu => (plan_any u l f w hu hl).mono fun e w' ⟨hX, h⟩ => ?_, fun w hu => (rpl_no u l f w hu hp).mono fun e w' ⟨he, hX⟩ => ⟨_, he, ⟨.inl ⟨rfl, rfl⟩, fun j hj => absurd hj (Nat.not_lt_zero _)⟩, hX⟩⟩
    rcases h with ⟨h, _⟩ | ⟨_, he⟩
    · exact absurd h hp
    · exact ⟨_, he, ⟨.inl ⟨rfl, rfl⟩, fun j hj => absurd hj (Nat.not_lt_zero _)⟩, hX⟩
theorem mark_both (u : Value) (l : Nat) (f : Nat → BitVec 8) (hl : l ≤ 140737488355328) : ∃ (y : BitVec 64) (c : Int), (∀ w, BV u l f w → TabC w → Calls Tryd.prog 17 #[u] w fun e w' => e = .returned (.tuple #[.int .u64 (y.toNat : Int), .int .i64 c]) ∧ Ext w w') ∧ (∀ w, BV u l f w → Calls Tryd.prog 18 #[u] w fun e w' => e = .returned (.tuple #[.int .u64 (y.toNat : Int), .int .i64 c]) ∧ Ext w w') := by
  by_cases hp : isMk l f
  · exact ⟨nP f, 0, fun w hu hT => readm_yes u l f w hu hl hT hp, fun w hu => rreadm_yes u l f w hu hp⟩
  · exact ⟨0#64, 110, fun w hu hT => readm_no u l f w hu hl hT hp, fun w hu => rreadm_no u l f w hu hp⟩
set_option maxRecDepth 20000 in
set_option maxHeartbeats 4000000 in
theorem plans_any (u : Value) (l : Nat) (f : Nat → BitVec 8) (w : World) (hu : BV u l f w) (hl : l ≤ 140737488355328) (hT : TabC w) : Calls Tryd.prog 5 #[u] w fun e w' => e = .returned (.bool true) ∧ Ext w w' := by
  obtain ⟨x, n, c, hn, ka, kb⟩ := plan_both u l f hl
  obtain ⟨y, d, kc, kd⟩ := mark_both u l f hl
  replace ka := hideit ka
  replace kb := hideit kb
  replace kc := hideit kc
  replace kd := hideit kd
  replace hn := hideit hn
  replace hT := hideit hT
  replace hu := hideit hu
  have hE := hideit (Ext.refl w)
  go_enter Tryd.func5, Tryd.ntmps5
  go_upto_region 1 with (fail)
  refine wp_region_lit ?_
  refine wpList_run rfl (u) (by simp [go_sem]) ?_
  simp only [Act.put, List.setIfInBounds_toArray, List.set_cons_zero, List.set_cons_succ]
  refine wpList_call rfl (by simp [go_sem]) ((ka.out w hu.out).mono ?_)
  rintro e pw ⟨pv, rfl, ph, pX⟩
  refine ⟨_, rfl, ?_⟩
  simp only [Act.put, List.setIfInBounds_toArray, List.set_cons_zero, List.set_cons_succ]
  replace hu := hideit (hu.out.ext pX)
  replace hT := hideit (hT.out.ext pX)
  replace hE := hideit (Ext.trans hE.out pX)
  obtain ⟨po, pc, rfl⟩ := ph.form
  replace ph := hideit ph
  clear pX
  refine wpList_run rfl (.tuple #[.int .u64 (x.toNat : Int), .slice po n pc, .int .i64 (c)]) (by simp [go_sem]) ?_
  simp only [Act.put, List.setIfInBounds_toArray, List.set_cons_zero, List.set_cons_succ]
  refine wpList_run rfl (.int .u64 (x.toNat : Int)) (by simp [go_sem]) ?_
  simp only [Act.put, List.setIfInBounds_toArray, List.set_cons_zero, List.set_cons_succ]
  refine wpList_run rfl (.slice po n pc) (by simp [go_sem]) ?_
  simp only [Act.put, List.setIfInBounds_toArray, List.set_cons_zero, List.set_cons_succ]
  refine wpList_run rfl (.int .i64 (c)) (by simp [go_sem]) ?_
  simp only [Act.put, List.setIfInBounds_toArray, List.set_cons_zero, List.set_cons_succ]
  refine wpList_run rfl (.int .u64 (x.toNat : Int)) (by simp [go_sem]) ?_
  simp only [Act.put, List.setIfInBounds_toArray, List.set_cons_zero, List.set_cons_succ]
  refine wpList_run rfl (.slice po n pc) (by simp [go_sem]) ?_
  simp only [Act.put, List.setIfInBounds_toArray, List.set_cons_zero, List.set_cons_succ]
  refine wpList_run rfl (.int .i64 (c)) (by simp [go_sem]) ?_
  simp only [Act.put, List.setIfInBounds_toArray, List.set_cons_zero, List.set_cons_succ]
  go_upto_region 2 with (fail)
  refine wp_region_lit ?_
  refine wpList_run rfl (u) (by simp [go_sem]) ?_
  simp only [Act.put, List.setIfInBounds_toArray, List.set_cons_zero, List.set_cons_succ]
  refine wpList_call rfl (by simp [go_sem]) ((kb.out pw hu.out).mono ?_)
  rintro e qw ⟨qv, rfl, qh, qX⟩
  refine ⟨_, rfl, ?_⟩
  simp only [Act.put, List.setIfInBounds_toArray, List.set_cons_zero, List.set_cons_succ]
  replace hu := hideit (hu.out.ext qX)
  replace hT := hideit (hT.out.ext qX)
  replace ph := hideit (ph.out.ext qX)
  replace hE := hideit (Ext.trans hE.out qX)
  obtain ⟨qo, qc, rfl⟩ := qh.form
  replace qh := hideit qh
  clear qX
  refine wpList_run rfl (.tuple #[.int .u64 (x.toNat : Int), .slice qo n qc, .int .i64 (c)]) (by simp [go_sem]) ?_
  simp only [Act.put, List.setIfInBounds_toArray, List.set_cons_zero, List.set_cons_succ]
  refine wpList_run rfl (.int .u64 (x.toNat : Int)) (by simp [go_sem]) ?_
  simp only [Act.put, List.setIfInBounds_toArray, List.set_cons_zero, List.set_cons_succ]
  refine wpList_run rfl (.slice qo n qc) (by simp [go_sem]) ?_
  simp only [Act.put, List.setIfInBounds_toArray, List.set_cons_zero, List.set_cons_succ]
  refine wpList_run rfl (.int .i64 (c)) (by simp [go_sem]) ?_
  simp only [Act.put, List.setIfInBounds_toArray, List.set_cons_zero, List.set_cons_succ]
  refine wpList_run rfl (.int .u64 (x.toNat : Int)) (by simp [go_sem]) ?_
  simp only [Act.put, List.setIfInBounds_toArray, List.set_cons_zero, List.set_cons_succ]
  refine wpList_run rfl (.slice qo n qc) (by simp [go_sem]) ?_
  simp only [Act.put, List.setIfInBounds_toArray, List.set_cons_zero, List.set_cons_succ]
  refine wpList_run rfl (.int .i64 (c)) (by simp [go_sem]) ?_
  simp only [Act.put, List.setIfInBounds_toArray, List.set_cons_zero, List.set_cons_succ]
  go_upto_region 3 with (fail)
  refine wp_region_lit ?_
  refine wpList_run rfl (u) (by simp [go_sem]) ?_
  simp only [Act.put, List.setIfInBounds_toArray, List.set_cons_zero, List.set_cons_succ]
  refine wpList_call rfl (by simp [go_sem]) ((kc.out qw hu.out hT.out).mono ?_)
  rintro e y1 ⟨rfl, hX2⟩
  refine ⟨_, rfl, ?_⟩
  simp only [Act.put, List.setIfInBounds_toArray, List.set_cons_zero, List.set_cons_succ]
  replace hu := hideit (hu.out.ext hX2)
  replace hT := hideit (hT.out.ext hX2)
  replace ph := hideit (ph.out.ext hX2)
  replace qh := hideit (qh.out.ext hX2)
  replace hE := hideit (Ext.trans hE.out hX2)

  clear hX2
  refine wpList_run rfl (.tuple #[.int .u64 (y.toNat : Int), .int .i64 (d)]) (by simp [go_sem]) ?_
  simp only [Act.put, List.setIfInBounds_toArray, List.set_cons_zero, List.set_cons_succ]
  refine wpList_run rfl (.int .u64 (y.toNat : Int)) (by simp [go_sem]) ?_
  simp only [Act.put, List.setIfInBounds_toArray, List.set_cons_zero, List.set_cons_succ]
  refine wpList_run rfl (.int .i64 (d)) (by simp [go_sem]) ?_
  simp only [Act.put, List.setIfInBounds_toArray, List.set_cons_zero, List.set_cons_succ]
  refine wpList_run rfl (.int .u64 (y.toNat : Int)) (by simp [go_sem]) ?_
  simp only [Act.put, List.setIfInBounds_toArray, List.set_cons_zero, List.set_cons_succ]
  refine wpList_run rfl (.int .i64 (d)) (by simp [go_sem]) ?_
  simp only [Act.put, List.setIfInBounds_toArray, List.set_cons_zero, List.set_cons_succ]
  go_upto_region 4 with (fail)
  refine wp_region_lit ?_
  refine wpList_run rfl (u) (by simp [go_sem]) ?_
  simp only [Act.put, List.setIfInBounds_toArray, List.set_cons_zero, List.set_cons_succ]
  refine wpList_call rfl (by simp [go_sem]) ((kd.out y1 hu.out).mono ?_)
  rintro e y3 ⟨rfl, hX4⟩
  refine ⟨_, rfl, ?_⟩
  simp only [Act.put, List.setIfInBounds_toArray, List.set_cons_zero, List.set_cons_succ]
  replace hu := hideit (hu.out.ext hX4)
  replace hT := hideit (hT.out.ext hX4)
  replace ph := hideit (ph.out.ext hX4)
  replace qh := hideit (qh.out.ext hX4)
  replace hE := hideit (Ext.trans hE.out hX4)

  clear hX4
  refine wpList_run rfl (.tuple #[.int .u64 (y.toNat : Int), .int .i64 (d)]) (by simp [go_sem]) ?_
  simp only [Act.put, List.setIfInBounds_toArray, List.set_cons_zero, List.set_cons_succ]
  refine wpList_run rfl (.int .u64 (y.toNat : Int)) (by simp [go_sem]) ?_
  simp only [Act.put, List.setIfInBounds_toArray, List.set_cons_zero, List.set_cons_succ]
  refine wpList_run rfl (.int .i64 (d)) (by simp [go_sem]) ?_
  simp only [Act.put, List.setIfInBounds_toArray, List.set_cons_zero, List.set_cons_succ]
  refine wpList_run rfl (.int .u64 (y.toNat : Int)) (by simp [go_sem]) ?_
  simp only [Act.put, List.setIfInBounds_toArray, List.set_cons_zero, List.set_cons_succ]
  refine wpList_run rfl (.int .i64 (d)) (by simp [go_sem]) ?_
  simp only [Act.put, List.setIfInBounds_toArray, List.set_cons_zero, List.set_cons_succ]
  go_upto_region 5 with (fail)
  refine wp_region_lit ?_
  refine wpList_call rfl (by simp [go_sem]) ((lives_any y3 hT.out).mono ?_)
  rintro e y5 ⟨rfl, hX6⟩
  refine ⟨_, rfl, ?_⟩
  simp only [Act.put, List.setIfInBounds_toArray, List.set_cons_zero, List.set_cons_succ]
  replace hu := hideit (hu.out.ext hX6)
  replace hT := hideit (hT.out.ext hX6)
  replace ph := hideit (ph.out.ext hX6)
  replace qh := hideit (qh.out.ext hX6)
  replace hE := hideit (Ext.trans hE.out hX6)

  clear hX6
  refine wpList_run rfl (.bool false) (by simp [go_sem]) ?_
  simp only [Act.put, List.setIfInBounds_toArray, List.set_cons_zero, List.set_cons_succ]
  refine wpList_run rfl (.bool false) (by simp [go_sem]) ?_
  simp only [Act.put, List.setIfInBounds_toArray, List.set_cons_zero, List.set_cons_succ]
  refine wpList_runW rfl (.int .u64 (x.toNat : Int)) (by simp [go_sem]) ?_
  simp only [Act.put, List.setIfInBounds_toArray, List.set_cons_zero, List.set_cons_succ]
  refine wpList_runW rfl (.int .u64 (x.toNat : Int)) (by simp [go_sem]) ?_
  simp only [Act.put, List.setIfInBounds_toArray, List.set_cons_zero, List.set_cons_succ]
  refine wpList_runW rfl (.bool false) (by simp [go_sem]) ?_
  simp only [Act.put, List.setIfInBounds_toArray, List.set_cons_zero, List.set_cons_succ]
  refine wpList_run rfl (.bool false) (by simp [go_sem]) ?_
  simp only [Act.put, List.setIfInBounds_toArray, List.set_cons_zero, List.set_cons_succ]
  refine wpList_run rfl (.bool false) (by simp [go_sem]) ?_
  simp only [Act.put, List.setIfInBounds_toArray, List.set_cons_zero, List.set_cons_succ]
  refine wpList_runW rfl (.int .i64 (c)) (by simp [go_sem]) ?_
  simp only [Act.put, List.setIfInBounds_toArray, List.set_cons_zero, List.set_cons_succ]
  refine wpList_runW rfl (.int .i64 (c)) (by simp [go_sem]) ?_
  simp only [Act.put, List.setIfInBounds_toArray, List.set_cons_zero, List.set_cons_succ]
  refine wpList_runW rfl (.bool false) (by simp [go_sem]) ?_
  simp only [Act.put, List.setIfInBounds_toArray, List.set_cons_zero, List.set_cons_succ]
  refine wpList_run rfl (.bool false) (by simp [go_sem]) ?_
  simp only [Act.put, List.setIfInBounds_toArray, List.set_cons_zero, List.set_cons_succ]
  refine wpList_run rfl (.bool false) (by simp [go_sem]) ?_
  simp only [Act.put, List.setIfInBounds_toArray, List.set_cons_zero, List.set_cons_succ]
  refine wpList_runW rfl (.int .u64 (y.toNat : Int)) (by simp [go_sem]) ?_
  simp only [Act.put, List.setIfInBounds_toArray, List.set_cons_zero, List.set_cons_succ]
  refine wpList_runW rfl (.int .u64 (y.toNat : Int)) (by simp [go_sem]) ?_
  simp only [Act.put, List.setIfInBounds_toArray, List.set_cons_zero, List.set_cons_succ]
  refine wpList_runW rfl (.bool false) (by simp [go_sem]) ?_
  simp only [Act.put, List.setIfInBounds_toArray, List.set_cons_zero, List.set_cons_succ]
  refine wpList_run rfl (.bool false) (by simp [go_sem]) ?_
  simp only [Act.put, List.setIfInBounds_toArray, List.set_cons_zero, List.set_cons_succ]
  refine wpList_run rfl (.bool false) (by simp [go_sem]) ?_
  simp only [Act.put, List.setIfInBounds_toArray, List.set_cons_zero, List.set_cons_succ]
  refine wpList_runW rfl (.int .i64 (d)) (by simp [go_sem]) ?_
  simp only [Act.put, List.setIfInBounds_toArray, List.set_cons_zero, List.set_cons_succ]
  refine wpList_runW rfl (.int .i64 (d)) (by simp [go_sem]) ?_
  simp only [Act.put, List.setIfInBounds_toArray, List.set_cons_zero, List.set_cons_succ]
  refine wpList_runW rfl (.bool false) (by simp [go_sem]) ?_
  simp only [Act.put, List.setIfInBounds_toArray, List.set_cons_zero, List.set_cons_succ]
  refine wpList_run rfl (.bool false) (by simp [go_sem]) ?_
  simp only [Act.put, List.setIfInBounds_toArray, List.set_cons_zero, List.set_cons_succ]
  refine wpList_run rfl (.bool false) (by simp [go_sem]) ?_
  simp only [Act.put, List.setIfInBounds_toArray, List.set_cons_zero, List.set_cons_succ]
  refine wpList_runW rfl (.slice po n pc) (by simp [go_sem]) ?_
  simp only [Act.put, List.setIfInBounds_toArray, List.set_cons_zero, List.set_cons_succ]
  refine wpList_runW rfl (.int .i64 (n : Int)) (by simp [go_sem]) ?_
  simp only [Act.put, List.setIfInBounds_toArray, List.set_cons_zero, List.set_cons_succ]
  refine wpList_runW rfl (.slice qo n qc) (by simp [go_sem]) ?_
  simp only [Act.put, List.setIfInBounds_toArray, List.set_cons_zero, List.set_cons_succ]
  refine wpList_runW rfl (.int .i64 (n : Int)) (by simp [go_sem]) ?_
  simp only [Act.put, List.setIfInBounds_toArray, List.set_cons_zero, List.set_cons_succ]
  refine wpList_runW rfl (.bool false) (by simp [go_sem]) ?_
  simp only [Act.put, List.setIfInBounds_toArray, List.set_cons_zero, List.set_cons_succ]
  refine wpList_run rfl (.bool false) (by simp [go_sem]) ?_
  simp only [Act.put, List.setIfInBounds_toArray, List.set_cons_zero, List.set_cons_succ]
  go_upto_region 7 with (fail)
  refine wp_region_lit ?_
  refine wpList_run rfl (.int .i64 0) (by simp [go_sem]) ?_
  simp only [Act.put, List.setIfInBounds_toArray, List.set_cons_zero, List.set_cons_succ]
  clear ka kb kc kd hu hT
  have hE0 := hE
  have ph0 := ph
  have qh0 := qh
  generalize hz : y5 = z at *
  clear hz
  go_wp2
  go_loopw [13] (fun i X => ∃ k : Nat, k ≤ n ∧ i = .int .i64 (k : Int) ∧ Ext z X) (fun i _ => 64 - (intOf i).toNat)
  case atStart => exact ⟨0, Nat.zero_le _, rfl, Ext.refl _⟩
  case round =>
    obtain ⟨k, hk, rfl, hX⟩ := hrel
    clear hE ph qh
    by_cases hlt : k < n
    · have k1 : (k : Int) < (n : Int) := by omega
      have ek : IntKind.i64.wrap ((k : Int) + 1) = ((k + 1 : Nat) : Int) := by have := hn.out; rw [IntKind.wrap_i64]; omega
      obtain ⟨a, ha, _⟩ := ph0.out.at k hlt
      obtain ⟨b, hb, _⟩ := qh0.out.at k hlt
      have hL : Hid (∀ X, Ext wr.drew X → X.cell? (a.add k) = some (.int .i64 (bP f k)) ∧ X.cell? (b.add k) = some (.int .i64 (bP f k))) := fun X hX' => by
        have hh := Ext.trans (Ext.draw hX) hX'
        obtain ⟨_, e1, q1⟩ := (ph0.out.ext hh).at k hlt
        obtain ⟨_, e2, q2⟩ := (qh0.out.ext hh).at k hlt
        rw [ha] at e1
        rw [hb] at e2
        injection e1 with e1
        injection e2 with e2
        subst e1
        subst e2
        exact ⟨q1, q2⟩
      subst ha
      subst hb
      replace hX := hideit hX
      replace hlt := hideit hlt
      go_upto_region 8 with (fail)
      refine wp_region_lit ?_
      refine wpList_run rfl (.int .i64 (k : Int)) (by simp [go_sem]) ?_
      simp only [Act.put, List.setIfInBounds_toArray, List.set_cons_zero, List.set_cons_succ]
      refine wpList_run rfl (.slice (some a) n pc) (by simp [go_sem]) ?_
      simp only [Act.put, List.setIfInBounds_toArray, List.set_cons_zero, List.set_cons_succ]
      refine wpList_run rfl (.int .i64 (n : Int)) (by simp [go_sem]) ?_
      simp only [Act.put, List.setIfInBounds_toArray, List.set_cons_zero, List.set_cons_succ]
      refine wpList_run rfl (.bool true) (by simp [go_sem, k1]) ?_
      simp only [Act.put, List.setIfInBounds_toArray, List.set_cons_zero, List.set_cons_succ]
      go_upto_region 10 with (fail)
      replace hX := hideit (Ext.draw hX.out)
      refine wp_region_lad (fun X => Ext wr.drew X) [(false, 0), (false, 1), (false, 2), (false, 3), (false, 4), (false, 5), (false, 6), (false, 7), (false, 8)] (by kernel_rfl) (by kernel_rfl) (by decide +kernel) (by decide +kernel) (by decide +kernel) (by decide +kernel) (Ext.refl _) ?_
      refine wpX_f _ (.slice (some a) n pc) rfl rfl (fun X _ => by simp [go_sem]) ?_
      simp only [List.getElem_toArray, List.getElem_cons_zero, Act.put, List.setIfInBounds_toArray, List.set_cons_zero, List.set_cons_succ]
      refine wpX_f _ (.int .i64 (k : Int)) rfl rfl (fun X _ => by simp [go_sem]) ?_
      simp only [List.getElem_toArray, List.getElem_cons_zero, List.getElem_cons_succ, Act.put, List.setIfInBounds_toArray, List.set_cons_zero, List.set_cons_succ]
      refine wpX_f _ (.pointer (some (a.add k))) rfl rfl (fun X _ => by simp [go_sem, k1]) ?_
      simp only [List.getElem_toArray, List.getElem_cons_zero, List.getElem_cons_succ, Act.put, List.setIfInBounds_toArray, List.set_cons_zero, List.set_cons_succ]
      refine wpX_f _ (.int .i64 (bP f k)) rfl rfl (fun X hX => (by have q := (hL.out X hX).1; simp [go_sem, q])) ?_
      simp only [List.getElem_toArray, List.getElem_cons_zero, List.getElem_cons_succ, Act.put, List.setIfInBounds_toArray, List.set_cons_zero, List.set_cons_succ]
      refine wpX_f _ (.slice (some b) n qc) rfl rfl (fun X _ => by simp [go_sem]) ?_
      simp only [List.getElem_toArray, List.getElem_cons_zero, List.getElem_cons_succ, Act.put, List.setIfInBounds_toArray, List.set_cons_zero, List.set_cons_succ]
      refine wpX_f _ (.int .i64 (k : Int)) rfl rfl (fun X _ => by simp [go_sem]) ?_
      simp only [List.getElem_toArray, List.getElem_cons_zero, List.getElem_cons_succ, Act.put, List.setIfInBounds_toArray, List.set_cons_zero, List.set_cons_succ]
      refine wpX_f _ (.pointer (some (b.add k))) rfl rfl (fun X _ => by simp [go_sem, k1]) ?_
      simp only [List.getElem_toArray, List.getElem_cons_zero, List.getElem_cons_succ, Act.put, List.setIfInBounds_toArray, List.set_cons_zero, List.set_cons_succ]
      refine wpX_f _ (.int .i64 (bP f k)) rfl rfl (fun X hX => (by have q := (hL.out X hX).2; simp [go_sem, q])) ?_
      simp only [List.getElem_toArray, List.getElem_cons_zero, List.getElem_cons_succ, Act.put, List.setIfInBounds_toArray, List.set_cons_zero, List.set_cons_succ]
      refine wpX_f _ (.bool false) rfl rfl (fun X _ => by simp [go_sem]) ?_
      simp only [List.getElem_toArray, List.getElem_cons_zero, List.getElem_cons_succ, Act.put, List.setIfInBounds_toArray, List.set_cons_zero, List.set_cons_succ]
      refine wpX_nil ?_
      go_upto_region 9 with (fail)
      refine wp_region_lit ?_
      refine wpList_run rfl (.int .i64 (k : Int)) (by simp [go_sem]) ?_
      simp only [Act.put, List.setIfInBounds_toArray, List.set_cons_zero, List.set_cons_succ]
      refine wpList_run rfl (.int .i64 ((k + 1 : Nat) : Int)) (by simp [go_sem, ek]) ?_
      simp only [Act.put, List.setIfInBounds_toArray, List.set_cons_zero, List.set_cons_succ]
      refine wpList_run rfl (.int .i64 ((k + 1 : Nat) : Int)) (by simp [go_sem]) ?_
      simp only [Act.put, List.setIfInBounds_toArray, List.set_cons_zero, List.set_cons_succ]
      go_wp2
      refine ⟨⟨k + 1, by have := hlt.out; omega, rfl, hX.out⟩, by have := hlt.out; have := hn.out; simp [intOf]; omega⟩
    · obtain rfl : k = n := by omega
      have k1 : ¬ (k : Int) < (k : Int) := by omega
      replace hX := hideit (Ext.trans hE0.out hX)
      go_upto_region 8 with (fail)
      refine wp_region_lit ?_
      refine wpList_run rfl (.int .i64 (k : Int)) (by simp [go_sem]) ?_
      simp only [Act.put, List.setIfInBounds_toArray, List.set_cons_zero, List.set_cons_succ]
      refine wpList_run rfl (.slice po k pc) (by simp [go_sem]) ?_
      simp only [Act.put, List.setIfInBounds_toArray, List.set_cons_zero, List.set_cons_succ]
      refine wpList_run rfl (.int .i64 (k : Int)) (by simp [go_sem]) ?_
      simp only [Act.put, List.setIfInBounds_toArray, List.set_cons_zero, List.set_cons_succ]
      refine wpList_run rfl (.bool false) (by simp [go_sem, k1]) ?_
      simp only [Act.put, List.setIfInBounds_toArray, List.set_cons_zero, List.set_cons_succ]
      go_upto_region 12 with (fail)
      refine wp_region_lit ?_
      refine wpList_run rfl (.bool true) (by simp [go_sem]) ?_
      simp only [Act.put, List.setIfInBounds_toArray, List.set_cons_zero, List.set_cons_succ]
      go_wp2
      go_ret
      exact ⟨rfl, hX.out⟩
end Go.Proofs.YtedgopionpdfeaaDoor
