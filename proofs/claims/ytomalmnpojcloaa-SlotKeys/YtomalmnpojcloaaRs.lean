/-
  The document's blocks of slots.
-/
import Derived.Test.YtomalmnpojcloaaEnc
import Derived.Test.YtomalmnpojcloaaLad
import Derived.Test.YtomalmnpojcloaaZer
import Derived.ArgAppend
namespace Go.Proofs.Ytomalmnpojcloaa
open Go.RowKit Go.BigFrame
/-- an append to bytes that have no room: a list of one's own comes of it -/
theorem wpList_growC {ops : Array Oper} {rest : List Oper} {o : Oper} {a : Act} {Q : Exit → Act → World → Prop} {w : World} (hg : o.guard = none) (s x : Operand) (ho : o.op = .call { callee := .builtin .append, args := #[s, x], argTypes := #[26, 26] })
    (ad0 : Addr) (n : Nat) (f : Nat → BitVec 8) (hs : a.eval s = .slice (some ad0) n n) (hf : LieAt ad0 n (yv f) w) (ad : Addr) (m c : Nat) (b : Nat → BitVec 8) (hx : a.eval x = .slice (some ad) m c) (hb : LieAt ad m (yv b) w) (hm : 0 < m) (hnm : n + m ≤ 1000000)
    (h : ∀ v' w', OwnB w.heap.size 5 v' (n + m) (yv (catF f n b)) w' → Ext w w' → wpList Try.prog ops Q rest (a.put o.dst v') w') : wpList Try.prog ops Q (o :: rest) a w := by
  obtain ⟨i, z, e1, e2, e3, e4, e5⟩ := elem22.info
  refine wpList_append_grows w hg s x 26 ho 5 i z 1 1 elem22.slice e1 e2 e3 e4 e5 (by decide) (some ad0) n n (row n (yv f)) hs (fun h => by cases h) (by rw [row_length, Nat.mul_one]) (fun b0 hb0 j u hj => ?_) ad m c (row m (yv b)) hx (by rw [row_length, Nat.mul_one]) (fun j u hj => ?_) (fun u hu => ?_) (by omega) (by unfold maxLen; omega) (by omega) ?_
  · injection hb0 with hb0
    subst hb0
    obtain ⟨hj', rfl⟩ := row_some hj
    exact hf.1 j hj'
  · obtain ⟨hj', rfl⟩ := row_some hj
    exact hb.1 j hj'
  · obtain ⟨j, _, rfl⟩ := List.mem_map.1 hu
    rfl
  · intro v' w' h1 h2
    refine h v' w' ?_ ⟨h2.os, h2.tape, h2.output, h2.size, fun k hk => h2.block k hk (by simp)⟩
    unfold OwnB
    rw [row_append n m (yv f) (yv b) (yv (catF f n b)) (fun j hj => by simp only [yv]; unfold catF; rw [if_pos hj]) (fun j hj => by simp only [yv]; unfold catF; rw [if_neg (by omega), Nat.add_sub_cancel_left])] at h1
    exact h1
theorem exec_append {P : Program} {o : Oper} {a : Act} {w w' : World} (s x : Operand) (t u : TypeId) (ho : o.op = .call { callee := .builtin .append, args := #[s, x], argTypes := #[t, u] }) (v y v' : Value) (hs : a.eval s = v) (hx : a.eval x = y) (hr : (Builtin.append_ #[t, u] o.type #[v, y]).run P w = .ok v' w') : (execOp a.eval o).run P w = .ok (.value v') w' := by
  unfold execOp
  simp only [ho, resolve, invoke, builtin, Sem.run_bind, Sem.run_pure, Result.andThen_ok, List.map_toArray, List.map_cons, List.map_nil, hs, hx, hr]
theorem run_growB {w : World} {base n : Nat} {v : Value} {f : Nat → BitVec 8} (ty : TypeId) (h : OwnB base 5 v n (yv f) w) (ad : Addr) (m c : Nat) (b : Nat → BitVec 8) (hb : LieAt ad m (yv b) w) (hnm : n + m ≤ 1000000) (hbase : base ≤ w.heap.size) :
    ∃ v' w', (Builtin.append_ #[26, 26] ty #[v, .slice (some ad) m c]).run Try.prog w = .ok v' w' ∧ OwnB base 5 v' (n + m) (yv (catF f n b)) w' ∧ w.grownBy w' v.ownBlock := by
  obtain ⟨i, z, e1, e2, e3, e4, e5⟩ := elem22.info
  obtain ⟨v', w', h1, h2, h3, _⟩ := run_append_own (P := Try.prog) w base 26 ty 5 i z 1 1 elem22.slice e1 e2 e3 e4 e5 (by decide) v n (row n (yv f)) h ad m c (row m (yv b)) (by rw [row_length, Nat.mul_one]) (fun j u hj => by
    obtain ⟨hj', rfl⟩ := row_some hj
    exact hb.1 j hj') (fun u hu => by
    obtain ⟨j, _, rfl⟩ := List.mem_map.1 hu
    rfl) (by unfold maxLen; omega) (by omega) hbase
  refine ⟨v', w', h1, ?_, h3⟩
  unfold OwnB
  rw [row_append n m (yv f) (yv b) (yv (catF f n b)) (fun j hj => by simp only [yv]; unfold catF; rw [if_pos hj]) (fun j hj => by simp only [yv]; unfold catF; rw [if_neg (by omega), Nat.add_sub_cancel_left])] at h2
  exact h2
theorem slot_lie {c : Nat} {a : Bool} {f : Nat → BitVec 8} {w : World} (h : RowAt c 81 (slv a f) w) (o m : Nat) (hm : 1 + o + m ≤ 81) : LieAt ⟨c, 1 + o, none⟩ m (yv fun j => f (o + j)) w :=
  ⟨fun j hj => by
    rw [add_none, h.1 (1 + o + j) (by omega)]
    unfold slv yv
    rw [if_neg (by omega), show 1 + o + j - 1 = o + j by omega], h.2.2⟩
theorem ty5 : ∃ i, Try.prog.info? 5 = some i ∧ i.zero = some (.int .u8 0) ∧ i.size = 1 ∧ i.bytes = 1 := by
  have h : (Try.prog.info? 5).map (fun i => (i.zero, i.size, i.bytes)) = some (some (.int .u8 0), 1, 1) := by kernel_rfl
  cases hi : Try.prog.info? 5 with
  | none => rw [hi] at h; cases h
  | some i =>
    rw [hi] at h
    simp only [Option.map_some, Option.some.injEq, Prod.mk.injEq] at h
    exact ⟨i, rfl, h.1, h.2.1, h.2.2⟩
set_option maxRecDepth 20000 in
set_option maxHeartbeats 2000000 in
theorem rfill_any (base n : Nat) (v : Value) (f : Nat → BitVec 8) (w : World) (h : OwnB base 5 v n (yv f) w) (h0 : 0 < n) (hn : n < 512) (hb : base ≤ w.heap.size) :
    Calls Try.prog 23 #[v] w fun e w' => ∃ u, e = .returned u ∧ OwnB base 5 u 512 (yv (padF f n)) w' ∧ Below base w w' := by
  obtain ⟨g, cap, rfl, hg, hc, _, hR⟩ := h.lies h0
  clear hR
  replace h := hideit h
  have hsub : IntKind.i64.wrap ((512 : Int) - (n : Int)) = ((512 - n : Nat) : Int) := by rw [IntKind.wrap_i64]; omega
  go_enter Try.func23, Try.ntmps23
  go_upto_region 1 with (fail)
  refine wp_region_lit ?_
  refine wpList_run rfl (.slice (some ⟨g, 0, none⟩) n cap) (by simp [go_sem]) ?_
  simp only [Act.put, List.setIfInBounds_toArray, List.set_cons_zero, List.set_cons_succ]
  refine wpList_run rfl (.slice (some ⟨g, 0, none⟩) n cap) (by simp [go_sem]) ?_
  simp only [Act.put, List.setIfInBounds_toArray, List.set_cons_zero, List.set_cons_succ]
  refine wpList_run rfl (.int .i64 (n : Int)) (by simp [go_sem]) ?_
  simp only [Act.put, List.setIfInBounds_toArray, List.set_cons_zero, List.set_cons_succ]
  refine wpList_run rfl (.int .i64 ((512 - n : Nat) : Int)) (by simp [go_sem, hsub]) ?_
  simp only [Act.put, List.setIfInBounds_toArray, List.set_cons_zero, List.set_cons_succ]
  obtain ⟨i5, hi5⟩ := ty5
  refine wpList_zeros w (n := n) (base := base) (f := yv (padF f n)) (.int .u8 0) i5 (.int .u8 0) Try.underlying26 Try.underlying3 hi5.1 hi5.2.1 hi5.2.2.1 hi5.2.2.2 rfl rfl rfl (.tmp 3) (.tmp 6) rfl rfl h.out h0 (512 - n) (by omega) rfl (fun j hj => by simp only [yv]; unfold padF; rw [if_pos hj]) (fun j hj => by simp only [yv]; unfold padF; rw [if_neg (by omega)]; rfl) (by omega) hb ?_
  intro u X hO hgr
  rw [show n + (512 - n) = 512 by omega] at hO
  have hB := hideit (below_grown hb hgr fun q hq => (h.out.lt q hq).1)
  obtain ⟨g9, cap9, rfl, _⟩ := hO.lies (by decide)
  replace hO := hideit hO
  clear h hgr hi5
  simp only [Act.put, List.setIfInBounds_toArray, List.set_cons_zero, List.set_cons_succ]
  go_wp2
  go_ret
  exact ⟨_, rfl, hO.out, hB.out⟩
set_option maxRecDepth 20000 in
set_option maxHeartbeats 2000000 in
theorem renc_act (f : Nat → BitVec 8) (w : World) :
    Calls Try.prog 9 #[.agg (row 81 (slv true f)).toArray] w fun e w' => ∃ v, e = .returned (.tuple #[v, .int .i64 0]) ∧ BV v 512 (padF (slF f) 84) w' ∧ Ext w w' := by
  have H0 : Hid (RowAt w.heap.size 81 (slv true f) (w.alloc (.cells (row 81 (slv true f)).toArray 25))) := RowAt.new w 81 _ 25
  have hE0 : Hid (Ext w (w.alloc (.cells (row 81 (slv true f)).toArray 25))) := (Below.refl _ _).alloc (Nat.le_refl _) _
  go_enter Try.func9, Try.ntmps9
  go_upto_region 1 with (fail)
  obtain ⟨w1, hw1⟩ : ∃ w1, w1 = w.alloc (.cells (row 81 (slv true f)).toArray 25) := ⟨_, rfl⟩
  rw [← hw1] at H0 hE0 ⊢
  clear hw1
  obtain ⟨c, hc⟩ : ∃ c, c = w.heap.size := ⟨_, rfl⟩
  rw [← hc] at H0 ⊢
  clear hc
  have e0 : w1.cell? ⟨c, 0, none⟩ = some (.bool true) := H0.out.1 0 (by decide)
  go_upto_region 5 with (fail)
  clear e0
  obtain ⟨x3, hcv3, hB3, hX3⟩ := constB w1 #[.int .u8 83, .int .u8 76, .int .u8 79, .int .u8 84] 4 (bT [83, 76, 79, 84]) (fun j hj => by
    rcases (by omega : j = 0 ∨ j = 1 ∨ j = 2 ∨ j = 3) with rfl | rfl | rfl | rfl <;> rfl)
  refine wp_region_lit ?_
  refine wpList_to rfl (.slice (some ⟨w1.heap.size, 0, none⟩) 4 4) (w1.alloc (.cells #[.int .u8 83, .int .u8 76, .int .u8 79, .int .u8 84] 5)) (by simp [go_sem]) ?_
  simp only [Act.put, List.setIfInBounds_toArray, List.set_cons_zero, List.set_cons_succ]
  refine wpList_to rfl (.slice (some ⟨w1.heap.size, 0, none⟩) 4 4) (x3) (by simp [go_sem, hcv3]) ?_
  simp only [Act.put, List.setIfInBounds_toArray, List.set_cons_zero, List.set_cons_succ]
  have H3 := hideit (H0.out.carry hX3)
  have hE3 := hideit (Ext.trans hE0.out hX3)
  obtain ⟨k0, hk0⟩ : ∃ k0, k0 = w1.heap.size := ⟨_, rfl⟩
  rw [← hk0] at hB3 ⊢
  have hL3 : Hid (LieAt ⟨k0, 0, none⟩ 4 (yv (bT [83, 76, 79, 84])) x3) := hideit (by
    rcases hB3 with ⟨h, _⟩ | ⟨ad, cp, h, _, hl⟩
    · cases h
    · injection h with h _ _
      injection h with h
      subst h
      exact hl)
  clear H0 hE0 hX3 hcv3 hB3 hk0
  refine wpList_run rfl (.pointer (some ⟨c, 1, none⟩)) (by simp [go_sem]) ?_
  simp only [Act.put, List.setIfInBounds_toArray, List.set_cons_zero, List.set_cons_succ]
  refine wpList_run rfl (.slice (some ⟨c, 1, none⟩) 16 16) (by simp [go_sem]) ?_
  simp only [Act.put, List.setIfInBounds_toArray, List.set_cons_zero, List.set_cons_succ]
  refine wpList_growC rfl (.tmp 13) (.tmp 15) rfl ⟨k0, 0, none⟩ 4 (bT [83, 76, 79, 84]) rfl hL3.out ⟨c, 1, none⟩ 16 16 (fun j => f (0 + j)) rfl (slot_lie H3.out 0 16 (by decide)) (by decide) (by decide) ?_
  intro v4 w4 hO4 hX4
  have H4 := hideit (H3.out.carry hX4)
  have hE4 := hideit (Ext.trans hE3.out hX4)
  have O4 := hideit ((hO4.weaken (base' := x3.heap.size) (Nat.le_refl _)).congr (g' := yv (slF f)) fun j hj => by
    simp only [yv]
    unfold catF slF
    by_cases h : j < 4
    · rw [if_pos h, if_pos h]
    · rw [if_neg h, if_neg h]
      show Value.int .u8 ((f (0 + (j - 4))).toNat : Int) = _
      rw [Nat.zero_add])
  have hxw : Hid (w.heap.size ≤ x3.heap.size) := hideit (Below.size hE3.out)
  have hcx : Hid (c < x3.heap.size) := hideit H3.out.2.2
  obtain ⟨g4, cap4, rfl, _⟩ := hO4.lies (by decide)
  clear hO4 H3 hE3 hL3 hX4
  obtain ⟨B0, hB0⟩ : ∃ B0, B0 = x3.heap.size := ⟨_, rfl⟩
  rw [← hB0] at O4 hxw hcx
  clear hB0
  simp only [Act.put, List.setIfInBounds_toArray, List.set_cons_zero, List.set_cons_succ]
  go_upto_region 6 with (fail)
  have hC0 : Ext w4 w4.drew := (Ext.refl w4).draw
  have hB4 : Hid (B0 ≤ w4.heap.size) := hideit (by
    obtain ⟨g9, c9, _, hb9, _, _, hr9⟩ := O4.out.lies (by decide)
    have := hr9.2.2
    omega)
  refine wp_region_lad (fun _ => True) [(false, 0), (false, 1), (false, 2), (false, 4), (false, 5), (true, 3), (true, 6), (true, 7), (true, 8), (true, 9)] (by kernel_rfl) (by kernel_rfl) (by decide +kernel) (by decide +kernel) (by decide +kernel) (by decide +kernel) trivial ?_
  refine wpX_f _ (.slice (some ⟨g4, 0, none⟩) (4 + 16) cap4) rfl rfl (fun X _ => by simp [go_sem]) ?_
  simp only [List.getElem_toArray, List.getElem_cons_zero, Act.put, List.setIfInBounds_toArray, List.set_cons_zero, List.set_cons_succ]
  refine wpX_f _ (.pointer (some ⟨c, 17, none⟩)) rfl rfl (fun X _ => by simp [go_sem]) ?_
  simp only [List.getElem_toArray, List.getElem_cons_zero, List.getElem_cons_succ, Act.put, List.setIfInBounds_toArray, List.set_cons_zero, List.set_cons_succ]
  refine wpX_f _ (.slice (some ⟨c, 17, none⟩) 32 32) rfl rfl (fun X _ => by simp [go_sem]) ?_
  simp only [List.getElem_toArray, List.getElem_cons_zero, List.getElem_cons_succ, Act.put, List.setIfInBounds_toArray, List.set_cons_zero, List.set_cons_succ]
  refine wpX_f _ (.pointer (some ⟨c, 49, none⟩)) rfl rfl (fun X _ => by simp [go_sem]) ?_
  simp only [List.getElem_toArray, List.getElem_cons_zero, List.getElem_cons_succ, Act.put, List.setIfInBounds_toArray, List.set_cons_zero, List.set_cons_succ]
  refine wpX_f _ (.slice (some ⟨c, 49, none⟩) 32 32) rfl rfl (fun X _ => by simp [go_sem]) ?_
  simp only [List.getElem_toArray, List.getElem_cons_zero, List.getElem_cons_succ, Act.put, List.setIfInBounds_toArray, List.set_cons_zero, List.set_cons_succ]
  have O4' := hideit (O4.out.ext hC0)
  have H4' := hideit (H4.out.carry hC0)
  have hE4' := hideit (Ext.trans hE4.out hC0)
  have hBd : Hid (B0 ≤ w4.drew.heap.size) := hideit (Nat.le_trans hB4.out (Below.size hC0))
  obtain ⟨v5, w5, hr5, hO5, hg5⟩ := run_growB 26 O4'.out ⟨c, 17, none⟩ 32 32 (fun j => f (16 + j)) (slot_lie H4'.out 16 32 (by decide)) (by decide) hBd.out
  have hB5 := hideit (below_grown hBd.out hg5 fun q hq => (O4'.out.lt q hq).1)
  have H5 := hideit (RowAt.belowB H4'.out hcx.out hB5.out)
  have O5 := hideit (hO5.congr (g' := yv (slF f)) fun j hj => by simp only [yv]; rw [cat_sl f 16 j])
  have hE5 := hideit (Below.trans hE4'.out (Below.mono hB5.out hxw.out))
  have hs5 : Hid (B0 ≤ w5.heap.size) := hideit (Nat.le_trans hBd.out (Below.size hB5.out))
  refine wpX_to _ v5 w5 rfl rfl (exec_append (.tmp 17) (.tmp 19) 26 26 rfl _ _ _ rfl rfl hr5) (fun _ => True) (fun _ h => h) trivial ?_
  simp only [List.getElem_toArray, List.getElem_cons_zero, List.getElem_cons_succ, Act.put, List.setIfInBounds_toArray, List.set_cons_zero, List.set_cons_succ]
  obtain ⟨v6, w6, hr6, hO6, hg6⟩ := run_growB 26 O5.out ⟨c, 49, none⟩ 32 32 (fun j => f (48 + j)) (slot_lie H5.out 48 32 (by decide)) (by decide) hs5.out
  have hB6 := hideit (below_grown hs5.out hg6 fun q hq => (O5.out.lt q hq).1)
  have O6 := hideit (hO6.congr (g' := yv (slF f)) fun j hj => by simp only [yv]; rw [cat_sl f 48 j])
  have hE6 := hideit (Below.trans hE5.out (Below.mono hB6.out hxw.out))
  have hs6 : Hid (B0 ≤ w6.heap.size) := hideit (Nat.le_trans hs5.out (Below.size hB6.out))
  refine wpX_to _ v6 w6 rfl rfl (exec_append (.tmp 20) (.tmp 22) 26 26 rfl _ _ _ rfl rfl hr6) (fun _ => True) (fun _ h => h) trivial ?_
  simp only [List.getElem_toArray, List.getElem_cons_zero, List.getElem_cons_succ, Act.put, List.setIfInBounds_toArray, List.set_cons_zero, List.set_cons_succ]
  clear hr5 hr6 hO5 hO6 hg5 hg6 O4 O4' O5 H4 H4' H5 hE4 hE4' hE5 hB5 hB6 hB4 hBd hs5 hC0
  refine wpX_call _ rfl rfl (by simp [go_sem]) ((rfill_any B0 84 v6 (slF f) w6 O6.out (by decide) (by decide) hs6.out).mono ?_)
  rintro e w8 ⟨u, rfl, hO8, hB8⟩
  refine ⟨_, rfl, fun _ => True, fun _ h => h, trivial, ?_⟩
  have O8 := hideit hO8
  replace hB8 := hideit hB8
  have hE7 := hE6
  clear hE6 O6 hO8
  simp only [List.getElem_toArray, List.getElem_cons_zero, List.getElem_cons_succ, Act.put, List.setIfInBounds_toArray, List.set_cons_zero, List.set_cons_succ]
  refine wpX_to _ u w8 rfl rfl (by simp [go_sem]) (fun _ => True) (fun _ h => h) trivial ?_
  simp only [List.getElem_toArray, List.getElem_cons_zero, List.getElem_cons_succ, Act.put, List.setIfInBounds_toArray, List.set_cons_zero, List.set_cons_succ]
  refine wpX_to _ (.int .i64 0) w8 rfl rfl (by simp [go_sem]) (fun _ => True) (fun _ h => h) trivial ?_
  simp only [List.getElem_toArray, List.getElem_cons_zero, List.getElem_cons_succ, Act.put, List.setIfInBounds_toArray, List.set_cons_zero, List.set_cons_succ]
  refine wpX_nil ?_
  obtain ⟨g8, cap8, rfl, _⟩ := O8.out.lies (by decide)
  go_wp2
  go_ret2
  exact ⟨_, rfl, O8.out.bv, Below.trans hE7.out (Below.mono hB8.out hxw.out)⟩
end Go.Proofs.Ytomalmnpojcloaa
