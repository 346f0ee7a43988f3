/-
  The document's Sorted: Delete.
-/
import Derived.Test.YtboncdlihgpepaaSo7
import Derived.Test.YtboncdlihgpepaaLadZ
namespace Go.Proofs.Ytboncdlihgpepaa
open Go.RowKit Go.BigFrame Go.Maps Go.ChangeMaps Go.MapKept
set_option linter.unusedVariables false
open Go.Shelf Go.Lib Go.Sort
theorem exec_append {P : Program} {o : Oper} {a : Act} {w w' : World} (s x : Operand) (t u : TypeId) (ho : o.op = .call { callee := .builtin .append, args := #[s, x], argTypes := #[t, u] }) (v y v' : Value) (hs : a.eval s = v) (hx : a.eval x = y) (hr : (Builtin.append_ #[t, u] o.type #[v, y]).run P w = .ok v' w') : (execOp a.eval o).run P w = .ok (.value v') w' := by
  unfold execOp
  simp only [ho, resolve, invoke, builtin, Sem.run_bind, Sem.run_pure, Result.andThen_ok, List.map_toArray, List.map_cons, List.map_nil, hs, hx, hr]
theorem cut_lo (b cv i : Nat) (L : List KV) (hi : i ≤ L.length) (hc : L.length ≤ cv) {o : Oper} {a : Act} {w : World} (x hi' : Operand) (ho : o.op = .slice 61 x none (some hi') none) (hx : a.eval x = .slice (some ⟨b, 0, none⟩) L.length cv) (hh : a.eval hi' = .int .i64 (i : Int)) :
    (execOp a.eval o).run Try.prog w = .ok (.value (.slice (some ⟨b, 0, none⟩) (L.take i).length cv)) w := by
  rw [List.length_take, Nat.min_eq_left hi]
  have c1 : (0 : Int) ≤ (i : Int) := by omega
  have c2 : (i : Int) ≤ (cv : Int) := by omega
  unfold execOp
  simp only [ho, Option.map_some, Option.map_none, hx, hh]
  simp [go_sem, Try.underlying61, c2]
theorem cut_hi (b cv i : Nat) (L : List KV) (hi : i ≤ L.length) (hc : L.length ≤ cv) : ∃ ad : Addr, (∀ (o : Oper) (a : Act) (w : World) (x lo : Operand) (_ : o.op = .slice 61 x (some lo) none none) (_ : a.eval x = .slice (some ⟨b, 0, none⟩) L.length cv) (_ : a.eval lo = .int .i64 (i : Int)),
      (execOp a.eval o).run Try.prog w = .ok (.value (.slice (some ad) (L.drop i).length (cv - i))) w) ∧ ∀ w, RowAt b (L.length * 2) (pV L) w → LieAt ad ((L.drop i).length * 2) (pV (L.drop i)) w := by
  have c1 : (0 : Int) ≤ (i : Int) := by omega
  have c2 : (i : Int) ≤ (L.length : Int) := by omega
  by_cases h : cv = i
  · have h0 : L.drop i = [] := List.drop_eq_nil_of_le (by omega)
    refine ⟨⟨b, 0, none⟩, fun o a w x lo ho hx hl => ?_, fun w hw => ?_⟩
    · unfold execOp
      simp only [ho, Option.map_some, Option.map_none, hx, hl]
      have e : L.length = i := by omega
      rw [e, List.length_drop]
      simp [go_sem, Try.underlying61, h, e]
    · rw [h0]
      exact ⟨fun j hj => by simp at hj, hw.2.2⟩
  · refine ⟨Addr.add ⟨b, 0, none⟩ (i * 2), fun o a w x lo ho hx hl => ?_, fun w hw => ⟨fun j hj => ?_, by rw [add_block]; exact hw.2.2⟩⟩
    · unfold execOp
      simp only [ho, Option.map_some, Option.map_none, hx, hl]
      rw [List.length_drop]
      simp [go_sem, Try.underlying61, c2, h]
    · rw [List.length_drop] at hj
      have e1 : (Addr.add ⟨b, 0, none⟩ (i * 2)).add j = ⟨b, i * 2 + j, none⟩ := by
        unfold Addr.add
        split <;> split <;> simp_all
      rw [e1, hw.1 (i * 2 + j) (by omega)]
      have e2 := pV_right (L.take i) (L.drop i) j
      rw [List.take_append_drop, List.length_take, Nat.min_eq_left hi] at e2
      exact congrArg some e2.symm
theorem lo_lie {b i : Nat} {L : List KV} {w : World} (hi : i ≤ L.length) (h : RowAt b (L.length * 2) (pV L) w) : LieAt ⟨b, 0, none⟩ ((L.take i).length * 2) (pV (L.take i)) w := by
  have h1 := RowAt.lie h ((L.take i).length * 2) (by rw [List.length_take]; omega)
  refine ⟨fun j hj => ?_, h1.2⟩
  rw [h1.1 j hj]
  have e2 := pV_left (L.take i) (L.drop i) hj
  rw [List.take_append_drop] at e2
  exact congrArg some e2.symm
/-- append to a list of the call's own -/
theorem app_own {base : Nat} {A B : List KV} {v : Value} {w : World} (hO : OwnK 2 base 90 v A.length (pV A) w) (ad : Addr) (c : Nat) (hl : LieAt ad (B.length * 2) (pV B) w) (hb : A.length + B.length ≤ 4398046511105) (hbase : base ≤ w.heap.size) (ty : TypeId) :
    ∃ v' w', (Builtin.append_ #[61, 61] ty #[v, .slice (some ad) B.length c]).run Try.prog w = .ok v' w' ∧ OwnK 2 base 90 v' (A ++ B).length (pV (A ++ B)) w' ∧ w.grownBy w' v.ownBlock := by
  obtain ⟨i, z, e1, e2, e3, e4, e5⟩ := elem90.info
  obtain ⟨v', w', hr, hO', hg, _⟩ := run_append_own (P := Try.prog) w base 61 ty 90 i z 2 24 elem90.slice e1 e2 e3 e4 e5 (by decide) v A.length _ hO ad B.length c (row (B.length * 2) (pV B)) (by rw [row_length]) (fun j u hj => by
    obtain ⟨hj', rfl⟩ := row_some hj
    exact hl.1 j hj') (fun u hu => by
    obtain ⟨j, _, rfl⟩ := List.mem_map.1 hu
    exact pV_one _ _) (by unfold maxLen; omega) (by omega) hbase
  refine ⟨v', w', hr, ?_, hg⟩
  unfold OwnK
  rw [row_append (A.length * 2) (B.length * 2) (pV A) (pV B) (pV (A ++ B)) (fun j hj => pV_left A B hj) (fun j _ => pV_right A B j), ← Nat.add_mul] at hO'
  rw [List.length_append]
  exact hO'
theorem OwnK.dl {base xb : Nat} {L : List KV} {v : Value} {w : World} (h : OwnK 2 base 90 v L.length (pV L) w) (hx : xb < base) : DL xb L v w := by
  rcases Nat.eq_zero_or_pos L.length with h0 | h0
  · have hL : L = [] := List.eq_nil_of_length_eq_zero h0
    rcases h.2 with ⟨h1, _⟩ | ⟨b, cap, cur, rfl, hb, hg, hc, _⟩
    · exact .inl ⟨h1, hL⟩
    · refine .inr ⟨b, cap, rfl, hc, by omega, fun j hj => ?_, fun j hj => ?_, (Array.getElem?_eq_some_iff.1 hg).1⟩
      · omega
      · omega
  · obtain ⟨b, cap, rfl, hb, hc, _, hr⟩ := h.lies h0
    exact .inr ⟨b, cap, rfl, hc, by omega, hr⟩
theorem DL.setCell {xb : Nat} {L : List KV} {v u : Value} {w : World} (h : DL xb L v w) : DL xb L v (w.setCell ⟨xb, 0, none⟩ u) := by
  rcases h with h | ⟨b, cv, h1, h2, h3, h4⟩
  · exact .inl h
  · exact .inr ⟨b, cv, h1, h2, h3, h4.other ⟨xb, 0, none⟩ u (Ne.symm h3)⟩
/-- a Sorted of the document's that turned -/
def DcR (xb : Nat) (L : List KV) (w w' : World) : Prop := ∃ v', DcAt xb L v' w' ∧ But xb w w'
theorem own_made (W : World) : OwnK 2 W.heap.size 90 (.slice (some ⟨W.heap.size, 0, none⟩) 0 0) ([] : List KV).length (pV []) (W.alloc (.cells #[] 90)) := by
  unfold OwnK
  exact World.ownsRow_made W #[] 0 (Nat.le_refl _) (Nat.zero_le _) rfl
theorem ext_grown {w X Y : World} {v : Value} {L : List KV} (h : Ext w X) (hO : OwnK 2 w.heap.size 90 v L.length (pV L) X) (hg : X.grownBy Y v.ownBlock) : Ext w Y :=
  Below.trans h (below_grown (Below.size h) hg fun b hb => (hO.lt b hb).1)
set_option maxRecDepth 20000 in
set_option maxHeartbeats 4000000 in
theorem rdel_go {xb : Nat} {L : List KV} {v : Value} {w : World} (h : DcAt xb L v w) (hle : L.length ≤ 4398046511104) (x : Int) : Calls Try.prog 38 #[.pointer (some ⟨xb, 0, none⟩), .int .i64 x] w fun e w' => e = .returned (.bool (kget L x).isSome) ∧ DcR xb (kdel L x) w w' := by
  obtain ⟨ov, cv, hv, hlc, hbb⟩ := h.sl.form
  have hdl := h.sl
  subst hv
  replace hdl := hideit hdl
  have hC := hideit h.row
  have hri := hideit h.ris
  replace hbb := hideit hbb
  clear h
  go_enter Try.func38, Try.ntmps38
  go_upto_region 0 with (fail)
  refine wp_region_lit ?_
  refine xm [some (.bool false)] (by kernel_rfl) (by simp [xr, go_sem]) ?_
  simp only [xw, p0, p1, p2, p3]
  go_upto_region 1 with (fail)
  refine wp_region_lit ?_
  refine xm [some (.int .i64 0)] (by kernel_rfl) (by simp [xr, go_sem]) ?_
  simp only [xw, p0, p1, p2, p3]
  go_wp2
  go_loopw [5] (fun iv X => ∃ m : Nat, m ≤ L.length ∧ iv = .int .i64 (m : Int) ∧ X = w ∧ ∀ j, j < m → (L.getD j kd).1 ≠ x) (fun iv _ => L.length - (intOf iv).toNat)
  case atStart => exact ⟨0, Nat.zero_le _, rfl, rfl, fun j hj => by omega⟩
  case round =>
    obtain ⟨m, hm, rfl, rfl, hno⟩ := hrel
    replace hno := hideit hno
    by_cases hlt : m < L.length
    · have i1 : (m : Int) < (L.length : Int) := by omega
      obtain ⟨b, rfl, hbx, hb⟩ := hbb.out (by omega)
      replace hb := hideit hb
      obtain ⟨p, hp⟩ : ∃ p, L.getD m kd = p := ⟨_, rfl⟩
      have b0 : wr.cell? ⟨b, m * 2, none⟩ = some (.int .i64 p.1) := by rw [hb.out.1 (m * 2) (by omega), pV_even, hp]
      have b1 : wr.cell? ⟨b, m * 2 + 1, none⟩ = some (.string p.2) := by rw [hb.out.1 (m * 2 + 1) (by omega), pV_odd, hp]
      replace hp := hideit hp
      go_upto_region 2 with (fail)
      refine wp_region_lit ?_
      have m1 : wr.cell? ⟨xb, 0, none⟩ = some (.slice (some ⟨b, 0, none⟩) L.length cv) := hC.out.1 0 (by decide)
      refine xm [some (.int .i64 (m : Int)), some (.pointer (some ⟨xb, 0, none⟩)), some (.pointer (some ⟨xb, 0, none⟩)), some (.pointer (some ⟨xb, 0, none⟩)), some (.slice (some ⟨b, 0, none⟩) L.length cv), some (.int .i64 (L.length : Int)), some (.bool true)] (by kernel_rfl) (by simp [xr, go_sem, m1, i1]) ?_
      simp only [xw, p0, p1, p2, p3]
      clear m1
      by_cases hq : p.1 = x
      · go_upto_region 4 with (fail)
        refine wp_region_lit ?_
        have m2 : wr.cell? ⟨xb, 0, none⟩ = some (.slice (some ⟨b, 0, none⟩) L.length cv) := hC.out.1 0 (by decide)
        refine xm [some (.pointer (some ⟨xb, 0, none⟩)), some (.pointer (some ⟨xb, 0, none⟩)), some (.pointer (some ⟨xb, 0, none⟩)), some (.slice (some ⟨b, 0, none⟩) L.length cv), some (.int .i64 (m : Int))] (by kernel_rfl) (by simp [xr, go_sem, m2]) ?_
        simp only [xw, p0, p1, p2, p3]
        clear m2
        refine xm [some (.pointer (some ⟨b, m * 2, none⟩))] (by kernel_rfl) (by simp [xr, go_sem, i1]) ?_
        simp only [xw, p0, p1, p2, p3]
        refine xm [some (.pointer (some ⟨b, m * 2, none⟩))] (by kernel_rfl) (by simp [xr, go_sem]) ?_
        simp only [xw, p0, p1, p2, p3]
        refine xm [some (.int .i64 (p.1)), some (.int .i64 (x)), some (.bool true)] (by kernel_rfl) (by simp [xr, go_sem, b0, hq]) ?_
        simp only [xw, p0, p1, p2, p3]
        have hm1 : IntKind.i64.wrap ((m : Int) + 1) = ((m + 1 : Nat) : Int) := by rw [IntKind.wrap_i64]; omega
        obtain ⟨ad, hcut, hla⟩ := cut_hi b cv (m + 1) L (by omega) hlc
        have hlo := hideit (lo_lie (i := m) (by omega) hb.out.drew)
        replace hla := hideit (hla _ hb.out.drew)
        replace hcut := hideit hcut
        have hbb9 : Hid (xb < wr.heap.size) := hC.out.2.2
        go_upto_region 5 with (fail)
        replace hC := hideit hC.out.drew
        refine wp_region_ladz (fun X => Ext wr.drew X) [19] [(false, 0), (false, 2), (false, 3), (false, 4), (false, 5), (false, 6), (false, 7), (false, 9), (false, 10), (false, 11), (false, 12), (false, 13), (false, 14), (false, 15), (true, 1), (true, 8), (true, 16), (false, 17), (false, 18), (true, 19)] (by kernel_rfl) (by kernel_rfl) (by decide +kernel) (by decide +kernel) (by decide +kernel) (by decide +kernel) (Ext.refl _) ?_
        refine wpZ_f _ (.pointer (some ⟨xb, 0, none⟩)) rfl rfl (fun X _ => by simp [go_sem]) ?_
        simp only [List.getElem_toArray, List.getElem_cons_zero, Act.put, List.setIfInBounds_toArray, List.set_cons_zero, List.set_cons_succ]
        refine wpZ_f _ (.pointer (some ⟨xb, 0, none⟩)) rfl rfl (fun X _ => by simp [go_sem]) ?_
        simp only [List.getElem_toArray, List.getElem_cons_zero, List.getElem_cons_succ, Act.put, List.setIfInBounds_toArray, List.set_cons_zero, List.set_cons_succ]
        refine wpZ_f _ (.pointer (some ⟨xb, 0, none⟩)) rfl rfl (fun X _ => by simp [go_sem]) ?_
        simp only [List.getElem_toArray, List.getElem_cons_zero, List.getElem_cons_succ, Act.put, List.setIfInBounds_toArray, List.set_cons_zero, List.set_cons_succ]
        refine wpZ_f _ (.pointer (some ⟨xb, 0, none⟩)) rfl rfl (fun X _ => by simp [go_sem]) ?_
        simp only [List.getElem_toArray, List.getElem_cons_zero, List.getElem_cons_succ, Act.put, List.setIfInBounds_toArray, List.set_cons_zero, List.set_cons_succ]
        refine wpZ_f _ (.slice (some ⟨b, 0, none⟩) L.length cv) rfl rfl (fun X hX => by have m3 : X.cell? ⟨xb, 0, none⟩ = some (.slice (some ⟨b, 0, none⟩) L.length cv) := (hC.out.carry hX).1 0 (by decide); simp [go_sem, m3]) ?_
        simp only [List.getElem_toArray, List.getElem_cons_zero, List.getElem_cons_succ, Act.put, List.setIfInBounds_toArray, List.set_cons_zero, List.set_cons_succ]
        refine wpZ_f _ (.int .i64 (m : Int)) rfl rfl (fun X _ => by simp [go_sem]) ?_
        simp only [List.getElem_toArray, List.getElem_cons_zero, List.getElem_cons_succ, Act.put, List.setIfInBounds_toArray, List.set_cons_zero, List.set_cons_succ]
        refine wpZ_f _ (.slice (some ⟨b, 0, none⟩) (L.take m).length cv) rfl rfl (fun X hX => cut_lo b cv m L (by omega) hlc (.tmp 30) (.tmp 31) rfl rfl rfl) ?_
        simp only [List.getElem_toArray, List.getElem_cons_zero, List.getElem_cons_succ, Act.put, List.setIfInBounds_toArray, List.set_cons_zero, List.set_cons_succ]
        refine wpZ_f _ (.pointer (some ⟨xb, 0, none⟩)) rfl rfl (fun X _ => by simp [go_sem]) ?_
        simp only [List.getElem_toArray, List.getElem_cons_zero, List.getElem_cons_succ, Act.put, List.setIfInBounds_toArray, List.set_cons_zero, List.set_cons_succ]
        refine wpZ_f _ (.pointer (some ⟨xb, 0, none⟩)) rfl rfl (fun X _ => by simp [go_sem]) ?_
        simp only [List.getElem_toArray, List.getElem_cons_zero, List.getElem_cons_succ, Act.put, List.setIfInBounds_toArray, List.set_cons_zero, List.set_cons_succ]
        refine wpZ_f _ (.pointer (some ⟨xb, 0, none⟩)) rfl rfl (fun X _ => by simp [go_sem]) ?_
        simp only [List.getElem_toArray, List.getElem_cons_zero, List.getElem_cons_succ, Act.put, List.setIfInBounds_toArray, List.set_cons_zero, List.set_cons_succ]
        refine wpZ_f _ (.slice (some ⟨b, 0, none⟩) L.length cv) rfl rfl (fun X hX => by have m4 : X.cell? ⟨xb, 0, none⟩ = some (.slice (some ⟨b, 0, none⟩) L.length cv) := (hC.out.carry hX).1 0 (by decide); simp [go_sem, m4]) ?_
        simp only [List.getElem_toArray, List.getElem_cons_zero, List.getElem_cons_succ, Act.put, List.setIfInBounds_toArray, List.set_cons_zero, List.set_cons_succ]
        refine wpZ_f _ (.int .i64 (m : Int)) rfl rfl (fun X _ => by simp [go_sem]) ?_
        simp only [List.getElem_toArray, List.getElem_cons_zero, List.getElem_cons_succ, Act.put, List.setIfInBounds_toArray, List.set_cons_zero, List.set_cons_succ]
        refine wpZ_f _ (.int .i64 (((m + 1 : Nat) : Int))) rfl rfl (fun X _ => by simp [go_sem, hm1]) ?_
        simp only [List.getElem_toArray, List.getElem_cons_zero, List.getElem_cons_succ, Act.put, List.setIfInBounds_toArray, List.set_cons_zero, List.set_cons_succ]
        refine wpZ_f _ (.slice (some ad) (L.drop (m + 1)).length (cv - (m + 1))) rfl rfl (fun X hX => hcut.out _ _ _ (.tmp 37) (.tmp 39) rfl rfl rfl) ?_
        simp only [List.getElem_toArray, List.getElem_cons_zero, List.getElem_cons_succ, Act.put, List.setIfInBounds_toArray, List.set_cons_zero, List.set_cons_succ]
        have hO1 := hideit (own_made wr.drew)
        have hE1 : Hid (Ext wr.drew (wr.drew.alloc (.cells #[] 90))) := (Below.refl _ _).alloc (Nat.le_refl _) _
        refine wpZ_to _ (.slice (some ⟨wr.drew.heap.size, 0, none⟩) 0 0) (wr.drew.alloc (.cells #[] 90)) rfl rfl (by simp [go_sem]) (fun X => Ext wr.drew X) (.inr fun X hX => hX) hE1.out ?_
        simp only [List.getElem_toArray, List.getElem_cons_zero, List.getElem_cons_succ, Act.put, List.setIfInBounds_toArray, List.set_cons_zero, List.set_cons_succ]
        generalize wr.drew.alloc (.cells #[] 90) = x1 at hO1 hE1 ⊢
        obtain ⟨v1, ev1⟩ : ∃ v1, v1 = Value.slice (some ⟨wr.drew.heap.size, 0, none⟩) 0 0 := ⟨_, rfl⟩
        rw [← ev1] at hO1 ⊢
        clear ev1
        obtain ⟨v2, x2, hr2, hO2, hg2⟩ := app_own (A := []) (B := L.take m) hO1.out ⟨b, 0, none⟩ cv (hlo.out.carry hE1.out) (by simp <;> omega) (Below.size hE1.out) 61
        have hE2 : Hid (Ext wr.drew x2) := ext_grown hE1.out hO1.out hg2
        refine wpZ_to _ v2 x2 rfl rfl (exec_append (.tmp 26) (.tmp 32) 61 61 rfl _ _ v2 rfl rfl hr2) (fun X => Ext wr.drew X) (.inr fun X hX => hX) hE2.out ?_
        simp only [List.getElem_toArray, List.getElem_cons_zero, List.getElem_cons_succ, Act.put, List.setIfInBounds_toArray, List.set_cons_zero, List.set_cons_succ]
        clear hr2 hg2
        replace hO2 := hideit hO2
        obtain ⟨v3, x3, hr3, hO3, hg3⟩ := app_own (A := [] ++ L.take m) (B := L.drop (m + 1)) hO2.out ad (cv - (m + 1)) (hla.out.carry hE2.out) (by simp <;> omega) (Below.size hE2.out) 61
        have hE3 : Hid (Ext wr.drew x3) := ext_grown hE2.out hO2.out hg3
        refine wpZ_to _ v3 x3 rfl rfl (exec_append (.tmp 33) (.tmp 40) 61 61 rfl _ _ v3 rfl rfl hr3) (fun X => Ext wr.drew X) (.inr fun X hX => hX) hE3.out ?_
        simp only [List.getElem_toArray, List.getElem_cons_zero, List.getElem_cons_succ, Act.put, List.setIfInBounds_toArray, List.set_cons_zero, List.set_cons_succ]
        clear hr3 hg3
        replace hO3 := hideit hO3
        refine wpZ_f _ (.pointer (some ⟨xb, 0, none⟩)) rfl rfl (fun X _ => by simp [go_sem]) ?_
        simp only [List.getElem_toArray, List.getElem_cons_zero, List.getElem_cons_succ, Act.put, List.setIfInBounds_toArray, List.set_cons_zero, List.set_cons_succ]
        refine wpZ_f _ (.pointer (some ⟨xb, 0, none⟩)) rfl rfl (fun X _ => by simp [go_sem]) ?_
        simp only [List.getElem_toArray, List.getElem_cons_zero, List.getElem_cons_succ, Act.put, List.setIfInBounds_toArray, List.set_cons_zero, List.set_cons_succ]
        have M0 : x3.cell? ⟨xb, 0, none⟩ = some _ := (hC.out.carry hE3.out).1 0 (by decide)
        have M1 : x3.frozen? ⟨xb, 0, none⟩ = false := (hC.out.carry hE3.out).2.1 0 (by decide)
        refine wpZ_st _ (x3.setCell ⟨xb, 0, none⟩ v3) rfl rfl (by obtain ⟨so, sc, es⟩ := hO3.out.form; simp [go_sem, M0, M1, es]) (fun _ => True) (.inl (by simp)) trivial ?_
        simp only [List.getElem_toArray, List.getElem_cons_zero, List.getElem_cons_succ, Act.put]
        refine wpZ_nil ?_
        have hres : [] ++ L.take m ++ L.drop (m + 1) = kdel L x := by
          rw [List.nil_append, ← hq, ← hp.out]
          exact (del_at hri.out hlt).symm
        rw [hres] at hO3
        have hD : Hid (DL xb (kdel L x) v3 (x3.setCell ⟨xb, 0, none⟩ v3)) := (hO3.out.dl hbb9.out).setCell
        have hR : Hid (RowAt xb 1 (fun _ => v3) (x3.setCell ⟨xb, 0, none⟩ v3)) := ((hC.out.carry hE3.out).set 0 v3).congr fun j hj => by rw [if_pos (by omega)]
        have hB : Hid (But xb wr (x3.setCell ⟨xb, 0, none⟩ v3)) := (But.of_ext (Ext.trans (Ext.draw (Ext.refl wr)) hE3.out)).set 0 v3
        generalize x3.setCell ⟨xb, 0, none⟩ v3 = y at hD hR hB ⊢
        clear hO1 hO2 hO3 hE1 hE2 hE3 M0 M1 hcut hla hlo hres hC
        go_upto_region 6 with (fail)
        refine wp_region_lit ?_
        refine xm [some (.bool true)] (by kernel_rfl) (by simp [xr, go_sem]) ?_
        simp only [xw, p0, p1, p2, p3]
        go_wp2
        go_ret
        have e := kget_at hri.out hlt
        rw [hp.out, hq] at e
        exact ⟨by rw [e]; rfl, v3, ⟨hR.out, hD.out, hri.out.del x⟩, hB.out⟩
      · go_upto_region 4 with (fail)
        refine wp_region_lit ?_
        have m2 : wr.cell? ⟨xb, 0, none⟩ = some (.slice (some ⟨b, 0, none⟩) L.length cv) := hC.out.1 0 (by decide)
        refine xm [some (.pointer (some ⟨xb, 0, none⟩)), some (.pointer (some ⟨xb, 0, none⟩)), some (.pointer (some ⟨xb, 0, none⟩)), some (.slice (some ⟨b, 0, none⟩) L.length cv), some (.int .i64 (m : Int))] (by kernel_rfl) (by simp [xr, go_sem, m2]) ?_
        simp only [xw, p0, p1, p2, p3]
        clear m2
        refine xm [some (.pointer (some ⟨b, m * 2, none⟩))] (by kernel_rfl) (by simp [xr, go_sem, i1]) ?_
        simp only [xw, p0, p1, p2, p3]
        refine xm [some (.pointer (some ⟨b, m * 2, none⟩))] (by kernel_rfl) (by simp [xr, go_sem]) ?_
        simp only [xw, p0, p1, p2, p3]
        refine xm [some (.int .i64 (p.1)), some (.int .i64 (x)), some (.bool false)] (by kernel_rfl) (by simp [xr, go_sem, b0, hq]) ?_
        simp only [xw, p0, p1, p2, p3]
        go_wp2
        exact ⟨⟨m + 1, by omega, by go_num, by simp, fun j hj => by
          by_cases e : j = m
          · rw [e, hp.out]; exact hq
          · exact hno.out j (by omega)⟩, by simp [intOf]; omega⟩
    · have i1 : ¬ (m : Int) < (L.length : Int) := by omega
      go_upto_region 2 with (fail)
      refine wp_region_lit ?_
      have m1 : wr.cell? ⟨xb, 0, none⟩ = some (.slice ov L.length cv) := hC.out.1 0 (by decide)
      refine xm [some (.int .i64 (m : Int)), some (.pointer (some ⟨xb, 0, none⟩)), some (.pointer (some ⟨xb, 0, none⟩)), some (.pointer (some ⟨xb, 0, none⟩)), some (.slice ov L.length cv), some (.int .i64 (L.length : Int)), some (.bool false)] (by kernel_rfl) (by simp [xr, go_sem, m1, i1]) ?_
      simp only [xw, p0, p1, p2, p3]
      clear m1
      go_upto_region 7 with (fail)
      refine wp_region_lit ?_
      refine xm [some (.bool false)] (by kernel_rfl) (by simp [xr, go_sem]) ?_
      simp only [xw, p0, p1, p2, p3]
      go_wp2
      go_ret
      have e : m = L.length := by omega
      have e2 := kget_end (x := x) (fun j hj => hno.out j (by omega))
      exact ⟨by rw [e2]; rfl, _, ⟨hC.out, by rw [kdel_none e2]; exact hdl.out, hri.out.del x⟩, But.refl _ _⟩
end Go.Proofs.Ytboncdlihgpepaa
