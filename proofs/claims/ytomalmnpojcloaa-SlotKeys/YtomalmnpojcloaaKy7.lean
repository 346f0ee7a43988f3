/-
  What a Reader of a block tells of keys whose number may not be.
-/
import Derived.Test.YtomalmnpojcloaaKy6
namespace Go.Proofs.Ytomalmnpojcloaa
open Go.RowKit Go.BigFrame
set_option maxRecDepth 20000 in
set_option maxHeartbeats 2000000 in
theorem kbody_no (lo r : Nat) (b : Nat → BitVec 8) (w : World) (h : Rd lo r 512 b false w) (hlo : lo ≤ r) (hn : ¬ ((b 4).toNat = 1 ∨ (b 4).toNat = 2)) :
    Calls Try.prog 35 #[.pointer (some ⟨r, 0, none⟩)] w fun e w' => ∃ oa n cp t, e = .returned (.tuple #[.agg (row 33 (kyv (.slice oa n cp) t)).toArray, .bool false]) ∧ But r w w' := by
  obtain ⟨B, hB⟩ : ∃ B, B = eqN 4 b (bT [75, 69, 89, 83]) := ⟨_, rfl⟩
  replace hB := hideit hB
  have hrw := hideit h.lt
  obtain ⟨Q1, S1, hE1⟩ := two37 w
  replace Q1 := hideit Q1
  replace S1 := hideit S1
  have R1 := hideit (h.ext hE1)
  have hB1 := hideit (But.of_ext (c := r) hE1)
  clear h hE1
  go_enter Try.func35, Try.ntmps35
  go_upto_region 0 with (fail)
  refine wp_region_lit ?_
  refine wpList_to rfl (.pointer (some ⟨w.heap.size, 0, none⟩)) (w.alloc (.cells zk37 37)) (by simp [go_sem, zk37]) ?_
  simp only [Act.put, List.setIfInBounds_toArray, List.set_cons_zero, List.set_cons_succ]
  go_upto_region 1 with (fail)
  refine wp_region_lit ?_
  refine wpList_to rfl (.pointer (some ⟨w.heap.size + 1, 0, none⟩)) ((w.alloc (.cells zk37 37)).alloc (.cells zk37 37)) (by simp [go_sem, zk37]) ?_
  simp only [Act.put, List.setIfInBounds_toArray, List.set_cons_zero, List.set_cons_succ]
  generalize (w.alloc (.cells zk37 37)).alloc (.cells zk37 37) = w1 at *
  obtain ⟨q, hq⟩ : ∃ q, q = w.heap.size := ⟨_, rfl⟩
  have hwq : Hid (w.heap.size ≤ q) := hideit (by omega)
  have hrq : Hid (r < q) := hideit (by have := hrw.out; omega)
  rw [← hq] at Q1 S1 ⊢
  clear hq
  obtain ⟨s, hs⟩ : ∃ s, s = q + 1 := ⟨_, rfl⟩
  have hqs : Hid (q < s) := hideit (by omega)
  have hrs : Hid (r < s) := hideit (by have := hrq.out; omega)
  have hws : Hid (w.heap.size ≤ s) := hideit (by have := hwq.out; omega)
  rw [← hs] at S1 ⊢
  clear hs
  have hN := next_ok lo r 512 b ⟨#[75, 69, 89, 83]⟩ [75, 69, 89, 83] w1 R1.out keys_mark rfl (by decide) (by decide)
  rw [← hB.out] at hN
  replace hN := hideit hN
  go_upto_region 3 with (go_at_call 27; refine hN.out.mono ?_; rintro e w2 ⟨rfl, hR2, hK2⟩; replace hR2 := hideit hR2; replace hK2 := hideit hK2)
  have Q2 := hideit (Q1.out.but hK2.out (by have := hrq.out; omega))
  have S2 := hideit (S1.out.but hK2.out (by have := hrs.out; omega))
  have hB2 := hideit (hB1.out.trans hK2.out)
  clear hN Q1 S1 hB1 hK2 R1
  obtain ⟨y, hy⟩ : ∃ y, y = leN (shF b 4) 1 := ⟨_, rfl⟩
  have hyn : y.toNat = (b 4).toNat := by rw [hy, le1]; rfl
  have hn8 := (b 4).isLt
  have hu : IntKind.i64.wrap (y.toNat : Int) = ((b 4).toNat : Int) := by rw [IntKind.wrap_i64, hyn]; omega
  replace hy := hideit hy
  replace hyn := hideit hyn
  refine wp_region_lit ?_
  refine wpList_run rfl (.pointer (some ⟨r, 0, none⟩)) (by simp [go_sem]) ?_
  simp only [Act.put, List.setIfInBounds_toArray, List.set_cons_zero, List.set_cons_succ]
  refine wpList_run rfl (.pointer (some ⟨r, 0, none⟩)) (by simp [go_sem]) ?_
  simp only [Act.put, List.setIfInBounds_toArray, List.set_cons_zero, List.set_cons_succ]
  refine wpList_call rfl (by simp [go_sem]; exact ⟨rfl, rfl⟩) ?_
  refine (ruint_ok lo r 508 1 (shF b 4) _ hR2.out (by decide) (by decide) (by decide)).mono ?_
  rintro e w3 ⟨he, hR3, hK3⟩
  rw [← hy.out] at he
  subst he
  refine ⟨_, rfl, ?_⟩
  simp only [Act.put, List.setIfInBounds_toArray, List.set_cons_zero, List.set_cons_succ]
  have Q3 := hideit (Q2.out.but hK3 (by have := hrq.out; omega))
  have S3 := hideit (S2.out.but hK3 (by have := hrs.out; omega))
  have hB3 := hideit (hB2.out.trans hK3)
  rw [shF_two] at hR3
  replace hR3 := hideit hR3
  clear Q2 S2 hB2 hK3 hR2
  refine wpList_run rfl (.int .i64 ((b 4).toNat : Int)) (by simp [go_sem, hu]) ?_
  simp only [Act.put, List.setIfInBounds_toArray, List.set_cons_zero, List.set_cons_succ]
  clear hu hy hyn
  refine wpList_call rfl (by simp [go_sem]; exact ⟨rfl, rfl⟩) ?_
  refine (get_any lo r 507 (b 4).toNat (shF b (4 + 1)) _ hR3.out hlo (by omega) (by decide)).mono ?_
  rintro e w4 ⟨v, rfl, hK4, hG⟩
  refine ⟨_, rfl, ?_⟩
  simp only [Act.put, List.setIfInBounds_toArray, List.set_cons_zero, List.set_cons_succ]
  have Q4 := hideit (Q3.out.but hK4 (by have := hrq.out; omega))
  have S4 := hideit (S3.out.but hK4 (by have := hrs.out; omega))
  have hB4 := hideit (hB3.out.trans hK4)
  have hsw3 := S3.out.2.2
  rcases hG with ⟨hf1, hO4, hR4⟩ | ⟨hf1, rfl, k9, p9, hR4⟩
  · obtain ⟨ov, cv, rfl⟩ := hO4.form
    clear hO4
    by_cases h32 : 32 ≤ 507 - 68 * (b 4).toNat
    · clear hf1
      replace hR4 := hideit hR4
      have e0 := S4.out.1 0 (by decide)
      have g0 := S4.out.2.1 0 (by decide)
      clear Q3 S3 hB3 hR3 hK4 hsw3
      go_upto_region 4 with (fail)
      clear e0 g0
      have S5 := hideit (kyv_set (v := .slice ov (b 4).toNat cv) S4.out)
      have Q5 := hideit (Q4.out.other ⟨s, 0, none⟩ (.slice ov (b 4).toNat cv) (by show s ≠ q; have := hqs.out; omega))
      have R5 := hideit (hR4.out.but (but_setCell w4 s 0 (.slice ov (b 4).toNat cv)) (.inr hrs.out) hlo)
      have hB5 := hideit (but_newc hB4.out hws.out (.slice ov (b 4).toNat cv) 0)
      clear S4 Q4 hR4 hB4
      generalize w4.setCell ⟨s, 0, none⟩ (.slice ov (b 4).toNat cv) = w5 at *
      have kf := hideit (fill_ok lo r (507 - 68 * (b 4).toNat) s 33 1 32 (shF (shF b (4 + 1)) (68 * (b 4).toNat)) (kyv (.slice ov (b 4).toNat cv) zF) w5 R5.out (by omega) (by omega) S5.out (by have := hrs.out; omega) (by decide) (by decide))
      go_upto_region 5 with (go_at_call 28; refine kf.out.mono ?_; rintro e w6 ⟨rfl, X, hX1, hX2, hX3⟩; replace hX1 := hideit hX1; replace hX2 := hideit hX2; replace hX3 := hideit hX3)
      have S6 : Hid (RowAt s 33 (kyv (.slice ov (b 4).toNat cv) (shF (shF b (4 + 1)) (68 * (b 4).toNat))) w6) := hideit (by rw [hX2.out]; exact ((S5.out.but hX1.out (by have := hrs.out; omega)).part 1 32 _ (by decide)).congr fun j hj => ky_fill _ _ j hj)
      have Q6 : Hid (RowAt q 33 (kyv (.slice none 0 0) zF) w6) := hideit (by rw [hX2.out]; exact (Q5.out.but hX1.out (by have := hrq.out; omega)).cellsOther (by have := hqs.out; omega) _ _)
      have hB6 : Hid (But r w w6) := hideit (by rw [hX2.out]; exact but_new (hB5.out.trans hX1.out) hws.out _)
      clear kf hX1 hX2 hX3 S5 Q5 R5 hB5
      cases B with
      | true =>
        have hC0 : RowAt s 33 (kyv (.slice ov (b 4).toNat cv) (shF (shF b (4 + 1)) (68 * (b 4).toNat))) w6.drew := S6.out.drew
        refine wp_region_lad (fun X => RowAt s 33 (kyv (.slice ov (b 4).toNat cv) (shF (shF b (4 + 1)) (68 * (b 4).toNat))) X) [(false, 0), (false, 1), (false, 2), (false, 3), (false, 4), (true, 5), (false, 6), (true, 7), (true, 8)] (by kernel_rfl) (by kernel_rfl) (by decide +kernel) (by decide +kernel) (by decide +kernel) (by decide +kernel) hC0 ?_
        refine wpX_f _ (.agg (row 33 (kyv (.slice ov (b 4).toNat cv) (shF (shF b (4 + 1)) (68 * (b 4).toNat)))).toArray) rfl rfl (fun X hX => exec_load 37 (.tmp 4) rfl s 33 (kyv (.slice ov (b 4).toNat cv) (shF (shF b (4 + 1)) (68 * (b 4).toNat))) rfl hX Try.underlying37 rfl info37) ?_
        simp only [List.getElem_toArray, List.getElem_cons_zero, Act.put, List.setIfInBounds_toArray, List.set_cons_zero, List.set_cons_succ]
        refine wpX_f _ (.bool true) rfl rfl (fun X _ => by simp [go_sem]) ?_
        simp only [List.getElem_toArray, List.getElem_cons_zero, List.getElem_cons_succ, Act.put, List.setIfInBounds_toArray, List.set_cons_zero, List.set_cons_succ]
        refine wpX_f _ (.bool true) rfl rfl (fun X _ => by simp [go_sem]) ?_
        simp only [List.getElem_toArray, List.getElem_cons_zero, List.getElem_cons_succ, Act.put, List.setIfInBounds_toArray, List.set_cons_zero, List.set_cons_succ]
        refine wpX_f _ (.pointer (some ⟨s, 0, none⟩)) rfl rfl (fun X _ => by simp [go_sem]) ?_
        simp only [List.getElem_toArray, List.getElem_cons_zero, List.getElem_cons_succ, Act.put, List.setIfInBounds_toArray, List.set_cons_zero, List.set_cons_succ]
        refine wpX_f _ (.slice ov (b 4).toNat cv) rfl rfl (fun X hX => by simp [go_sem, show X.cell? ⟨s, 0, none⟩ = some (.slice ov (b 4).toNat cv) from hX.1 0 (by decide)]) ?_
        simp only [List.getElem_toArray, List.getElem_cons_zero, List.getElem_cons_succ, Act.put, List.setIfInBounds_toArray, List.set_cons_zero, List.set_cons_succ]
        refine wpX_call _ rfl rfl (by simp [go_sem]) ((maybe_len ov (b 4).toNat cv hn _).mono ?_)
        rintro e X ⟨rfl, hX⟩
        refine ⟨_, rfl, fun Y => RowAt s 33 (kyv (.slice ov (b 4).toNat cv) (shF (shF b (4 + 1)) (68 * (b 4).toNat))) Y, fun _ h => h, S6.out.drew.carry hX, ?_⟩
        simp only [List.getElem_toArray, List.getElem_cons_zero, List.getElem_cons_succ, Act.put, List.setIfInBounds_toArray, List.set_cons_zero, List.set_cons_succ]
        refine wpX_f _ (.bool false) rfl rfl (fun X _ => by simp [go_sem]) ?_
        simp only [List.getElem_toArray, List.getElem_cons_zero, List.getElem_cons_succ, Act.put, List.setIfInBounds_toArray, List.set_cons_zero, List.set_cons_succ]
        have hXX : Hid (Ext w6.drew X) := hideit hX
        clear hX
        have Q7 := hideit (Q6.out.drew.carry hXX.out)
        have S7 := hideit (S6.out.drew.carry hXX.out)
        have hB7 := hideit (hB6.out.ext (Ext.trans (Ext.refl w6).draw hXX.out))
        clear Q6 hB6 S6 hXX hC0
        refine wpX_st _ (X.setCells q 0 (row 33 (kyv (.slice ov (b 4).toNat cv) (shF (shF b (4 + 1)) (68 * (b 4).toNat))))) rfl rfl (exec_store 37 (.tmp 2) (.tmp 18) rfl q 33 _ (kyv (.slice ov (b 4).toNat cv) (shF (shF b (4 + 1)) (68 * (b 4).toNat))) rfl rfl Q7.out info37 (kyv_one _ _ _ _)) (fun Y => RowAt s 33 (kyv (.slice ov (b 4).toNat cv) (shF (shF b (4 + 1)) (68 * (b 4).toNat))) Y) (fun _ h => h) (S7.out.cellsOther (by have := hqs.out; omega) _ _) ?_
        simp only [List.getElem_toArray, List.getElem_cons_zero, List.getElem_cons_succ, Act.put]
        have h9 : Hid (RowAt q 33 (kyv (.slice ov (b 4).toNat cv) (shF (shF b (4 + 1)) (68 * (b 4).toNat))) (X.setCells q 0 (row 33 (kyv (.slice ov (b 4).toNat cv) (shF (shF b (4 + 1)) (68 * (b 4).toNat)))))) := hideit Q7.out.cells
        have S9 := hideit (S7.out.cellsOther (c := q) (by have := hqs.out; omega) (row 33 (kyv (.slice ov (b 4).toNat cv) (shF (shF b (4 + 1)) (68 * (b 4).toNat)))) 0)
        have hB9 := hideit (but_new (o := 0) hB7.out hwq.out (row 33 (kyv (.slice ov (b 4).toNat cv) (shF (shF b (4 + 1)) (68 * (b 4).toNat)))))
        clear Q7 hB7 S7
        generalize X.setCells q 0 (row 33 (kyv (.slice ov (b 4).toNat cv) (shF (shF b (4 + 1)) (68 * (b 4).toNat)))) = w9 at *
        refine wpX_to _ (.bool false) w9 rfl rfl (by simp [go_sem]) (fun Y => RowAt s 33 (kyv (.slice ov (b 4).toNat cv) (shF (shF b (4 + 1)) (68 * (b 4).toNat))) Y) (fun _ h => h) S9.out ?_
        simp only [List.getElem_toArray, List.getElem_cons_zero, List.getElem_cons_succ, Act.put, List.setIfInBounds_toArray, List.set_cons_zero, List.set_cons_succ]
        refine wpX_nil ?_
        clear S9
        go_wp2
        exact bodyPost_ret (ret_row2 Try.results35 rfl h9.out Try.underlying37 rfl info37) rfl ⟨_, _, _, _, rfl, hB9.out⟩
      | false =>
        have hC0 : RowAt s 33 (kyv (.slice ov (b 4).toNat cv) (shF (shF b (4 + 1)) (68 * (b 4).toNat))) w6.drew := S6.out.drew
        refine wp_region_lad (fun X => RowAt s 33 (kyv (.slice ov (b 4).toNat cv) (shF (shF b (4 + 1)) (68 * (b 4).toNat))) X) [(false, 0), (false, 1), (false, 2), (false, 3), (false, 4), (false, 5), (false, 6), (true, 7), (true, 8)] (by kernel_rfl) (by kernel_rfl) (by decide +kernel) (by decide +kernel) (by decide +kernel) (by decide +kernel) hC0 ?_
        refine wpX_f _ (.agg (row 33 (kyv (.slice ov (b 4).toNat cv) (shF (shF b (4 + 1)) (68 * (b 4).toNat)))).toArray) rfl rfl (fun X hX => exec_load 37 (.tmp 4) rfl s 33 (kyv (.slice ov (b 4).toNat cv) (shF (shF b (4 + 1)) (68 * (b 4).toNat))) rfl hX Try.underlying37 rfl info37) ?_
        simp only [List.getElem_toArray, List.getElem_cons_zero, Act.put, List.setIfInBounds_toArray, List.set_cons_zero, List.set_cons_succ]
        refine wpX_f _ (.bool false) rfl rfl (fun X _ => by simp [go_sem]) ?_
        simp only [List.getElem_toArray, List.getElem_cons_zero, List.getElem_cons_succ, Act.put, List.setIfInBounds_toArray, List.set_cons_zero, List.set_cons_succ]
        refine wpX_f _ (.bool false) rfl rfl (fun X _ => by simp [go_sem]) ?_
        simp only [List.getElem_toArray, List.getElem_cons_zero, List.getElem_cons_succ, Act.put, List.setIfInBounds_toArray, List.set_cons_zero, List.set_cons_succ]
        refine wpX_fskip _ rfl rfl ?_
        simp only [List.getElem_toArray, List.getElem_cons_zero, List.getElem_cons_succ, Act.put, List.setIfInBounds_toArray, List.set_cons_zero, List.set_cons_succ]
        refine wpX_fskip _ rfl rfl ?_
        simp only [List.getElem_toArray, List.getElem_cons_zero, List.getElem_cons_succ, Act.put, List.setIfInBounds_toArray, List.set_cons_zero, List.set_cons_succ]
        refine wpX_fskip _ rfl rfl ?_
        simp only [List.getElem_toArray, List.getElem_cons_zero, List.getElem_cons_succ, Act.put, List.setIfInBounds_toArray, List.set_cons_zero, List.set_cons_succ]
        refine wpX_f _ (.bool false) rfl rfl (fun X _ => by simp [go_sem]) ?_
        simp only [List.getElem_toArray, List.getElem_cons_zero, List.getElem_cons_succ, Act.put, List.setIfInBounds_toArray, List.set_cons_zero, List.set_cons_succ]
        obtain ⟨X, hX⟩ : ∃ X, X = w6.drew := ⟨_, rfl⟩
        have hXX : Hid (Ext w6.drew X) := hideit (by rw [hX]; exact Ext.refl _)
        rw [← hX]
        clear hX
        have Q7 := hideit (Q6.out.drew.carry hXX.out)
        have S7 := hideit (S6.out.drew.carry hXX.out)
        have hB7 := hideit (hB6.out.ext (Ext.trans (Ext.refl w6).draw hXX.out))
        clear Q6 hB6 S6 hXX hC0
        refine wpX_st _ (X.setCells q 0 (row 33 (kyv (.slice ov (b 4).toNat cv) (shF (shF b (4 + 1)) (68 * (b 4).toNat))))) rfl rfl (exec_store 37 (.tmp 2) (.tmp 18) rfl q 33 _ (kyv (.slice ov (b 4).toNat cv) (shF (shF b (4 + 1)) (68 * (b 4).toNat))) rfl rfl Q7.out info37 (kyv_one _ _ _ _)) (fun Y => RowAt s 33 (kyv (.slice ov (b 4).toNat cv) (shF (shF b (4 + 1)) (68 * (b 4).toNat))) Y) (fun _ h => h) (S7.out.cellsOther (by have := hqs.out; omega) _ _) ?_
        simp only [List.getElem_toArray, List.getElem_cons_zero, List.getElem_cons_succ, Act.put]
        have h9 : Hid (RowAt q 33 (kyv (.slice ov (b 4).toNat cv) (shF (shF b (4 + 1)) (68 * (b 4).toNat))) (X.setCells q 0 (row 33 (kyv (.slice ov (b 4).toNat cv) (shF (shF b (4 + 1)) (68 * (b 4).toNat)))))) := hideit Q7.out.cells
        have S9 := hideit (S7.out.cellsOther (c := q) (by have := hqs.out; omega) (row 33 (kyv (.slice ov (b 4).toNat cv) (shF (shF b (4 + 1)) (68 * (b 4).toNat)))) 0)
        have hB9 := hideit (but_new (o := 0) hB7.out hwq.out (row 33 (kyv (.slice ov (b 4).toNat cv) (shF (shF b (4 + 1)) (68 * (b 4).toNat)))))
        clear Q7 hB7 S7
        generalize X.setCells q 0 (row 33 (kyv (.slice ov (b 4).toNat cv) (shF (shF b (4 + 1)) (68 * (b 4).toNat)))) = w9 at *
        refine wpX_to _ (.bool false) w9 rfl rfl (by simp [go_sem]) (fun Y => RowAt s 33 (kyv (.slice ov (b 4).toNat cv) (shF (shF b (4 + 1)) (68 * (b 4).toNat))) Y) (fun _ h => h) S9.out ?_
        simp only [List.getElem_toArray, List.getElem_cons_zero, List.getElem_cons_succ, Act.put, List.setIfInBounds_toArray, List.set_cons_zero, List.set_cons_succ]
        refine wpX_nil ?_
        clear S9
        go_wp2
        exact bodyPost_ret (ret_row2 Try.results35 rfl h9.out Try.underlying37 rfl info37) rfl ⟨_, _, _, _, rfl, hB9.out⟩
    · clear hf1
      replace hR4 := hideit hR4
      have e0 := S4.out.1 0 (by decide)
      have g0 := S4.out.2.1 0 (by decide)
      clear Q3 S3 hB3 hR3 hK4 hsw3
      go_upto_region 4 with (fail)
      clear e0 g0
      have S5 := hideit (kyv_set (v := .slice ov (b 4).toNat cv) S4.out)
      have Q5 := hideit (Q4.out.other ⟨s, 0, none⟩ (.slice ov (b 4).toNat cv) (by show s ≠ q; have := hqs.out; omega))
      have R5 := hideit (hR4.out.but (but_setCell w4 s 0 (.slice ov (b 4).toNat cv)) (.inr hrs.out) hlo)
      have hB5 := hideit (but_newc hB4.out hws.out (.slice ov (b 4).toNat cv) 0)
      clear S4 Q4 hR4 hB4
      generalize w4.setCell ⟨s, 0, none⟩ (.slice ov (b 4).toNat cv) = w5 at *
      have kf := hideit (fill_not lo r (507 - 68 * (b 4).toNat) 32 (shF (shF b (4 + 1)) (68 * (b 4).toNat)) false (some ⟨s, 1, none⟩) w5 R5.out (by unfold okN; rw [decide_eq_false (by omega)]; simp))
      go_upto_region 5 with (go_at_call 28; refine kf.out.mono ?_; rintro e w6 ⟨rfl, hX1, hX2⟩; replace hX1 := hideit hX1; replace hX2 := hideit hX2)
      have S6 := hideit (S5.out.but hX1.out (by have := hrs.out; omega))
      have Q6 := hideit (Q5.out.but hX1.out (by have := hrq.out; omega))
      have hB6 := hideit (hB5.out.trans hX1.out)
      clear kf hX1 hX2 S5 Q5 R5 hB5
      cases B with
      | true =>
        have hC0 : RowAt s 33 (kyv (.slice ov (b 4).toNat cv) zF) w6.drew := S6.out.drew
        refine wp_region_lad (fun X => RowAt s 33 (kyv (.slice ov (b 4).toNat cv) zF) X) [(false, 0), (false, 1), (false, 2), (false, 3), (false, 4), (true, 5), (false, 6), (true, 7), (true, 8)] (by kernel_rfl) (by kernel_rfl) (by decide +kernel) (by decide +kernel) (by decide +kernel) (by decide +kernel) hC0 ?_
        refine wpX_f _ (.agg (row 33 (kyv (.slice ov (b 4).toNat cv) zF)).toArray) rfl rfl (fun X hX => exec_load 37 (.tmp 4) rfl s 33 (kyv (.slice ov (b 4).toNat cv) zF) rfl hX Try.underlying37 rfl info37) ?_
        simp only [List.getElem_toArray, List.getElem_cons_zero, Act.put, List.setIfInBounds_toArray, List.set_cons_zero, List.set_cons_succ]
        refine wpX_f _ (.bool true) rfl rfl (fun X _ => by simp [go_sem]) ?_
        simp only [List.getElem_toArray, List.getElem_cons_zero, List.getElem_cons_succ, Act.put, List.setIfInBounds_toArray, List.set_cons_zero, List.set_cons_succ]
        refine wpX_f _ (.bool true) rfl rfl (fun X _ => by simp [go_sem]) ?_
        simp only [List.getElem_toArray, List.getElem_cons_zero, List.getElem_cons_succ, Act.put, List.setIfInBounds_toArray, List.set_cons_zero, List.set_cons_succ]
        refine wpX_f _ (.pointer (some ⟨s, 0, none⟩)) rfl rfl (fun X _ => by simp [go_sem]) ?_
        simp only [List.getElem_toArray, List.getElem_cons_zero, List.getElem_cons_succ, Act.put, List.setIfInBounds_toArray, List.set_cons_zero, List.set_cons_succ]
        refine wpX_f _ (.slice ov (b 4).toNat cv) rfl rfl (fun X hX => by simp [go_sem, show X.cell? ⟨s, 0, none⟩ = some (.slice ov (b 4).toNat cv) from hX.1 0 (by decide)]) ?_
        simp only [List.getElem_toArray, List.getElem_cons_zero, List.getElem_cons_succ, Act.put, List.setIfInBounds_toArray, List.set_cons_zero, List.set_cons_succ]
        refine wpX_call _ rfl rfl (by simp [go_sem]) ((maybe_len ov (b 4).toNat cv hn _).mono ?_)
        rintro e X ⟨rfl, hX⟩
        refine ⟨_, rfl, fun Y => RowAt s 33 (kyv (.slice ov (b 4).toNat cv) zF) Y, fun _ h => h, S6.out.drew.carry hX, ?_⟩
        simp only [List.getElem_toArray, List.getElem_cons_zero, List.getElem_cons_succ, Act.put, List.setIfInBounds_toArray, List.set_cons_zero, List.set_cons_succ]
        refine wpX_f _ (.bool false) rfl rfl (fun X _ => by simp [go_sem]) ?_
        simp only [List.getElem_toArray, List.getElem_cons_zero, List.getElem_cons_succ, Act.put, List.setIfInBounds_toArray, List.set_cons_zero, List.set_cons_succ]
        have hXX : Hid (Ext w6.drew X) := hideit hX
        clear hX
        have Q7 := hideit (Q6.out.drew.carry hXX.out)
        have S7 := hideit (S6.out.drew.carry hXX.out)
        have hB7 := hideit (hB6.out.ext (Ext.trans (Ext.refl w6).draw hXX.out))
        clear Q6 hB6 S6 hXX hC0
        refine wpX_st _ (X.setCells q 0 (row 33 (kyv (.slice ov (b 4).toNat cv) zF))) rfl rfl (exec_store 37 (.tmp 2) (.tmp 18) rfl q 33 _ (kyv (.slice ov (b 4).toNat cv) zF) rfl rfl Q7.out info37 (kyv_one _ _ _ _)) (fun Y => RowAt s 33 (kyv (.slice ov (b 4).toNat cv) zF) Y) (fun _ h => h) (S7.out.cellsOther (by have := hqs.out; omega) _ _) ?_
        simp only [List.getElem_toArray, List.getElem_cons_zero, List.getElem_cons_succ, Act.put]
        have h9 : Hid (RowAt q 33 (kyv (.slice ov (b 4).toNat cv) zF) (X.setCells q 0 (row 33 (kyv (.slice ov (b 4).toNat cv) zF)))) := hideit Q7.out.cells
        have S9 := hideit (S7.out.cellsOther (c := q) (by have := hqs.out; omega) (row 33 (kyv (.slice ov (b 4).toNat cv) zF)) 0)
        have hB9 := hideit (but_new (o := 0) hB7.out hwq.out (row 33 (kyv (.slice ov (b 4).toNat cv) zF)))
        clear Q7 hB7 S7
        generalize X.setCells q 0 (row 33 (kyv (.slice ov (b 4).toNat cv) zF)) = w9 at *
        refine wpX_to _ (.bool false) w9 rfl rfl (by simp [go_sem]) (fun Y => RowAt s 33 (kyv (.slice ov (b 4).toNat cv) zF) Y) (fun _ h => h) S9.out ?_
        simp only [List.getElem_toArray, List.getElem_cons_zero, List.getElem_cons_succ, Act.put, List.setIfInBounds_toArray, List.set_cons_zero, List.set_cons_succ]
        refine wpX_nil ?_
        clear S9
        go_wp2
        exact bodyPost_ret (ret_row2 Try.results35 rfl h9.out Try.underlying37 rfl info37) rfl ⟨_, _, _, _, rfl, hB9.out⟩
      | false =>
        have hC0 : RowAt s 33 (kyv (.slice ov (b 4).toNat cv) zF) w6.drew := S6.out.drew
        refine wp_region_lad (fun X => RowAt s 33 (kyv (.slice ov (b 4).toNat cv) zF) X) [(false, 0), (false, 1), (false, 2), (false, 3), (false, 4), (false, 5), (false, 6), (true, 7), (true, 8)] (by kernel_rfl) (by kernel_rfl) (by decide +kernel) (by decide +kernel) (by decide +kernel) (by decide +kernel) hC0 ?_
        refine wpX_f _ (.agg (row 33 (kyv (.slice ov (b 4).toNat cv) zF)).toArray) rfl rfl (fun X hX => exec_load 37 (.tmp 4) rfl s 33 (kyv (.slice ov (b 4).toNat cv) zF) rfl hX Try.underlying37 rfl info37) ?_
        simp only [List.getElem_toArray, List.getElem_cons_zero, Act.put, List.setIfInBounds_toArray, List.set_cons_zero, List.set_cons_succ]
        refine wpX_f _ (.bool false) rfl rfl (fun X _ => by simp [go_sem]) ?_
        simp only [List.getElem_toArray, List.getElem_cons_zero, List.getElem_cons_succ, Act.put, List.setIfInBounds_toArray, List.set_cons_zero, List.set_cons_succ]
        refine wpX_f _ (.bool false) rfl rfl (fun X _ => by simp [go_sem]) ?_
        simp only [List.getElem_toArray, List.getElem_cons_zero, List.getElem_cons_succ, Act.put, List.setIfInBounds_toArray, List.set_cons_zero, List.set_cons_succ]
        refine wpX_fskip _ rfl rfl ?_
        simp only [List.getElem_toArray, List.getElem_cons_zero, List.getElem_cons_succ, Act.put, List.setIfInBounds_toArray, List.set_cons_zero, List.set_cons_succ]
        refine wpX_fskip _ rfl rfl ?_
        simp only [List.getElem_toArray, List.getElem_cons_zero, List.getElem_cons_succ, Act.put, List.setIfInBounds_toArray, List.set_cons_zero, List.set_cons_succ]
        refine wpX_fskip _ rfl rfl ?_
        simp only [List.getElem_toArray, List.getElem_cons_zero, List.getElem_cons_succ, Act.put, List.setIfInBounds_toArray, List.set_cons_zero, List.set_cons_succ]
        refine wpX_f _ (.bool false) rfl rfl (fun X _ => by simp [go_sem]) ?_
        simp only [List.getElem_toArray, List.getElem_cons_zero, List.getElem_cons_succ, Act.put, List.setIfInBounds_toArray, List.set_cons_zero, List.set_cons_succ]
        obtain ⟨X, hX⟩ : ∃ X, X = w6.drew := ⟨_, rfl⟩
        have hXX : Hid (Ext w6.drew X) := hideit (by rw [hX]; exact Ext.refl _)
        rw [← hX]
        clear hX
        have Q7 := hideit (Q6.out.drew.carry hXX.out)
        have S7 := hideit (S6.out.drew.carry hXX.out)
        have hB7 := hideit (hB6.out.ext (Ext.trans (Ext.refl w6).draw hXX.out))
        clear Q6 hB6 S6 hXX hC0
        refine wpX_st _ (X.setCells q 0 (row 33 (kyv (.slice ov (b 4).toNat cv) zF))) rfl rfl (exec_store 37 (.tmp 2) (.tmp 18) rfl q 33 _ (kyv (.slice ov (b 4).toNat cv) zF) rfl rfl Q7.out info37 (kyv_one _ _ _ _)) (fun Y => RowAt s 33 (kyv (.slice ov (b 4).toNat cv) zF) Y) (fun _ h => h) (S7.out.cellsOther (by have := hqs.out; omega) _ _) ?_
        simp only [List.getElem_toArray, List.getElem_cons_zero, List.getElem_cons_succ, Act.put]
        have h9 : Hid (RowAt q 33 (kyv (.slice ov (b 4).toNat cv) zF) (X.setCells q 0 (row 33 (kyv (.slice ov (b 4).toNat cv) zF)))) := hideit Q7.out.cells
        have S9 := hideit (S7.out.cellsOther (c := q) (by have := hqs.out; omega) (row 33 (kyv (.slice ov (b 4).toNat cv) zF)) 0)
        have hB9 := hideit (but_new (o := 0) hB7.out hwq.out (row 33 (kyv (.slice ov (b 4).toNat cv) zF)))
        clear Q7 hB7 S7
        generalize X.setCells q 0 (row 33 (kyv (.slice ov (b 4).toNat cv) zF)) = w9 at *
        refine wpX_to _ (.bool false) w9 rfl rfl (by simp [go_sem]) (fun Y => RowAt s 33 (kyv (.slice ov (b 4).toNat cv) zF) Y) (fun _ h => h) S9.out ?_
        simp only [List.getElem_toArray, List.getElem_cons_zero, List.getElem_cons_succ, Act.put, List.setIfInBounds_toArray, List.set_cons_zero, List.set_cons_succ]
        refine wpX_nil ?_
        clear S9
        go_wp2
        exact bodyPost_ret (ret_row2 Try.results35 rfl h9.out Try.underlying37 rfl info37) rfl ⟨_, _, _, _, rfl, hB9.out⟩
  · clear hf1
    replace hR4 := hideit hR4
    have e0 := S4.out.1 0 (by decide)
    have g0 := S4.out.2.1 0 (by decide)
    clear Q3 S3 hB3 hR3 hK4 hsw3
    go_upto_region 4 with (fail)
    clear e0 g0
    have S5 := hideit (kyv_set (v := .slice none 0 0) S4.out)
    have Q5 := hideit (Q4.out.other ⟨s, 0, none⟩ (.slice none 0 0) (by show s ≠ q; have := hqs.out; omega))
    have R5 := hideit (hR4.out.but (but_setCell w4 s 0 (.slice none 0 0)) (.inr hrs.out) hlo)
    have hB5 := hideit (but_newc hB4.out hws.out (.slice none 0 0) 0)
    clear S4 Q4 hR4 hB4
    generalize w4.setCell ⟨s, 0, none⟩ (.slice none 0 0) = w5 at *
    have kf := hideit (fill_not lo r (k9) 32 (p9) true (some ⟨s, 1, none⟩) w5 R5.out (by simp))
    go_upto_region 5 with (go_at_call 28; refine kf.out.mono ?_; rintro e w6 ⟨rfl, hX1, hX2⟩; replace hX1 := hideit hX1; replace hX2 := hideit hX2)
    have S6 := hideit (S5.out.but hX1.out (by have := hrs.out; omega))
    have Q6 := hideit (Q5.out.but hX1.out (by have := hrq.out; omega))
    have hB6 := hideit (hB5.out.trans hX1.out)
    clear kf hX1 hX2 S5 Q5 R5 hB5
    cases B with
    | true =>
      have hC0 : RowAt s 33 (kyv (.slice none 0 0) zF) w6.drew := S6.out.drew
      refine wp_region_lad (fun X => RowAt s 33 (kyv (.slice none 0 0) zF) X) [(false, 0), (false, 1), (false, 2), (false, 3), (false, 4), (true, 5), (false, 6), (true, 7), (true, 8)] (by kernel_rfl) (by kernel_rfl) (by decide +kernel) (by decide +kernel) (by decide +kernel) (by decide +kernel) hC0 ?_
      refine wpX_f _ (.agg (row 33 (kyv (.slice none 0 0) zF)).toArray) rfl rfl (fun X hX => exec_load 37 (.tmp 4) rfl s 33 (kyv (.slice none 0 0) zF) rfl hX Try.underlying37 rfl info37) ?_
      simp only [List.getElem_toArray, List.getElem_cons_zero, Act.put, List.setIfInBounds_toArray, List.set_cons_zero, List.set_cons_succ]
      refine wpX_f _ (.bool true) rfl rfl (fun X _ => by simp [go_sem]) ?_
      simp only [List.getElem_toArray, List.getElem_cons_zero, List.getElem_cons_succ, Act.put, List.setIfInBounds_toArray, List.set_cons_zero, List.set_cons_succ]
      refine wpX_f _ (.bool true) rfl rfl (fun X _ => by simp [go_sem]) ?_
      simp only [List.getElem_toArray, List.getElem_cons_zero, List.getElem_cons_succ, Act.put, List.setIfInBounds_toArray, List.set_cons_zero, List.set_cons_succ]
      refine wpX_f _ (.pointer (some ⟨s, 0, none⟩)) rfl rfl (fun X _ => by simp [go_sem]) ?_
      simp only [List.getElem_toArray, List.getElem_cons_zero, List.getElem_cons_succ, Act.put, List.setIfInBounds_toArray, List.set_cons_zero, List.set_cons_succ]
      refine wpX_f _ (.slice none 0 0) rfl rfl (fun X hX => by simp [go_sem, show X.cell? ⟨s, 0, none⟩ = some (.slice none 0 0) from hX.1 0 (by decide)]) ?_
      simp only [List.getElem_toArray, List.getElem_cons_zero, List.getElem_cons_succ, Act.put, List.setIfInBounds_toArray, List.set_cons_zero, List.set_cons_succ]
      refine wpX_call _ rfl rfl (by simp [go_sem]) ((maybe_len none 0 0 (by decide) _).mono ?_)
      rintro e X ⟨rfl, hX⟩
      refine ⟨_, rfl, fun Y => RowAt s 33 (kyv (.slice none 0 0) zF) Y, fun _ h => h, S6.out.drew.carry hX, ?_⟩
      simp only [List.getElem_toArray, List.getElem_cons_zero, List.getElem_cons_succ, Act.put, List.setIfInBounds_toArray, List.set_cons_zero, List.set_cons_succ]
      refine wpX_f _ (.bool false) rfl rfl (fun X _ => by simp [go_sem]) ?_
      simp only [List.getElem_toArray, List.getElem_cons_zero, List.getElem_cons_succ, Act.put, List.setIfInBounds_toArray, List.set_cons_zero, List.set_cons_succ]
      have hXX : Hid (Ext w6.drew X) := hideit hX
      clear hX
      have Q7 := hideit (Q6.out.drew.carry hXX.out)
      have S7 := hideit (S6.out.drew.carry hXX.out)
      have hB7 := hideit (hB6.out.ext (Ext.trans (Ext.refl w6).draw hXX.out))
      clear Q6 hB6 S6 hXX hC0
      refine wpX_st _ (X.setCells q 0 (row 33 (kyv (.slice none 0 0) zF))) rfl rfl (exec_store 37 (.tmp 2) (.tmp 18) rfl q 33 _ (kyv (.slice none 0 0) zF) rfl rfl Q7.out info37 (kyv_one _ _ _ _)) (fun Y => RowAt s 33 (kyv (.slice none 0 0) zF) Y) (fun _ h => h) (S7.out.cellsOther (by have := hqs.out; omega) _ _) ?_
      simp only [List.getElem_toArray, List.getElem_cons_zero, List.getElem_cons_succ, Act.put]
      have h9 : Hid (RowAt q 33 (kyv (.slice none 0 0) zF) (X.setCells q 0 (row 33 (kyv (.slice none 0 0) zF)))) := hideit Q7.out.cells
      have S9 := hideit (S7.out.cellsOther (c := q) (by have := hqs.out; omega) (row 33 (kyv (.slice none 0 0) zF)) 0)
      have hB9 := hideit (but_new (o := 0) hB7.out hwq.out (row 33 (kyv (.slice none 0 0) zF)))
      clear Q7 hB7 S7
      generalize X.setCells q 0 (row 33 (kyv (.slice none 0 0) zF)) = w9 at *
      refine wpX_to _ (.bool false) w9 rfl rfl (by simp [go_sem]) (fun Y => RowAt s 33 (kyv (.slice none 0 0) zF) Y) (fun _ h => h) S9.out ?_
      simp only [List.getElem_toArray, List.getElem_cons_zero, List.getElem_cons_succ, Act.put, List.setIfInBounds_toArray, List.set_cons_zero, List.set_cons_succ]
      refine wpX_nil ?_
      clear S9
      go_wp2
      exact bodyPost_ret (ret_row2 Try.results35 rfl h9.out Try.underlying37 rfl info37) rfl ⟨_, _, _, _, rfl, hB9.out⟩
    | false =>
      have hC0 : RowAt s 33 (kyv (.slice none 0 0) zF) w6.drew := S6.out.drew
      refine wp_region_lad (fun X => RowAt s 33 (kyv (.slice none 0 0) zF) X) [(false, 0), (false, 1), (false, 2), (false, 3), (false, 4), (false, 5), (false, 6), (true, 7), (true, 8)] (by kernel_rfl) (by kernel_rfl) (by decide +kernel) (by decide +kernel) (by decide +kernel) (by decide +kernel) hC0 ?_
      refine wpX_f _ (.agg (row 33 (kyv (.slice none 0 0) zF)).toArray) rfl rfl (fun X hX => exec_load 37 (.tmp 4) rfl s 33 (kyv (.slice none 0 0) zF) rfl hX Try.underlying37 rfl info37) ?_
      simp only [List.getElem_toArray, List.getElem_cons_zero, Act.put, List.setIfInBounds_toArray, List.set_cons_zero, List.set_cons_succ]
      refine wpX_f _ (.bool false) rfl rfl (fun X _ => by simp [go_sem]) ?_
      simp only [List.getElem_toArray, List.getElem_cons_zero, List.getElem_cons_succ, Act.put, List.setIfInBounds_toArray, List.set_cons_zero, List.set_cons_succ]
      refine wpX_f _ (.bool false) rfl rfl (fun X _ => by simp [go_sem]) ?_
      simp only [List.getElem_toArray, List.getElem_cons_zero, List.getElem_cons_succ, Act.put, List.setIfInBounds_toArray, List.set_cons_zero, List.set_cons_succ]
      refine wpX_fskip _ rfl rfl ?_
      simp only [List.getElem_toArray, List.getElem_cons_zero, List.getElem_cons_succ, Act.put, List.setIfInBounds_toArray, List.set_cons_zero, List.set_cons_succ]
      refine wpX_fskip _ rfl rfl ?_
      simp only [List.getElem_toArray, List.getElem_cons_zero, List.getElem_cons_succ, Act.put, List.setIfInBounds_toArray, List.set_cons_zero, List.set_cons_succ]
      refine wpX_fskip _ rfl rfl ?_
      simp only [List.getElem_toArray, List.getElem_cons_zero, List.getElem_cons_succ, Act.put, List.setIfInBounds_toArray, List.set_cons_zero, List.set_cons_succ]
      refine wpX_f _ (.bool false) rfl rfl (fun X _ => by simp [go_sem]) ?_
      simp only [List.getElem_toArray, List.getElem_cons_zero, List.getElem_cons_succ, Act.put, List.setIfInBounds_toArray, List.set_cons_zero, List.set_cons_succ]
      obtain ⟨X, hX⟩ : ∃ X, X = w6.drew := ⟨_, rfl⟩
      have hXX : Hid (Ext w6.drew X) := hideit (by rw [hX]; exact Ext.refl _)
      rw [← hX]
      clear hX
      have Q7 := hideit (Q6.out.drew.carry hXX.out)
      have S7 := hideit (S6.out.drew.carry hXX.out)
      have hB7 := hideit (hB6.out.ext (Ext.trans (Ext.refl w6).draw hXX.out))
      clear Q6 hB6 S6 hXX hC0
      refine wpX_st _ (X.setCells q 0 (row 33 (kyv (.slice none 0 0) zF))) rfl rfl (exec_store 37 (.tmp 2) (.tmp 18) rfl q 33 _ (kyv (.slice none 0 0) zF) rfl rfl Q7.out info37 (kyv_one _ _ _ _)) (fun Y => RowAt s 33 (kyv (.slice none 0 0) zF) Y) (fun _ h => h) (S7.out.cellsOther (by have := hqs.out; omega) _ _) ?_
      simp only [List.getElem_toArray, List.getElem_cons_zero, List.getElem_cons_succ, Act.put]
      have h9 : Hid (RowAt q 33 (kyv (.slice none 0 0) zF) (X.setCells q 0 (row 33 (kyv (.slice none 0 0) zF)))) := hideit Q7.out.cells
      have S9 := hideit (S7.out.cellsOther (c := q) (by have := hqs.out; omega) (row 33 (kyv (.slice none 0 0) zF)) 0)
      have hB9 := hideit (but_new (o := 0) hB7.out hwq.out (row 33 (kyv (.slice none 0 0) zF)))
      clear Q7 hB7 S7
      generalize X.setCells q 0 (row 33 (kyv (.slice none 0 0) zF)) = w9 at *
      refine wpX_to _ (.bool false) w9 rfl rfl (by simp [go_sem]) (fun Y => RowAt s 33 (kyv (.slice none 0 0) zF) Y) (fun _ h => h) S9.out ?_
      simp only [List.getElem_toArray, List.getElem_cons_zero, List.getElem_cons_succ, Act.put, List.setIfInBounds_toArray, List.set_cons_zero, List.set_cons_succ]
      refine wpX_nil ?_
      clear S9
      go_wp2
      exact bodyPost_ret (ret_row2 Try.results35 rfl h9.out Try.underlying37 rfl info37) rfl ⟨_, _, _, _, rfl, hB9.out⟩
end Go.Proofs.Ytomalmnpojcloaa
