/-
  What a Reader of a block tells of keys.
-/
import Derived.Test.YtomalmnpojcloaaKy5
import Derived.Test.YtomalmnpojcloaaLad
namespace Go.Proofs.Ytomalmnpojcloaa
open Go.RowKit Go.BigFrame
theorem two37 (w : World) : RowAt w.heap.size 33 (kyv (.slice none 0 0) zF) ((w.alloc (.cells zk37 37)).alloc (.cells zk37 37)) ∧ RowAt (w.heap.size + 1) 33 (kyv (.slice none 0 0) zF) ((w.alloc (.cells zk37 37)).alloc (.cells zk37 37)) ∧ Ext w ((w.alloc (.cells zk37 37)).alloc (.cells zk37 37)) := by
  rw [zc37]
  refine ⟨(RowAt.new w 33 _ 37).alloc _, ?_, ((Below.refl _ _).alloc (Nat.le_refl _) _).alloc (by simp) _⟩
  have := RowAt.new (w.alloc (.cells (row 33 (kyv (.slice none 0 0) zF)).toArray 37)) 33 (kyv (.slice none 0 0) zF) 37
  simpa using this
theorem keys_mark : (⟨#[75, 69, 89, 83]⟩ : ByteArray).toList = lst 4 (bT [75, 69, 89, 83]) := by
  rw [ByteArray.toList_eq]; decide +kernel
theorem le1 (f : Nat → BitVec 8) : (leN f 1).toNat = (f 0).toNat := by
  rw [(leN_nat f 1 (by decide)).1]
  simp [leS]
theorem kyv_set {c : Nat} {u v : Value} {t : Nat → BitVec 8} {w : World} (h : RowAt c 33 (kyv u t) w) : RowAt c 33 (kyv v t) (w.setCell ⟨c, 0, none⟩ v) := (h.set 0 v).congr fun j _ => by
  unfold kyv
  by_cases h0 : j = 0
  · rw [if_pos h0, if_pos h0]
  · rw [if_neg h0, if_neg h0, if_neg h0]
theorem but_newc {r c : Nat} {w X : World} (h : But r w X) (hc : w.heap.size ≤ c) (v : Value) (i : Nat) : But r w (X.setCell ⟨c, i, none⟩ v) := by
  have k := but_setCell X c i v
  exact ⟨k.os.trans h.os, k.tape.trans h.tape, k.output.trans h.output, Nat.le_trans h.size k.size, fun j hj hne => (k.block j (Nat.lt_of_lt_of_le hj h.size) (fun hh => by injection hh with hh; omega)).trans (h.block j hj hne)⟩
theorem row_ev {lb n cap : Nat} {xs : Nat → Int} {fs : Nat → Nat → BitVec 8} {w : World} (h : RowAt lb (n * 65) (epL xs fs) w) (hc : n ≤ cap) : EV (.slice (some ⟨lb, 0, none⟩) n cap) n xs fs w :=
  .inr ⟨lb, 0, cap, rfl, hc, fun i hi j hj => by
    rw [Nat.zero_add, h.1 (i * 65 + j) (by omega)]
    unfold epL
    rw [show (i * 65 + j) / 65 = i by omega, show (i * 65 + j) % 65 = j by omega]⟩
theorem exec_load {P : Program} {o : Oper} {a : Act} {w : World} (t : TypeId) (x : Operand) (ho : o.op = .load t x) (b n : Nat) (g : Nat → Value) {d : TypeDesc} (hx : a.eval x = .pointer (some ⟨b, 0, none⟩)) (h : RowAt b n g w)
    (hu : P.underlying t = some d) (hd : d.isRow = true) (hi : (P.info? t).map (·.size) = some n) : (execOp a.eval o).run P w = .ok (.value (.agg (row n g).toArray)) w := by
  unfold execOp
  simp only [ho, hx, Instr.loadAt, Instr.sureAddr, Sem.run_bind, Sem.run_pure, Result.andThen_ok, run_loadVar_mid (P := P) w b 0 t (row n g) _ h.range hu hd (by rw [row_length]; exact hi)]
theorem exec_store {P : Program} {o : Oper} {a : Act} {w : World} (t : TypeId) (x y : Operand) (ho : o.op = .store t x y) (b n : Nat) (g g' : Nat → Value) (hx : a.eval x = .pointer (some ⟨b, 0, none⟩)) (hy : a.eval y = .agg (row n g').toArray) (h : RowAt b n g w)
    (hi : (P.info? t).map (·.size) = some n) (h1 : ∀ j, j < n → (g' j).oneCell' = true) : (execOp a.eval o).run P w = .ok .skip (w.setCells b 0 (row n g')) := by
  unfold execOp
  simp only [ho, hx, hy, Instr.storeAt, Instr.sureAddr, Sem.run_bind, Sem.run_pure, Result.andThen_ok, run_storeVar_mid (P := P) w b 0 t (row n g').toArray (by rw [row_size]; exact h.there) (by rw [row_size]; exact hi) (row_one h1)]
theorem xG_in (f : Nat → BitVec 8) (n : Nat) : inW n (xG f) := fun i _ => by
  unfold xG
  have h1 := (leN_nat (shF f (68 * i)) 4 (by decide)).1
  have h2 := (leN_nat (shF f (68 * i)) 4 (by decide)).2
  have h3 : (leN (shF f (68 * i)) 4).toNat < 4294967296 := by rw [h1]; exact h2
  omega
theorem ky_fill (v : Value) (f : Nat → BitVec 8) (j : Nat) (hj : j < 33) : (if 1 ≤ j ∧ j < 1 + 32 then yv f (j - 1) else kyv v zF j) = kyv v f j := by
  unfold kyv yv
  by_cases h0 : j = 0
  · rw [if_neg (by omega), if_pos h0, if_pos h0]
  · rw [if_pos (by omega), if_neg h0]
set_option maxRecDepth 20000 in
set_option maxHeartbeats 2000000 in
theorem kbody_ok' (lo r : Nat) (b : Nat → BitVec 8) (w : World) (h : Rd lo r 512 b false w) (hlo : lo ≤ r) (hn : (b 4).toNat = 1 ∨ (b 4).toNat = 2) (M : Bool) (hM : Hid (M = true ↔ okE (b 4).toNat (xG (shF b 5)))) :
    Calls Try.prog 35 #[.pointer (some ⟨r, 0, none⟩)] w fun e w' => ∃ v, e = .returned (.tuple #[.agg (row 33 (kyv v (shF b (4 + 1 + 68 * (b 4).toNat)))).toArray, .bool (eqN 4 b (bT [75, 69, 89, 83]) && M)]) ∧ EV v (b 4).toNat (xG (shF b 5)) (fG (shF b 5)) w' ∧ (∀ a n c, v = .slice (some a) n c → w.heap.size ≤ a.block) ∧ Rd lo r (507 - 68 * (b 4).toNat - 32) (shF b (4 + 1 + 68 * (b 4).toNat + 32)) false w' ∧ But r w w' := by
  obtain ⟨B, hB⟩ : ∃ B, B = eqN 4 b (bT [75, 69, 89, 83]) := ⟨_, rfl⟩
  rw [← hB]
  replace hB := hideit hB
  have hrw := hideit h.lt
  obtain ⟨Q1, S1, hE1⟩ := two37 w
  replace Q1 := hideit Q1
  replace S1 := hideit S1
  have R1 := hideit (h.ext hE1)
  have hB1 := hideit (But.of_ext (c := r) hE1)
  clear h hE1
  go_enter Try.func35, Try.ntmps35
  go_upto_region 0 with (fail)
  refine wp_region_lit ?_
  refine wpList_to rfl (.pointer (some ⟨w.heap.size, 0, none⟩)) (w.alloc (.cells zk37 37)) (by simp [go_sem, zk37]) ?_
  simp only [Act.put, List.setIfInBounds_toArray, List.set_cons_zero, List.set_cons_succ]
  go_upto_region 1 with (fail)
  refine wp_region_lit ?_
  refine wpList_to rfl (.pointer (some ⟨w.heap.size + 1, 0, none⟩)) ((w.alloc (.cells zk37 37)).alloc (.cells zk37 37)) (by simp [go_sem, zk37]) ?_
  simp only [Act.put, List.setIfInBounds_toArray, List.set_cons_zero, List.set_cons_succ]
  generalize (w.alloc (.cells zk37 37)).alloc (.cells zk37 37) = w1 at *
  obtain ⟨q, hq⟩ : ∃ q, q = w.heap.size := ⟨_, rfl⟩
  have hwq : Hid (w.heap.size ≤ q) := hideit (by omega)
  have hrq : Hid (r < q) := hideit (by have := hrw.out; omega)
  rw [← hq] at Q1 S1 ⊢
  clear hq
  obtain ⟨s, hs⟩ : ∃ s, s = q + 1 := ⟨_, rfl⟩
  have hqs : Hid (q < s) := hideit (by omega)
  have hrs : Hid (r < s) := hideit (by have := hrq.out; omega)
  have hws : Hid (w.heap.size ≤ s) := hideit (by have := hwq.out; omega)
  rw [← hs] at S1 ⊢
  clear hs
  have hN := next_ok lo r 512 b ⟨#[75, 69, 89, 83]⟩ [75, 69, 89, 83] w1 R1.out keys_mark rfl (by decide) (by decide)
  rw [← hB.out] at hN
  replace hN := hideit hN
  go_upto_region 3 with (go_at_call 27; refine hN.out.mono ?_; rintro e w2 ⟨rfl, hR2, hK2⟩; replace hR2 := hideit hR2; replace hK2 := hideit hK2)
  have Q2 := hideit (Q1.out.but hK2.out (by have := hrq.out; omega))
  have S2 := hideit (S1.out.but hK2.out (by have := hrs.out; omega))
  have hB2 := hideit (hB1.out.trans hK2.out)
  clear hN Q1 S1 hB1 hK2 R1
  obtain ⟨y, hy⟩ : ∃ y, y = leN (shF b 4) 1 := ⟨_, rfl⟩
  have hyn : y.toNat = (b 4).toNat := by rw [hy, le1]; rfl
  have hn8 := (b 4).isLt
  have hu : IntKind.i64.wrap (y.toNat : Int) = ((b 4).toNat : Int) := by rw [IntKind.wrap_i64, hyn]; omega
  replace hy := hideit hy
  replace hyn := hideit hyn
  refine wp_region_lit ?_
  refine wpList_run rfl (.pointer (some ⟨r, 0, none⟩)) (by simp [go_sem]) ?_
  simp only [Act.put, List.setIfInBounds_toArray, List.set_cons_zero, List.set_cons_succ]
  refine wpList_run rfl (.pointer (some ⟨r, 0, none⟩)) (by simp [go_sem]) ?_
  simp only [Act.put, List.setIfInBounds_toArray, List.set_cons_zero, List.set_cons_succ]
  refine wpList_call rfl (by simp [go_sem]; exact ⟨rfl, rfl⟩) ?_
  refine (ruint_ok lo r 508 1 (shF b 4) _ hR2.out (by decide) (by decide) (by decide)).mono ?_
  rintro e w3 ⟨he, hR3, hK3⟩
  rw [← hy.out] at he
  subst he
  refine ⟨_, rfl, ?_⟩
  simp only [Act.put, List.setIfInBounds_toArray, List.set_cons_zero, List.set_cons_succ]
  have Q3 := hideit (Q2.out.but hK3 (by have := hrq.out; omega))
  have S3 := hideit (S2.out.but hK3 (by have := hrs.out; omega))
  have hB3 := hideit (hB2.out.trans hK3)
  rw [shF_two] at hR3
  replace hR3 := hideit hR3
  clear Q2 S2 hB2 hK3 hR2
  refine wpList_run rfl (.int .i64 ((b 4).toNat : Int)) (by simp [go_sem, hu]) ?_
  simp only [Act.put, List.setIfInBounds_toArray, List.set_cons_zero, List.set_cons_succ]
  clear hu hy hyn
  refine wpList_call rfl (by simp [go_sem]; exact ⟨rfl, rfl⟩) ?_
  refine (get_any lo r 507 (b 4).toNat (shF b (4 + 1)) _ hR3.out hlo (by omega) (by decide)).mono ?_
  rintro e w4 ⟨v, rfl, hK4, hG⟩
  refine ⟨_, rfl, ?_⟩
  simp only [Act.put, List.setIfInBounds_toArray, List.set_cons_zero, List.set_cons_succ]
  have Q4 := hideit (Q3.out.but hK4 (by have := hrq.out; omega))
  have S4 := hideit (S3.out.but hK4 (by have := hrs.out; omega))
  have hB4 := hideit (hB3.out.trans hK4)
  have hsw3 := S3.out.2.2
  obtain ⟨hf1, hO4, hR4⟩ : 68 * (b 4).toNat ≤ 507 ∧ OwnK 65 w3.heap.size 51 v (b 4).toNat (epL (xG (shF b (4 + 1))) (fG (shF b (4 + 1)))) w4 ∧ Rd lo r (507 - 68 * (b 4).toNat) (shF (shF b (4 + 1)) (68 * (b 4).toNat)) false w4 := by
    rcases hG with h | ⟨h, _⟩
    · exact h
    · omega
  clear hG
  obtain ⟨lb, cap, rfl, hlb, hcap, _, L4⟩ := hO4.lies (by omega)
  have hls : Hid (s < lb) := hideit (by omega)
  have hlr : Hid (r < lb) := hideit (by have := hrs.out; omega)
  have hlq : Hid (q < lb) := hideit (by have := hqs.out; omega)
  have hlw : Hid (w.heap.size ≤ lb) := hideit (by have := hws.out; omega)
  rw [shF_two] at hR4
  replace hR4 := hideit hR4
  replace L4 := hideit L4
  have e0 := S4.out.1 0 (by decide)
  have g0 := S4.out.2.1 0 (by decide)
  clear Q3 S3 hB3 hR3 hK4 hO4 hsw3
  go_upto_region 4 with (fail)
  clear e0 g0
  have S5 := hideit (kyv_set (v := .slice (some ⟨lb, 0, none⟩) (b 4).toNat cap) S4.out)
  have Q5 := hideit (Q4.out.other ⟨s, 0, none⟩ (.slice (some ⟨lb, 0, none⟩) (b 4).toNat cap) (by show s ≠ q; have := hqs.out; omega))
  have L5 := hideit (L4.out.other ⟨s, 0, none⟩ (.slice (some ⟨lb, 0, none⟩) (b 4).toNat cap) (by show s ≠ lb; have := hls.out; omega))
  have R5 := hideit (hR4.out.but (but_setCell w4 s 0 (.slice (some ⟨lb, 0, none⟩) (b 4).toNat cap)) (.inr hrs.out) hlo)
  have hB5 := hideit (but_newc hB4.out hws.out (.slice (some ⟨lb, 0, none⟩) (b 4).toNat cap) 0)
  clear S4 Q4 L4 hR4 hB4
  generalize w4.setCell ⟨s, 0, none⟩ (.slice (some ⟨lb, 0, none⟩) (b 4).toNat cap) = w5 at *
  have kf := hideit (fill_ok lo r (507 - 68 * (b 4).toNat) s 33 1 32 (shF b (4 + 1 + 68 * (b 4).toNat)) (kyv (.slice (some ⟨lb, 0, none⟩) (b 4).toNat cap) zF) w5 R5.out (by omega) (by omega) S5.out (by have := hrs.out; omega) (by decide) (by decide))
  go_upto_region 5 with (go_at_call 28; refine kf.out.mono ?_; rintro e w6 ⟨rfl, X, hX1, hX2, hX3⟩; replace hX1 := hideit hX1; replace hX2 := hideit hX2; replace hX3 := hideit hX3)
  have S6 : Hid (RowAt s 33 (kyv (.slice (some ⟨lb, 0, none⟩) (b 4).toNat cap) (shF b (4 + 1 + 68 * (b 4).toNat))) w6) := hideit (by rw [hX2.out]; exact ((S5.out.but hX1.out (by have := hrs.out; omega)).part 1 32 _ (by decide)).congr fun j hj => ky_fill _ _ j hj)
  have Q6 : Hid (RowAt q 33 (kyv (.slice none 0 0) zF) w6) := hideit (by rw [hX2.out]; exact (Q5.out.but hX1.out (by have := hrq.out; omega)).cellsOther (by have := hqs.out; omega) _ _)
  have L6 : Hid (RowAt lb ((b 4).toNat * 65) (epL (xG (shF b (4 + 1))) (fG (shF b (4 + 1)))) w6) := hideit (by rw [hX2.out]; exact (L5.out.but hX1.out (by have := hlr.out; omega)).cellsOther (by have := hls.out; omega) _ _)
  have R6 : Hid (Rd lo r (507 - 68 * (b 4).toNat - 32) (shF b (4 + 1 + 68 * (b 4).toNat + 32)) false w6) := hideit (by rw [hX2.out]; have h9 := hX3.out; rw [shF_two] at h9; exact h9.set hrs.out hlo _)
  have hB6 : Hid (But r w w6) := hideit (by rw [hX2.out]; exact but_new (hB5.out.trans hX1.out) hws.out _)
  clear kf hX1 hX2 hX3 S5 Q5 L5 R5 hB5
  clear hn
  cases B with
  | true =>
    have hC0 : RowAt s 33 (kyv (.slice (some ⟨lb, 0, none⟩) (b 4).toNat cap) (shF b (4 + 1 + 68 * (b 4).toNat))) w6.drew := S6.out.drew
    refine wp_region_lad (fun X => RowAt s 33 (kyv (.slice (some ⟨lb, 0, none⟩) (b 4).toNat cap) (shF b (4 + 1 + 68 * (b 4).toNat))) X) [(false, 0), (false, 1), (false, 2), (false, 3), (false, 4), (true, 5), (false, 6), (true, 7), (true, 8)] (by kernel_rfl) (by kernel_rfl) (by decide +kernel) (by decide +kernel) (by decide +kernel) (by decide +kernel) hC0 ?_
    refine wpX_f _ (.agg (row 33 (kyv (.slice (some ⟨lb, 0, none⟩) (b 4).toNat cap) (shF b (4 + 1 + 68 * (b 4).toNat)))).toArray) rfl rfl (fun X hX => exec_load 37 (.tmp 4) rfl s 33 (kyv (.slice (some ⟨lb, 0, none⟩) (b 4).toNat cap) (shF b (4 + 1 + 68 * (b 4).toNat))) rfl hX Try.underlying37 rfl info37) ?_
    simp only [List.getElem_toArray, List.getElem_cons_zero, Act.put, List.setIfInBounds_toArray, List.set_cons_zero, List.set_cons_succ]
    refine wpX_f _ (.bool true) rfl rfl (fun X _ => by simp [go_sem]) ?_
    simp only [List.getElem_toArray, List.getElem_cons_zero, List.getElem_cons_succ, Act.put, List.setIfInBounds_toArray, List.set_cons_zero, List.set_cons_succ]
    refine wpX_f _ (.bool true) rfl rfl (fun X _ => by simp [go_sem]) ?_
    simp only [List.getElem_toArray, List.getElem_cons_zero, List.getElem_cons_succ, Act.put, List.setIfInBounds_toArray, List.set_cons_zero, List.set_cons_succ]
    refine wpX_f _ (.pointer (some ⟨s, 0, none⟩)) rfl rfl (fun X _ => by simp [go_sem]) ?_
    simp only [List.getElem_toArray, List.getElem_cons_zero, List.getElem_cons_succ, Act.put, List.setIfInBounds_toArray, List.set_cons_zero, List.set_cons_succ]
    refine wpX_f _ (.slice (some ⟨lb, 0, none⟩) (b 4).toNat cap) rfl rfl (fun X hX => by simp [go_sem, show X.cell? ⟨s, 0, none⟩ = some (.slice (some ⟨lb, 0, none⟩) (b 4).toNat cap) from hX.1 0 (by decide)]) ?_
    simp only [List.getElem_toArray, List.getElem_cons_zero, List.getElem_cons_succ, Act.put, List.setIfInBounds_toArray, List.set_cons_zero, List.set_cons_succ]
    refine wpX_call _ rfl rfl (by simp [go_sem]) ((maybe_any _ (b 4).toNat _ _ _ ((row_ev L6.out hcap).ext (Ext.refl w6).draw) (xG_in _ _) M hM.out).mono ?_)
    rintro e X ⟨rfl, hX⟩
    refine ⟨_, rfl, fun Y => RowAt s 33 (kyv (.slice (some ⟨lb, 0, none⟩) (b 4).toNat cap) (shF b (4 + 1 + 68 * (b 4).toNat))) Y, fun _ h => h, S6.out.drew.carry hX, ?_⟩
    simp only [List.getElem_toArray, List.getElem_cons_zero, List.getElem_cons_succ, Act.put, List.setIfInBounds_toArray, List.set_cons_zero, List.set_cons_succ]
    refine wpX_f _ (.bool M) rfl rfl (fun X _ => by simp [go_sem]) ?_
    simp only [List.getElem_toArray, List.getElem_cons_zero, List.getElem_cons_succ, Act.put, List.setIfInBounds_toArray, List.set_cons_zero, List.set_cons_succ]
    have hXX : Hid (Ext w6.drew X) := hideit hX
    clear hX
    have Q7 := hideit (Q6.out.drew.carry hXX.out)
    have S7 := hideit (S6.out.drew.carry hXX.out)
    have R7 := hideit (R6.out.ext (Ext.trans (Ext.refl w6).draw hXX.out))
    have L7 := hideit (L6.out.drew.carry hXX.out)
    have hB7 := hideit (hB6.out.ext (Ext.trans (Ext.refl w6).draw hXX.out))
    clear Q6 R6 L6 hB6 S6 hXX hC0
    refine wpX_st _ (X.setCells q 0 (row 33 (kyv (.slice (some ⟨lb, 0, none⟩) (b 4).toNat cap) (shF b (4 + 1 + 68 * (b 4).toNat))))) rfl rfl (exec_store 37 (.tmp 2) (.tmp 18) rfl q 33 _ (kyv (.slice (some ⟨lb, 0, none⟩) (b 4).toNat cap) (shF b (4 + 1 + 68 * (b 4).toNat))) rfl rfl Q7.out info37 (kyv_one _ _ _ _)) (fun Y => RowAt s 33 (kyv (.slice (some ⟨lb, 0, none⟩) (b 4).toNat cap) (shF b (4 + 1 + 68 * (b 4).toNat))) Y) (fun _ h => h) (S7.out.cellsOther (by have := hqs.out; omega) _ _) ?_
    simp only [List.getElem_toArray, List.getElem_cons_zero, List.getElem_cons_succ, Act.put]
    have h9 : Hid (RowAt q 33 (kyv (.slice (some ⟨lb, 0, none⟩) (b 4).toNat cap) (shF b (4 + 1 + 68 * (b 4).toNat))) (X.setCells q 0 (row 33 (kyv (.slice (some ⟨lb, 0, none⟩) (b 4).toNat cap) (shF b (4 + 1 + 68 * (b 4).toNat)))))) := hideit Q7.out.cells
    have S9 := hideit (S7.out.cellsOther (c := q) (by have := hqs.out; omega) (row 33 (kyv (.slice (some ⟨lb, 0, none⟩) (b 4).toNat cap) (shF b (4 + 1 + 68 * (b 4).toNat)))) 0)
    have R9 := hideit (R7.out.set (o := 0) hrq.out hlo (row 33 (kyv (.slice (some ⟨lb, 0, none⟩) (b 4).toNat cap) (shF b (4 + 1 + 68 * (b 4).toNat)))))
    have L9 := hideit (L7.out.cellsOther (c := q) (by have := hlq.out; omega) (row 33 (kyv (.slice (some ⟨lb, 0, none⟩) (b 4).toNat cap) (shF b (4 + 1 + 68 * (b 4).toNat)))) 0)
    have hB9 := hideit (but_new (o := 0) hB7.out hwq.out (row 33 (kyv (.slice (some ⟨lb, 0, none⟩) (b 4).toNat cap) (shF b (4 + 1 + 68 * (b 4).toNat)))))
    clear Q7 R7 L7 hB7 S7
    generalize X.setCells q 0 (row 33 (kyv (.slice (some ⟨lb, 0, none⟩) (b 4).toNat cap) (shF b (4 + 1 + 68 * (b 4).toNat)))) = w9 at *
    refine wpX_to _ (.bool M) w9 rfl rfl (by simp [go_sem]) (fun Y => RowAt s 33 (kyv (.slice (some ⟨lb, 0, none⟩) (b 4).toNat cap) (shF b (4 + 1 + 68 * (b 4).toNat))) Y) (fun _ h => h) S9.out ?_
    simp only [List.getElem_toArray, List.getElem_cons_zero, List.getElem_cons_succ, Act.put, List.setIfInBounds_toArray, List.set_cons_zero, List.set_cons_succ]
    refine wpX_nil ?_
    clear S9
    go_wp2
    exact bodyPost_ret (ret_row2 Try.results35 rfl h9.out Try.underlying37 rfl info37) rfl ⟨.slice (some ⟨lb, 0, none⟩) (b 4).toNat cap, rfl, row_ev L9.out hcap, fun a n c hh => (by injection hh with hh _ _; injection hh with hh; rw [← hh]; exact hlw.out), R9.out, hB9.out⟩
  | false =>
    have hC0 : RowAt s 33 (kyv (.slice (some ⟨lb, 0, none⟩) (b 4).toNat cap) (shF b (4 + 1 + 68 * (b 4).toNat))) w6.drew := S6.out.drew
    refine wp_region_lad (fun X => RowAt s 33 (kyv (.slice (some ⟨lb, 0, none⟩) (b 4).toNat cap) (shF b (4 + 1 + 68 * (b 4).toNat))) X) [(false, 0), (false, 1), (false, 2), (false, 3), (false, 4), (false, 5), (false, 6), (true, 7), (true, 8)] (by kernel_rfl) (by kernel_rfl) (by decide +kernel) (by decide +kernel) (by decide +kernel) (by decide +kernel) hC0 ?_
    refine wpX_f _ (.agg (row 33 (kyv (.slice (some ⟨lb, 0, none⟩) (b 4).toNat cap) (shF b (4 + 1 + 68 * (b 4).toNat)))).toArray) rfl rfl (fun X hX => exec_load 37 (.tmp 4) rfl s 33 (kyv (.slice (some ⟨lb, 0, none⟩) (b 4).toNat cap) (shF b (4 + 1 + 68 * (b 4).toNat))) rfl hX Try.underlying37 rfl info37) ?_
    simp only [List.getElem_toArray, List.getElem_cons_zero, Act.put, List.setIfInBounds_toArray, List.set_cons_zero, List.set_cons_succ]
    refine wpX_f _ (.bool false) rfl rfl (fun X _ => by simp [go_sem]) ?_
    simp only [List.getElem_toArray, List.getElem_cons_zero, List.getElem_cons_succ, Act.put, List.setIfInBounds_toArray, List.set_cons_zero, List.set_cons_succ]
    refine wpX_f _ (.bool false) rfl rfl (fun X _ => by simp [go_sem]) ?_
    simp only [List.getElem_toArray, List.getElem_cons_zero, List.getElem_cons_succ, Act.put, List.setIfInBounds_toArray, List.set_cons_zero, List.set_cons_succ]
    refine wpX_fskip _ rfl rfl ?_
    simp only [List.getElem_toArray, List.getElem_cons_zero, List.getElem_cons_succ, Act.put, List.setIfInBounds_toArray, List.set_cons_zero, List.set_cons_succ]
    refine wpX_fskip _ rfl rfl ?_
    simp only [List.getElem_toArray, List.getElem_cons_zero, List.getElem_cons_succ, Act.put, List.setIfInBounds_toArray, List.set_cons_zero, List.set_cons_succ]
    refine wpX_fskip _ rfl rfl ?_
    simp only [List.getElem_toArray, List.getElem_cons_zero, List.getElem_cons_succ, Act.put, List.setIfInBounds_toArray, List.set_cons_zero, List.set_cons_succ]
    refine wpX_f _ (.bool false) rfl rfl (fun X _ => by simp [go_sem]) ?_
    simp only [List.getElem_toArray, List.getElem_cons_zero, List.getElem_cons_succ, Act.put, List.setIfInBounds_toArray, List.set_cons_zero, List.set_cons_succ]
    obtain ⟨X, hX⟩ : ∃ X, X = w6.drew := ⟨_, rfl⟩
    have hXX : Hid (Ext w6.drew X) := hideit (by rw [hX]; exact Ext.refl _)
    rw [← hX]
    clear hX
    have Q7 := hideit (Q6.out.drew.carry hXX.out)
    have S7 := hideit (S6.out.drew.carry hXX.out)
    have R7 := hideit (R6.out.ext (Ext.trans (Ext.refl w6).draw hXX.out))
    have L7 := hideit (L6.out.drew.carry hXX.out)
    have hB7 := hideit (hB6.out.ext (Ext.trans (Ext.refl w6).draw hXX.out))
    clear Q6 R6 L6 hB6 S6 hXX hC0
    refine wpX_st _ (X.setCells q 0 (row 33 (kyv (.slice (some ⟨lb, 0, none⟩) (b 4).toNat cap) (shF b (4 + 1 + 68 * (b 4).toNat))))) rfl rfl (exec_store 37 (.tmp 2) (.tmp 18) rfl q 33 _ (kyv (.slice (some ⟨lb, 0, none⟩) (b 4).toNat cap) (shF b (4 + 1 + 68 * (b 4).toNat))) rfl rfl Q7.out info37 (kyv_one _ _ _ _)) (fun Y => RowAt s 33 (kyv (.slice (some ⟨lb, 0, none⟩) (b 4).toNat cap) (shF b (4 + 1 + 68 * (b 4).toNat))) Y) (fun _ h => h) (S7.out.cellsOther (by have := hqs.out; omega) _ _) ?_
    simp only [List.getElem_toArray, List.getElem_cons_zero, List.getElem_cons_succ, Act.put]
    have h9 : Hid (RowAt q 33 (kyv (.slice (some ⟨lb, 0, none⟩) (b 4).toNat cap) (shF b (4 + 1 + 68 * (b 4).toNat))) (X.setCells q 0 (row 33 (kyv (.slice (some ⟨lb, 0, none⟩) (b 4).toNat cap) (shF b (4 + 1 + 68 * (b 4).toNat)))))) := hideit Q7.out.cells
    have S9 := hideit (S7.out.cellsOther (c := q) (by have := hqs.out; omega) (row 33 (kyv (.slice (some ⟨lb, 0, none⟩) (b 4).toNat cap) (shF b (4 + 1 + 68 * (b 4).toNat)))) 0)
    have R9 := hideit (R7.out.set (o := 0) hrq.out hlo (row 33 (kyv (.slice (some ⟨lb, 0, none⟩) (b 4).toNat cap) (shF b (4 + 1 + 68 * (b 4).toNat)))))
    have L9 := hideit (L7.out.cellsOther (c := q) (by have := hlq.out; omega) (row 33 (kyv (.slice (some ⟨lb, 0, none⟩) (b 4).toNat cap) (shF b (4 + 1 + 68 * (b 4).toNat)))) 0)
    have hB9 := hideit (but_new (o := 0) hB7.out hwq.out (row 33 (kyv (.slice (some ⟨lb, 0, none⟩) (b 4).toNat cap) (shF b (4 + 1 + 68 * (b 4).toNat)))))
    clear Q7 R7 L7 hB7 S7
    generalize X.setCells q 0 (row 33 (kyv (.slice (some ⟨lb, 0, none⟩) (b 4).toNat cap) (shF b (4 + 1 + 68 * (b 4).toNat)))) = w9 at *
    refine wpX_to _ (.bool false) w9 rfl rfl (by simp [go_sem]) (fun Y => RowAt s 33 (kyv (.slice (some ⟨lb, 0, none⟩) (b 4).toNat cap) (shF b (4 + 1 + 68 * (b 4).toNat))) Y) (fun _ h => h) S9.out ?_
    simp only [List.getElem_toArray, List.getElem_cons_zero, List.getElem_cons_succ, Act.put, List.setIfInBounds_toArray, List.set_cons_zero, List.set_cons_succ]
    refine wpX_nil ?_
    clear S9
    go_wp2
    exact bodyPost_ret (ret_row2 Try.results35 rfl h9.out Try.underlying37 rfl info37) rfl ⟨.slice (some ⟨lb, 0, none⟩) (b 4).toNat cap, rfl, row_ev L9.out hcap, fun a n c hh => (by injection hh with hh _ _; injection hh with hh; rw [← hh]; exact hlw.out), R9.out, hB9.out⟩

theorem kbody_ok (lo r : Nat) (b : Nat → BitVec 8) (w : World) (h : Rd lo r 512 b false w) (hlo : lo ≤ r) (hn : (b 4).toNat = 1 ∨ (b 4).toNat = 2) (M : Bool) (hM : Hid (M = true ↔ okE (b 4).toNat (xG (shF b 5)))) :
    Calls Try.prog 35 #[.pointer (some ⟨r, 0, none⟩)] w fun e w' => ∃ v, e = .returned (.tuple #[.agg (row 33 (kyv v (shF b (5 + 68 * (b 4).toNat)))).toArray, .bool (eqN 4 b (bT [75, 69, 89, 83]) && M)]) ∧ EV v (b 4).toNat (xG (shF b 5)) (fG (shF b 5)) w' ∧ (∀ a n c, v = .slice (some a) n c → w.heap.size ≤ a.block) ∧ Rd lo r (475 - 68 * (b 4).toNat) (shF b (37 + 68 * (b 4).toNat)) false w' ∧ But r w w' := by
  have h := kbody_ok' lo r b w h hlo hn M hM
  rwa [show 507 - 68 * (b 4).toNat - 32 = 475 - 68 * (b 4).toNat by omega, show 4 + 1 + 68 * (b 4).toNat = 5 + 68 * (b 4).toNat by omega, show 5 + 68 * (b 4).toNat + 32 = 37 + 68 * (b 4).toNat by omega] at h
end Go.Proofs.Ytomalmnpojcloaa
