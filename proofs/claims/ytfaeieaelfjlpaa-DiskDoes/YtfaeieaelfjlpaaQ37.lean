/-
  One call of both disks (Do4). One call of both disks (Do5).
-/
import Derived.Test.YtfaeieaelfjlpaaQ35
namespace Go.Proofs.Ytfaeieaelfjlpaa
open Go.RowKit Go.BigFrame Go.Maps
set_option maxRecDepth 20000 in
set_option maxHeartbeats 8000000 in
theorem does_4_b {F G : Nat → Prop} {p x : Nat} {s : DSt} {C : Nat} {M : DM} {stp : Bool} {cl : Int} {R : RM} {W : World} (h : Tw F G p x s C M stp cl R W) (V : World) (hV : Ext V W) (hFV : ∀ i, F i → V.heap.size ≤ i) (hGV : ∀ i, G i → V.heap.size ≤ i) (m : Int) (hm : okI m) (uo : Option Addr) (l uc : Nat) (f : Nat → BitVec 8) (hu : PV (.slice uo l uc) l f V) (hl : l ≤ 140737488355328) (qo : Option Addr) (kk qc : Nat) (kb kw : Nat → Int) (hq : KP (.slice qo kk qc) kk kb kw V) (hkk : kk * 16 ≤ 140737488355328) (hok : ∀ i, i < kk → okI (kb i) ∧ okI (kw i)) (hC : C ≤ 4398046511000) : Calls Try.prog 14 #[.pointer (some ⟨p, 0, none⟩), .pointer (some ⟨x, 0, none⟩), .agg #[.int .i64 4, .int .i64 m, .slice uo l uc, .bool true, .slice qo kk qc]] W (DoP F G p x s C W) := by
  have hH1 := opRow W 4 m (.slice uo l uc) true (.slice qo kk qc)
  have hE1 : Ext W (W.alloc (.cells #[.int .i64 4, .int .i64 m, .slice uo l uc, .bool true, .slice qo kk qc] 34)) := (Below.refl _ _).alloc (Nat.le_refl _) _
  have hz1 : (W.alloc (.cells #[.int .i64 4, .int .i64 m, .slice uo l uc, .bool true, .slice qo kk qc] 34)).heap.size = W.heap.size + 1 := by simp
  have hlF : Hid (∀ i, F i → i < W.heap.size) := h.d.lt
  have hlG : Hid (∀ i, G i → i < W.heap.size) := h.r.lt
  replace h := hideit h
  replace hu := hideit hu
  replace hq := hideit hq
  replace hok := hideit hok
  replace hFV := hideit hFV
  replace hGV := hideit hGV
  replace hV := hideit hV
  replace hm := hideit hm
  go_enter Try.func14, Try.ntmps14
  go_upto_region 0 with (fail)
  refine wp_region_lit ?_
  refine wpList_to rfl (.pointer (some ⟨W.heap.size, 0, none⟩)) (W.alloc (.cells #[.int .i64 4, .int .i64 m, .slice uo l uc, .bool true, .slice qo kk qc] 34)) (by simp [go_sem]) ?_
  simp only [Act.put, List.setIfInBounds_toArray, List.set_cons_zero, List.set_cons_succ]
  refine wpList_run rfl (.bool false) (by simp [go_sem]) ?_
  simp only [Act.put, List.setIfInBounds_toArray, List.set_cons_zero, List.set_cons_succ]
  generalize W.alloc (.cells #[.int .i64 4, .int .i64 m, .slice uo l uc, .bool true, .slice qo kk qc] 34) = w1 at *
  obtain ⟨c, hc⟩ : ∃ c, c = W.heap.size := ⟨_, rfl⟩
  rw [← hc] at hH1 ⊢
  replace hc := hideit hc
  replace hE1 := hideit hE1
  replace hz1 := hideit hz1
  have e2 : w1.cell? ⟨c, 2, none⟩ = some (.slice uo l uc) := hH1.1 2 (by decide)
  have e3 : w1.cell? ⟨c, 3, none⟩ = some (.bool true) := hH1.1 3 (by decide)
  replace hH1 := hideit hH1
  go_upto_region 1 with (fail)
  refine wp_region_lit ?_
  refine wpList_run rfl (.pointer (some ⟨c, 2, none⟩)) (by simp [go_sem]) ?_
  simp only [Act.put, List.setIfInBounds_toArray, List.set_cons_zero, List.set_cons_succ]
  refine wpList_run rfl (.slice uo l uc) (by simp [go_sem, e2]) ?_
  simp only [Act.put, List.setIfInBounds_toArray, List.set_cons_zero, List.set_cons_succ]
  refine wpList_run rfl (.slice uo l uc) (by simp [go_sem]) ?_
  simp only [Act.put, List.setIfInBounds_toArray, List.set_cons_zero, List.set_cons_succ]
  go_upto_region 2 with (fail)
  refine wp_region_lit ?_
  refine wpList_run rfl (.pointer (some ⟨c, 3, none⟩)) (by simp [go_sem]) ?_
  simp only [Act.put, List.setIfInBounds_toArray, List.set_cons_zero, List.set_cons_succ]
  refine wpList_run rfl (.bool true) (by simp [go_sem, e3]) ?_
  simp only [Act.put, List.setIfInBounds_toArray, List.set_cons_zero, List.set_cons_succ]
  refine wpList_run rfl (.bool false) (by simp [go_sem]) ?_
  simp only [Act.put, List.setIfInBounds_toArray, List.set_cons_zero, List.set_cons_succ]
  have hA : Hid (RowAt c 5 (opc 4 m (.slice uo l uc) true (.slice qo kk qc)) w1) := hH1.out
  have EA : Hid (Ext W w1) := hE1.out
  have hP : Hid (PV (.slice uo l uc) l f w1) := hu.out.ext (Ext.trans hV.out hE1.out)
  have hpb : Hid (∀ a, 0 < l → uo = some a → (∀ i, F i → i ≠ a.block) ∧ a.block < w1.heap.size) := fun a h0 ea => ⟨fun i hi e => by have := hu.out.lt a h0 ea; have := hFV.out i hi; omega, Nat.lt_of_lt_of_le (hu.out.lt a h0 ea) (Below.size (Ext.trans hV.out hE1.out))⟩
  have hcA : Hid (c < w1.heap.size) := by show c < w1.heap.size; rw [hz1.out, hc.out]; omega
  have hbl : l ≤ 140737488355328 := hl
  clear hH1 hE1 hz1 e2 e3
  have e0 : w1.cell? ⟨c, 0, none⟩ = some (.int .i64 4) := hA.out.1 0 (by decide)
  go_upto_region 4 with (fail)
  refine wp_region_lit ?_
  refine wpList_run rfl (.pointer (some ⟨c, 0, none⟩)) (by simp [go_sem]) ?_
  simp only [Act.put, List.setIfInBounds_toArray, List.set_cons_zero, List.set_cons_succ]
  refine wpList_run rfl (.int .i64 4) (by simp [go_sem, e0]) ?_
  simp only [Act.put, List.setIfInBounds_toArray, List.set_cons_zero, List.set_cons_succ]
  clear e0
  go_upto_region 5 with (fail)
  refine wp_region_lit ?_
  refine wpList_run rfl (.bool false) (by simp [go_sem]) ?_
  simp only [Act.put, List.setIfInBounds_toArray, List.set_cons_zero, List.set_cons_succ]
  refine wpList_run rfl (.bool false) (by simp [go_sem]) ?_
  simp only [Act.put, List.setIfInBounds_toArray, List.set_cons_zero, List.set_cons_succ]
  go_upto_region 13 with (fail)
  refine wp_region_lit ?_
  refine wpList_run rfl (.bool false) (by simp [go_sem]) ?_
  simp only [Act.put, List.setIfInBounds_toArray, List.set_cons_zero, List.set_cons_succ]
  refine wpList_run rfl (.bool false) (by simp [go_sem]) ?_
  simp only [Act.put, List.setIfInBounds_toArray, List.set_cons_zero, List.set_cons_succ]
  go_upto_region 17 with (fail)
  refine wp_region_lit ?_
  refine wpList_run rfl (.bool false) (by simp [go_sem]) ?_
  simp only [Act.put, List.setIfInBounds_toArray, List.set_cons_zero, List.set_cons_succ]
  refine wpList_run rfl (.bool false) (by simp [go_sem]) ?_
  simp only [Act.put, List.setIfInBounds_toArray, List.set_cons_zero, List.set_cons_succ]
  go_upto_region 19 with (fail)
  refine wp_region_lit ?_
  refine wpList_run rfl (.bool true) (by simp [go_sem]) ?_
  simp only [Act.put, List.setIfInBounds_toArray, List.set_cons_zero, List.set_cons_succ]
  refine wpList_run rfl (.bool true) (by simp [go_sem]) ?_
  simp only [Act.put, List.setIfInBounds_toArray, List.set_cons_zero, List.set_cons_succ]
  have hD : Ext w1 w1.drew := (Ext.refl w1).draw
  have hX5 : Ext w1.drew (w1.drew.alloc (.cells #[] 65)) := (Below.refl _ _).alloc (Nat.le_refl _) _
  have hAD := hideit (hA.out.carry hD)
  have hA5 := hideit (hAD.out.carry hX5)
  have hK5 : KP (.slice qo kk qc) kk kb kw (w1.drew.alloc (.cells #[] 65)) := hq.out.ext (Ext.trans (Ext.trans hV.out EA.out) (Ext.trans hD hX5))
  have hz5 : (w1.drew.alloc (.cells #[] 65)).heap.size = w1.drew.heap.size + 1 := by simp
  have hO5 : (w1.drew.alloc (.cells #[] 65)).ownsRow 0 65 2 (.slice (some ⟨w1.drew.heap.size, 0, none⟩) 0 0) 0 [] := World.ownsRow_made w1.drew #[] 0 (Nat.zero_le _) (Nat.zero_le _) (by simp)
  obtain ⟨v6, w6, r6, hL6, hX6⟩ := run_full32 (w := (w1.drew.alloc (.cells #[] 65))) hK5 hkk (by rw [hz5]; omega) hO5 32
  obtain ⟨o6, c6, rfl⟩ := hL6.form
  have EW := hideit (Ext.trans EA.out (Ext.trans hD (Ext.trans hX5 hX6)))
  have kd := hideit (craD (h.out.d.ext EW.out) _ kk hL6 (fun i hi => (hok.out i hi).1) (by omega) (by omega))
  go_upto_region 20 with (fail)
  refine wp_region_ladz (fun X => RowAt c 5 (opc 4 m (.slice uo l uc) true (.slice qo kk qc)) X) [] [(false, 0), (false, 2), (false, 3), (false, 6), (false, 7), (false, 8), (true, 1), (true, 4), (true, 5), (true, 9), (false, 10), (false, 11)] (by kernel_rfl) (by kernel_rfl) (by decide +kernel) (by decide +kernel) (by decide +kernel) (by decide +kernel) hAD.out ?_
  refine wpZ_f _ (.pointer (some ⟨p, 0, none⟩)) rfl rfl (fun X _ => by simp [go_sem]) ?_
  simp only [List.getElem_toArray, List.getElem_cons_zero, Act.put, List.setIfInBounds_toArray, List.set_cons_zero, List.set_cons_succ]
  refine wpZ_f _ (.pointer (some ⟨c, 4, none⟩)) rfl rfl (fun X _ => by simp [go_sem]) ?_
  simp only [List.getElem_toArray, List.getElem_cons_zero, List.getElem_cons_succ, Act.put, List.setIfInBounds_toArray, List.set_cons_zero, List.set_cons_succ]
  refine wpZ_f _ (.slice qo kk qc) rfl rfl (fun X hX => by have e := hX.1 4 (by decide); rw [show (opc 4 m (.slice uo l uc) true (.slice qo kk qc)) 4 = .slice qo kk qc from rfl] at e; simp [go_sem, e]) ?_
  simp only [List.getElem_toArray, List.getElem_cons_zero, List.getElem_cons_succ, Act.put, List.setIfInBounds_toArray, List.set_cons_zero, List.set_cons_succ]
  refine wpZ_f _ (.pointer (some ⟨x, 0, none⟩)) rfl rfl (fun X _ => by simp [go_sem]) ?_
  simp only [List.getElem_toArray, List.getElem_cons_zero, List.getElem_cons_succ, Act.put, List.setIfInBounds_toArray, List.set_cons_zero, List.set_cons_succ]
  refine wpZ_f _ (.pointer (some ⟨c, 4, none⟩)) rfl rfl (fun X _ => by simp [go_sem]) ?_
  simp only [List.getElem_toArray, List.getElem_cons_zero, List.getElem_cons_succ, Act.put, List.setIfInBounds_toArray, List.set_cons_zero, List.set_cons_succ]
  refine wpZ_f _ (.slice qo kk qc) rfl rfl (fun X hX => by have e := hX.1 4 (by decide); rw [show (opc 4 m (.slice uo l uc) true (.slice qo kk qc)) 4 = .slice qo kk qc from rfl] at e; simp [go_sem, e]) ?_
  simp only [List.getElem_toArray, List.getElem_cons_zero, List.getElem_cons_succ, Act.put, List.setIfInBounds_toArray, List.set_cons_zero, List.set_cons_succ]
  refine wpZ_to _ (.slice (some ⟨w1.drew.heap.size, 0, none⟩) 0 0) (w1.drew.alloc (.cells #[] 65)) rfl rfl (by simp [go_sem]) (fun X => RowAt c 5 (opc 4 m (.slice uo l uc) true (.slice qo kk qc)) X) (.inr fun X hX => hX) hA5.out ?_
  simp only [List.getElem_toArray, List.getElem_cons_zero, List.getElem_cons_succ, Act.put, List.setIfInBounds_toArray, List.set_cons_zero, List.set_cons_succ]
  refine wpZ_to _ (.slice o6 kk c6) w6 rfl rfl (exec_app (.tmp 90) (.tmp 92) rfl rfl rfl r6) (fun X => RowAt c 5 (opc 4 m (.slice uo l uc) true (.slice qo kk qc)) X) (.inr fun X hX => hX) (hA5.out.carry hX6) ?_
  simp only [List.getElem_toArray, List.getElem_cons_zero, List.getElem_cons_succ, Act.put, List.setIfInBounds_toArray, List.set_cons_zero, List.set_cons_succ]
  refine wpZ_call _ rfl rfl (by simp [go_sem]) ((kd.out).mono ?_)
  rintro e w7 ⟨rfl, M7, hd7, hk7⟩
  have hA7 := (hA5.out.carry hX6).keep hk7 (fun e => by have := hlF.out c e; have := hc.out; omega)
  refine ⟨_, rfl, fun X => RowAt c 5 (opc 4 m (.slice uo l uc) true (.slice qo kk qc)) X, .inr fun X hX => hX, hA7, ?_⟩
  simp only [List.getElem_toArray, List.getElem_cons_zero, List.getElem_cons_succ, Act.put, List.setIfInBounds_toArray, List.set_cons_zero, List.set_cons_succ]
  have hK7 : Keeps F W w7 := (Keeps.of_ext EW.out).trans (F' := F) hk7 fun i hi => .inl hi
  have hr := h.out.r.keep hK7 fun i hi hf => h.out.ap i hf hi
  have hq7 := (hK5.ext hX6).keep hk7 (fun a h0 ea e => by have := hq.out.lt a h0 ea; have := hFV.out _ e; omega)
  have kr := hideit (craR hr qo kk qc hq7 (fun a ea h0 e => by have := hq.out.lt a h0 ea; have := hGV.out _ e; omega) (by omega))
  refine wpZ_call _ rfl rfl (by simp [go_sem]) ((kr.out).mono ?_)
  rintro e w8 ⟨rfl, R8, hbb, hr8, hk8⟩
  have hA8 := hA7.keep hk8 (fun e => by
    have := hlG.out _ h.out.r.gx
    have := hlG.out _ h.out.r.gb
    have := hc.out
    omega)
  refine ⟨_, rfl, fun X => RowAt c 5 (opc 4 m (.slice uo l uc) true (.slice qo kk qc)) X, .inr fun X hX => hX, hA8, ?_⟩
  simp only [List.getElem_toArray, List.getElem_cons_zero, List.getElem_cons_succ, Act.put, List.setIfInBounds_toArray, List.set_cons_zero, List.set_cons_succ]
  refine wpZ_f _ (.bool true) rfl rfl (fun X _ => by simp [go_sem]) ?_
  simp only [List.getElem_toArray, List.getElem_cons_zero, List.getElem_cons_succ, Act.put, List.setIfInBounds_toArray, List.set_cons_zero, List.set_cons_succ]
  refine wpZ_f _ (.bool true) rfl rfl (fun X _ => by simp [go_sem]) ?_
  simp only [List.getElem_toArray, List.getElem_cons_zero, List.getElem_cons_succ, Act.put, List.setIfInBounds_toArray, List.set_cons_zero, List.set_cons_succ]
  refine wpZ_nil ?_
  obtain ⟨q1, q2⟩ := h.out.step (Ext.refl _) hd7 hK7 (Ext.refl _) (fun i hi => .inl hi) hr8 hk8 (fun i hi => .inl hi) (cr_on h.out kk) (cr_no h.out kk)
  have hN : Hid ((cS s kb kw kk).N = s.N) := by show (cS s kb kw kk).N = s.N; unfold cS; split <;> rfl
  replace q1 := hideit (q1.mono (Nat.le_succ C))
  replace q2 := hideit q2
  clear kd kr hd7 hk7 hK7 hr hr8 hk8 hbb hA7 hA8 hAD hA5 hq7 hK5 hL6 r6 hO5 hz5 hX5 hX6 hD
  go_wp2
  go_ret
  exact ⟨rfl, _, _, _, _, _, _, _, hN.out, q1.out, q2.out⟩
set_option maxRecDepth 20000 in
set_option maxHeartbeats 8000000 in
theorem does_4_g {F G : Nat → Prop} {p x : Nat} {s : DSt} {C : Nat} {M : DM} {stp : Bool} {cl : Int} {R : RM} {W : World} (h : Tw F G p x s C M stp cl R W) (V : World) (hV : Ext V W) (hFV : ∀ i, F i → V.heap.size ≤ i) (hGV : ∀ i, G i → V.heap.size ≤ i) (m : Int) (hm : okI m) (uo : Option Addr) (l uc : Nat) (f : Nat → BitVec 8) (hu : PV (.slice uo l uc) l f V) (hl : l ≤ 140737488355328) (qo : Option Addr) (kk qc : Nat) (kb kw : Nat → Int) (hq : KP (.slice qo kk qc) kk kb kw V) (hkk : kk * 16 ≤ 140737488355328) (hok : ∀ i, i < kk → okI (kb i) ∧ okI (kw i)) (hC : C ≤ 4398046511000) : Calls Try.prog 14 #[.pointer (some ⟨p, 0, none⟩), .pointer (some ⟨x, 0, none⟩), .agg #[.int .i64 4, .int .i64 m, .slice uo l uc, .bool false, .slice qo kk qc]] W (DoP F G p x s C W) := by
  have hH1 := opRow W 4 m (.slice uo l uc) false (.slice qo kk qc)
  have hE1 : Ext W (W.alloc (.cells #[.int .i64 4, .int .i64 m, .slice uo l uc, .bool false, .slice qo kk qc] 34)) := (Below.refl _ _).alloc (Nat.le_refl _) _
  have hz1 : (W.alloc (.cells #[.int .i64 4, .int .i64 m, .slice uo l uc, .bool false, .slice qo kk qc] 34)).heap.size = W.heap.size + 1 := by simp
  have hlF : Hid (∀ i, F i → i < W.heap.size) := h.d.lt
  have hlG : Hid (∀ i, G i → i < W.heap.size) := h.r.lt
  replace h := hideit h
  replace hu := hideit hu
  replace hq := hideit hq
  replace hok := hideit hok
  replace hFV := hideit hFV
  replace hGV := hideit hGV
  replace hV := hideit hV
  replace hm := hideit hm
  go_enter Try.func14, Try.ntmps14
  go_upto_region 0 with (fail)
  refine wp_region_lit ?_
  refine wpList_to rfl (.pointer (some ⟨W.heap.size, 0, none⟩)) (W.alloc (.cells #[.int .i64 4, .int .i64 m, .slice uo l uc, .bool false, .slice qo kk qc] 34)) (by simp [go_sem]) ?_
  simp only [Act.put, List.setIfInBounds_toArray, List.set_cons_zero, List.set_cons_succ]
  refine wpList_run rfl (.bool false) (by simp [go_sem]) ?_
  simp only [Act.put, List.setIfInBounds_toArray, List.set_cons_zero, List.set_cons_succ]
  generalize W.alloc (.cells #[.int .i64 4, .int .i64 m, .slice uo l uc, .bool false, .slice qo kk qc] 34) = w1 at *
  obtain ⟨c, hc⟩ : ∃ c, c = W.heap.size := ⟨_, rfl⟩
  rw [← hc] at hH1 ⊢
  replace hc := hideit hc
  replace hE1 := hideit hE1
  replace hz1 := hideit hz1
  have e2 : w1.cell? ⟨c, 2, none⟩ = some (.slice uo l uc) := hH1.1 2 (by decide)
  have e3 : w1.cell? ⟨c, 3, none⟩ = some (.bool false) := hH1.1 3 (by decide)
  replace hH1 := hideit hH1
  go_upto_region 1 with (fail)
  refine wp_region_lit ?_
  refine wpList_run rfl (.pointer (some ⟨c, 2, none⟩)) (by simp [go_sem]) ?_
  simp only [Act.put, List.setIfInBounds_toArray, List.set_cons_zero, List.set_cons_succ]
  refine wpList_run rfl (.slice uo l uc) (by simp [go_sem, e2]) ?_
  simp only [Act.put, List.setIfInBounds_toArray, List.set_cons_zero, List.set_cons_succ]
  refine wpList_run rfl (.slice uo l uc) (by simp [go_sem]) ?_
  simp only [Act.put, List.setIfInBounds_toArray, List.set_cons_zero, List.set_cons_succ]
  go_upto_region 2 with (fail)
  refine wp_region_lit ?_
  refine wpList_run rfl (.pointer (some ⟨c, 3, none⟩)) (by simp [go_sem]) ?_
  simp only [Act.put, List.setIfInBounds_toArray, List.set_cons_zero, List.set_cons_succ]
  refine wpList_run rfl (.bool false) (by simp [go_sem, e3]) ?_
  simp only [Act.put, List.setIfInBounds_toArray, List.set_cons_zero, List.set_cons_succ]
  refine wpList_run rfl (.bool true) (by simp [go_sem]) ?_
  simp only [Act.put, List.setIfInBounds_toArray, List.set_cons_zero, List.set_cons_succ]
  have kb4 := hideit (block_pv (.slice uo l uc) l f w1 (hu.out.ext (Ext.trans hV.out hE1.out)) (by unfold maxLen; omega))
  go_upto_region 3 with (fail)
  refine wp_region_lit ?_
  refine wpList_run rfl (.pointer (some ⟨c, 2, none⟩)) (by simp [go_sem]) ?_
  simp only [Act.put, List.setIfInBounds_toArray, List.set_cons_zero, List.set_cons_succ]
  refine wpList_run rfl (.slice uo l uc) (by simp [go_sem, e2]) ?_
  simp only [Act.put, List.setIfInBounds_toArray, List.set_cons_zero, List.set_cons_succ]
  refine wpList_call rfl (by simp [go_sem]) ((kb4.out).mono ?_)
  rintro e w4 ⟨v4, rfl, hO4, hX4⟩
  refine ⟨_, rfl, ?_⟩
  simp only [Act.put, List.setIfInBounds_toArray, List.set_cons_zero, List.set_cons_succ]
  obtain ⟨o4, c4, rfl⟩ := b512 hO4
  refine wpList_run rfl (.slice o4 512 c4) (by simp [go_sem]) ?_
  simp only [Act.put, List.setIfInBounds_toArray, List.set_cons_zero, List.set_cons_succ]
  have hA : Hid (RowAt c 5 (opc 4 m (.slice uo l uc) false (.slice qo kk qc)) w4) := hH1.out.carry hX4
  have EA : Hid (Ext W w4) := Ext.trans hE1.out hX4
  have hP : Hid (PV (.slice o4 512 c4) 512 (blkF l f) w4) := hO4.bv.pv
  have hpb : Hid (∀ a, 0 < 512 → o4 = some a → (∀ i, F i → i ≠ a.block) ∧ a.block < w4.heap.size) := fun a _ ea => by
    have hb := hO4.lt a.block (by rw [ea]; rfl)
    exact ⟨fun i hi e => by have := hlF.out i hi; have := hz1.out; omega, hb.2⟩
  have hcA : Hid (c < w4.heap.size) := by show c < w4.heap.size; have := Below.size hX4; have := hz1.out; rw [hc.out]; omega
  have hbl : 512 ≤ 140737488355328 := by decide
  clear hH1 hE1 hz1 e2 e3 kb4 hO4 hX4
  have e0 : w4.cell? ⟨c, 0, none⟩ = some (.int .i64 4) := hA.out.1 0 (by decide)
  go_upto_region 4 with (fail)
  refine wp_region_lit ?_
  refine wpList_run rfl (.pointer (some ⟨c, 0, none⟩)) (by simp [go_sem]) ?_
  simp only [Act.put, List.setIfInBounds_toArray, List.set_cons_zero, List.set_cons_succ]
  refine wpList_run rfl (.int .i64 4) (by simp [go_sem, e0]) ?_
  simp only [Act.put, List.setIfInBounds_toArray, List.set_cons_zero, List.set_cons_succ]
  clear e0
  go_upto_region 5 with (fail)
  refine wp_region_lit ?_
  refine wpList_run rfl (.bool false) (by simp [go_sem]) ?_
  simp only [Act.put, List.setIfInBounds_toArray, List.set_cons_zero, List.set_cons_succ]
  refine wpList_run rfl (.bool false) (by simp [go_sem]) ?_
  simp only [Act.put, List.setIfInBounds_toArray, List.set_cons_zero, List.set_cons_succ]
  go_upto_region 13 with (fail)
  refine wp_region_lit ?_
  refine wpList_run rfl (.bool false) (by simp [go_sem]) ?_
  simp only [Act.put, List.setIfInBounds_toArray, List.set_cons_zero, List.set_cons_succ]
  refine wpList_run rfl (.bool false) (by simp [go_sem]) ?_
  simp only [Act.put, List.setIfInBounds_toArray, List.set_cons_zero, List.set_cons_succ]
  go_upto_region 17 with (fail)
  refine wp_region_lit ?_
  refine wpList_run rfl (.bool false) (by simp [go_sem]) ?_
  simp only [Act.put, List.setIfInBounds_toArray, List.set_cons_zero, List.set_cons_succ]
  refine wpList_run rfl (.bool false) (by simp [go_sem]) ?_
  simp only [Act.put, List.setIfInBounds_toArray, List.set_cons_zero, List.set_cons_succ]
  go_upto_region 19 with (fail)
  refine wp_region_lit ?_
  refine wpList_run rfl (.bool true) (by simp [go_sem]) ?_
  simp only [Act.put, List.setIfInBounds_toArray, List.set_cons_zero, List.set_cons_succ]
  refine wpList_run rfl (.bool true) (by simp [go_sem]) ?_
  simp only [Act.put, List.setIfInBounds_toArray, List.set_cons_zero, List.set_cons_succ]
  have hD : Ext w4 w4.drew := (Ext.refl w4).draw
  have hX5 : Ext w4.drew (w4.drew.alloc (.cells #[] 65)) := (Below.refl _ _).alloc (Nat.le_refl _) _
  have hAD := hideit (hA.out.carry hD)
  have hA5 := hideit (hAD.out.carry hX5)
  have hK5 : KP (.slice qo kk qc) kk kb kw (w4.drew.alloc (.cells #[] 65)) := hq.out.ext (Ext.trans (Ext.trans hV.out EA.out) (Ext.trans hD hX5))
  have hz5 : (w4.drew.alloc (.cells #[] 65)).heap.size = w4.drew.heap.size + 1 := by simp
  have hO5 : (w4.drew.alloc (.cells #[] 65)).ownsRow 0 65 2 (.slice (some ⟨w4.drew.heap.size, 0, none⟩) 0 0) 0 [] := World.ownsRow_made w4.drew #[] 0 (Nat.zero_le _) (Nat.zero_le _) (by simp)
  obtain ⟨v6, w6, r6, hL6, hX6⟩ := run_full32 (w := (w4.drew.alloc (.cells #[] 65))) hK5 hkk (by rw [hz5]; omega) hO5 32
  obtain ⟨o6, c6, rfl⟩ := hL6.form
  have EW := hideit (Ext.trans EA.out (Ext.trans hD (Ext.trans hX5 hX6)))
  have kd := hideit (craD (h.out.d.ext EW.out) _ kk hL6 (fun i hi => (hok.out i hi).1) (by omega) (by omega))
  go_upto_region 20 with (fail)
  refine wp_region_ladz (fun X => RowAt c 5 (opc 4 m (.slice uo l uc) false (.slice qo kk qc)) X) [] [(false, 0), (false, 2), (false, 3), (false, 6), (false, 7), (false, 8), (true, 1), (true, 4), (true, 5), (true, 9), (false, 10), (false, 11)] (by kernel_rfl) (by kernel_rfl) (by decide +kernel) (by decide +kernel) (by decide +kernel) (by decide +kernel) hAD.out ?_
  refine wpZ_f _ (.pointer (some ⟨p, 0, none⟩)) rfl rfl (fun X _ => by simp [go_sem]) ?_
  simp only [List.getElem_toArray, List.getElem_cons_zero, Act.put, List.setIfInBounds_toArray, List.set_cons_zero, List.set_cons_succ]
  refine wpZ_f _ (.pointer (some ⟨c, 4, none⟩)) rfl rfl (fun X _ => by simp [go_sem]) ?_
  simp only [List.getElem_toArray, List.getElem_cons_zero, List.getElem_cons_succ, Act.put, List.setIfInBounds_toArray, List.set_cons_zero, List.set_cons_succ]
  refine wpZ_f _ (.slice qo kk qc) rfl rfl (fun X hX => by have e := hX.1 4 (by decide); rw [show (opc 4 m (.slice uo l uc) false (.slice qo kk qc)) 4 = .slice qo kk qc from rfl] at e; simp [go_sem, e]) ?_
  simp only [List.getElem_toArray, List.getElem_cons_zero, List.getElem_cons_succ, Act.put, List.setIfInBounds_toArray, List.set_cons_zero, List.set_cons_succ]
  refine wpZ_f _ (.pointer (some ⟨x, 0, none⟩)) rfl rfl (fun X _ => by simp [go_sem]) ?_
  simp only [List.getElem_toArray, List.getElem_cons_zero, List.getElem_cons_succ, Act.put, List.setIfInBounds_toArray, List.set_cons_zero, List.set_cons_succ]
  refine wpZ_f _ (.pointer (some ⟨c, 4, none⟩)) rfl rfl (fun X _ => by simp [go_sem]) ?_
  simp only [List.getElem_toArray, List.getElem_cons_zero, List.getElem_cons_succ, Act.put, List.setIfInBounds_toArray, List.set_cons_zero, List.set_cons_succ]
  refine wpZ_f _ (.slice qo kk qc) rfl rfl (fun X hX => by have e := hX.1 4 (by decide); rw [show (opc 4 m (.slice uo l uc) false (.slice qo kk qc)) 4 = .slice qo kk qc from rfl] at e; simp [go_sem, e]) ?_
  simp only [List.getElem_toArray, List.getElem_cons_zero, List.getElem_cons_succ, Act.put, List.setIfInBounds_toArray, List.set_cons_zero, List.set_cons_succ]
  refine wpZ_to _ (.slice (some ⟨w4.drew.heap.size, 0, none⟩) 0 0) (w4.drew.alloc (.cells #[] 65)) rfl rfl (by simp [go_sem]) (fun X => RowAt c 5 (opc 4 m (.slice uo l uc) false (.slice qo kk qc)) X) (.inr fun X hX => hX) hA5.out ?_
  simp only [List.getElem_toArray, List.getElem_cons_zero, List.getElem_cons_succ, Act.put, List.setIfInBounds_toArray, List.set_cons_zero, List.set_cons_succ]
  refine wpZ_to _ (.slice o6 kk c6) w6 rfl rfl (exec_app (.tmp 90) (.tmp 92) rfl rfl rfl r6) (fun X => RowAt c 5 (opc 4 m (.slice uo l uc) false (.slice qo kk qc)) X) (.inr fun X hX => hX) (hA5.out.carry hX6) ?_
  simp only [List.getElem_toArray, List.getElem_cons_zero, List.getElem_cons_succ, Act.put, List.setIfInBounds_toArray, List.set_cons_zero, List.set_cons_succ]
  refine wpZ_call _ rfl rfl (by simp [go_sem]) ((kd.out).mono ?_)
  rintro e w7 ⟨rfl, M7, hd7, hk7⟩
  have hA7 := (hA5.out.carry hX6).keep hk7 (fun e => by have := hlF.out c e; have := hc.out; omega)
  refine ⟨_, rfl, fun X => RowAt c 5 (opc 4 m (.slice uo l uc) false (.slice qo kk qc)) X, .inr fun X hX => hX, hA7, ?_⟩
  simp only [List.getElem_toArray, List.getElem_cons_zero, List.getElem_cons_succ, Act.put, List.setIfInBounds_toArray, List.set_cons_zero, List.set_cons_succ]
  have hK7 : Keeps F W w7 := (Keeps.of_ext EW.out).trans (F' := F) hk7 fun i hi => .inl hi
  have hr := h.out.r.keep hK7 fun i hi hf => h.out.ap i hf hi
  have hq7 := (hK5.ext hX6).keep hk7 (fun a h0 ea e => by have := hq.out.lt a h0 ea; have := hFV.out _ e; omega)
  have kr := hideit (craR hr qo kk qc hq7 (fun a ea h0 e => by have := hq.out.lt a h0 ea; have := hGV.out _ e; omega) (by omega))
  refine wpZ_call _ rfl rfl (by simp [go_sem]) ((kr.out).mono ?_)
  rintro e w8 ⟨rfl, R8, hbb, hr8, hk8⟩
  have hA8 := hA7.keep hk8 (fun e => by
    have := hlG.out _ h.out.r.gx
    have := hlG.out _ h.out.r.gb
    have := hc.out
    omega)
  refine ⟨_, rfl, fun X => RowAt c 5 (opc 4 m (.slice uo l uc) false (.slice qo kk qc)) X, .inr fun X hX => hX, hA8, ?_⟩
  simp only [List.getElem_toArray, List.getElem_cons_zero, List.getElem_cons_succ, Act.put, List.setIfInBounds_toArray, List.set_cons_zero, List.set_cons_succ]
  refine wpZ_f _ (.bool true) rfl rfl (fun X _ => by simp [go_sem]) ?_
  simp only [List.getElem_toArray, List.getElem_cons_zero, List.getElem_cons_succ, Act.put, List.setIfInBounds_toArray, List.set_cons_zero, List.set_cons_succ]
  refine wpZ_f _ (.bool true) rfl rfl (fun X _ => by simp [go_sem]) ?_
  simp only [List.getElem_toArray, List.getElem_cons_zero, List.getElem_cons_succ, Act.put, List.setIfInBounds_toArray, List.set_cons_zero, List.set_cons_succ]
  refine wpZ_nil ?_
  obtain ⟨q1, q2⟩ := h.out.step (Ext.refl _) hd7 hK7 (Ext.refl _) (fun i hi => .inl hi) hr8 hk8 (fun i hi => .inl hi) (cr_on h.out kk) (cr_no h.out kk)
  have hN : Hid ((cS s kb kw kk).N = s.N) := by show (cS s kb kw kk).N = s.N; unfold cS; split <;> rfl
  replace q1 := hideit (q1.mono (Nat.le_succ C))
  replace q2 := hideit q2
  clear kd kr hd7 hk7 hK7 hr hr8 hk8 hbb hA7 hA8 hAD hA5 hq7 hK5 hL6 r6 hO5 hz5 hX5 hX6 hD
  go_wp2
  go_ret
  exact ⟨rfl, _, _, _, _, _, _, _, hN.out, q1.out, q2.out⟩
end Go.Proofs.Ytfaeieaelfjlpaa
namespace Go.Proofs.Ytfaeieaelfjlpaa
open Go.RowKit Go.BigFrame Go.Maps
set_option maxRecDepth 20000 in
set_option maxHeartbeats 8000000 in
theorem does_5_b {F G : Nat → Prop} {p x : Nat} {s : DSt} {C : Nat} {M : DM} {stp : Bool} {cl : Int} {R : RM} {W : World} (h : Tw F G p x s C M stp cl R W) (V : World) (hV : Ext V W) (hFV : ∀ i, F i → V.heap.size ≤ i) (hGV : ∀ i, G i → V.heap.size ≤ i) (m : Int) (hm : okI m) (uo : Option Addr) (l uc : Nat) (f : Nat → BitVec 8) (hu : PV (.slice uo l uc) l f V) (hl : l ≤ 140737488355328) (qo : Option Addr) (kk qc : Nat) (kb kw : Nat → Int) (hq : KP (.slice qo kk qc) kk kb kw V) (hkk : kk * 16 ≤ 140737488355328) (hok : ∀ i, i < kk → okI (kb i) ∧ okI (kw i)) (hC : C ≤ 4398046511000) : Calls Try.prog 14 #[.pointer (some ⟨p, 0, none⟩), .pointer (some ⟨x, 0, none⟩), .agg #[.int .i64 5, .int .i64 m, .slice uo l uc, .bool true, .slice qo kk qc]] W (DoP F G p x s C W) := by
  have hH1 := opRow W 5 m (.slice uo l uc) true (.slice qo kk qc)
  have hE1 : Ext W (W.alloc (.cells #[.int .i64 5, .int .i64 m, .slice uo l uc, .bool true, .slice qo kk qc] 34)) := (Below.refl _ _).alloc (Nat.le_refl _) _
  have hz1 : (W.alloc (.cells #[.int .i64 5, .int .i64 m, .slice uo l uc, .bool true, .slice qo kk qc] 34)).heap.size = W.heap.size + 1 := by simp
  have hlF : Hid (∀ i, F i → i < W.heap.size) := h.d.lt
  have hlG : Hid (∀ i, G i → i < W.heap.size) := h.r.lt
  have hun := And.intro hkk hC
  clear hun
  replace h := hideit h
  replace hu := hideit hu
  replace hq := hideit hq
  replace hok := hideit hok
  replace hFV := hideit hFV
  replace hGV := hideit hGV
  replace hV := hideit hV
  replace hm := hideit hm
  go_enter Try.func14, Try.ntmps14
  go_upto_region 0 with (fail)
  refine wp_region_lit ?_
  refine wpList_to rfl (.pointer (some ⟨W.heap.size, 0, none⟩)) (W.alloc (.cells #[.int .i64 5, .int .i64 m, .slice uo l uc, .bool true, .slice qo kk qc] 34)) (by simp [go_sem]) ?_
  simp only [Act.put, List.setIfInBounds_toArray, List.set_cons_zero, List.set_cons_succ]
  refine wpList_run rfl (.bool false) (by simp [go_sem]) ?_
  simp only [Act.put, List.setIfInBounds_toArray, List.set_cons_zero, List.set_cons_succ]
  generalize W.alloc (.cells #[.int .i64 5, .int .i64 m, .slice uo l uc, .bool true, .slice qo kk qc] 34) = w1 at *
  obtain ⟨c, hc⟩ : ∃ c, c = W.heap.size := ⟨_, rfl⟩
  rw [← hc] at hH1 ⊢
  replace hc := hideit hc
  replace hE1 := hideit hE1
  replace hz1 := hideit hz1
  have e2 : w1.cell? ⟨c, 2, none⟩ = some (.slice uo l uc) := hH1.1 2 (by decide)
  have e3 : w1.cell? ⟨c, 3, none⟩ = some (.bool true) := hH1.1 3 (by decide)
  replace hH1 := hideit hH1
  go_upto_region 1 with (fail)
  refine wp_region_lit ?_
  refine wpList_run rfl (.pointer (some ⟨c, 2, none⟩)) (by simp [go_sem]) ?_
  simp only [Act.put, List.setIfInBounds_toArray, List.set_cons_zero, List.set_cons_succ]
  refine wpList_run rfl (.slice uo l uc) (by simp [go_sem, e2]) ?_
  simp only [Act.put, List.setIfInBounds_toArray, List.set_cons_zero, List.set_cons_succ]
  refine wpList_run rfl (.slice uo l uc) (by simp [go_sem]) ?_
  simp only [Act.put, List.setIfInBounds_toArray, List.set_cons_zero, List.set_cons_succ]
  go_upto_region 2 with (fail)
  refine wp_region_lit ?_
  refine wpList_run rfl (.pointer (some ⟨c, 3, none⟩)) (by simp [go_sem]) ?_
  simp only [Act.put, List.setIfInBounds_toArray, List.set_cons_zero, List.set_cons_succ]
  refine wpList_run rfl (.bool true) (by simp [go_sem, e3]) ?_
  simp only [Act.put, List.setIfInBounds_toArray, List.set_cons_zero, List.set_cons_succ]
  refine wpList_run rfl (.bool false) (by simp [go_sem]) ?_
  simp only [Act.put, List.setIfInBounds_toArray, List.set_cons_zero, List.set_cons_succ]
  have hA : Hid (RowAt c 5 (opc 5 m (.slice uo l uc) true (.slice qo kk qc)) w1) := hH1.out
  have EA : Hid (Ext W w1) := hE1.out
  have hP : Hid (PV (.slice uo l uc) l f w1) := hu.out.ext (Ext.trans hV.out hE1.out)
  have hpb : Hid (∀ a, 0 < l → uo = some a → (∀ i, F i → i ≠ a.block) ∧ a.block < w1.heap.size) := fun a h0 ea => ⟨fun i hi e => by have := hu.out.lt a h0 ea; have := hFV.out i hi; omega, Nat.lt_of_lt_of_le (hu.out.lt a h0 ea) (Below.size (Ext.trans hV.out hE1.out))⟩
  have hcA : Hid (c < w1.heap.size) := by show c < w1.heap.size; rw [hz1.out, hc.out]; omega
  have hbl : l ≤ 140737488355328 := hl
  clear hH1 hE1 hz1 e2 e3
  have e0 : w1.cell? ⟨c, 0, none⟩ = some (.int .i64 5) := hA.out.1 0 (by decide)
  go_upto_region 4 with (fail)
  refine wp_region_lit ?_
  refine wpList_run rfl (.pointer (some ⟨c, 0, none⟩)) (by simp [go_sem]) ?_
  simp only [Act.put, List.setIfInBounds_toArray, List.set_cons_zero, List.set_cons_succ]
  refine wpList_run rfl (.int .i64 5) (by simp [go_sem, e0]) ?_
  simp only [Act.put, List.setIfInBounds_toArray, List.set_cons_zero, List.set_cons_succ]
  clear e0
  go_upto_region 5 with (fail)
  refine wp_region_lit ?_
  refine wpList_run rfl (.bool false) (by simp [go_sem]) ?_
  simp only [Act.put, List.setIfInBounds_toArray, List.set_cons_zero, List.set_cons_succ]
  refine wpList_run rfl (.bool false) (by simp [go_sem]) ?_
  simp only [Act.put, List.setIfInBounds_toArray, List.set_cons_zero, List.set_cons_succ]
  go_upto_region 13 with (fail)
  refine wp_region_lit ?_
  refine wpList_run rfl (.bool false) (by simp [go_sem]) ?_
  simp only [Act.put, List.setIfInBounds_toArray, List.set_cons_zero, List.set_cons_succ]
  refine wpList_run rfl (.bool false) (by simp [go_sem]) ?_
  simp only [Act.put, List.setIfInBounds_toArray, List.set_cons_zero, List.set_cons_succ]
  go_upto_region 17 with (fail)
  refine wp_region_lit ?_
  refine wpList_run rfl (.bool false) (by simp [go_sem]) ?_
  simp only [Act.put, List.setIfInBounds_toArray, List.set_cons_zero, List.set_cons_succ]
  refine wpList_run rfl (.bool false) (by simp [go_sem]) ?_
  simp only [Act.put, List.setIfInBounds_toArray, List.set_cons_zero, List.set_cons_succ]
  go_upto_region 19 with (fail)
  refine wp_region_lit ?_
  refine wpList_run rfl (.bool false) (by simp [go_sem]) ?_
  simp only [Act.put, List.setIfInBounds_toArray, List.set_cons_zero, List.set_cons_succ]
  refine wpList_run rfl (.bool false) (by simp [go_sem]) ?_
  simp only [Act.put, List.setIfInBounds_toArray, List.set_cons_zero, List.set_cons_succ]
  go_upto_region 21 with (fail)
  refine wp_region_lit ?_
  refine wpList_run rfl (.bool true) (by simp [go_sem]) ?_
  simp only [Act.put, List.setIfInBounds_toArray, List.set_cons_zero, List.set_cons_succ]
  refine wpList_run rfl (.bool true) (by simp [go_sem]) ?_
  simp only [Act.put, List.setIfInBounds_toArray, List.set_cons_zero, List.set_cons_succ]
  have hD : Ext w1 w1.drew := (Ext.refl w1).draw
  have EW := hideit (Ext.trans EA.out hD)
  have hAD := hideit (hA.out.carry hD)
  have kd := hideit (tamD (h.out.d.ext EW.out) m uo l uc f (hP.out.ext hD))
  go_upto_region 22 with (fail)
  refine wp_region_ladz (fun X => RowAt c 5 (opc 5 m (.slice uo l uc) true (.slice qo kk qc)) X) [] [(false, 0), (false, 1), (false, 2), (false, 3), (false, 5), (false, 6), (false, 7), (false, 8), (true, 4), (true, 9), (false, 10), (false, 11)] (by kernel_rfl) (by kernel_rfl) (by decide +kernel) (by decide +kernel) (by decide +kernel) (by decide +kernel) hAD.out ?_
  refine wpZ_f _ (.pointer (some ⟨p, 0, none⟩)) rfl rfl (fun X _ => by simp [go_sem]) ?_
  simp only [List.getElem_toArray, List.getElem_cons_zero, Act.put, List.setIfInBounds_toArray, List.set_cons_zero, List.set_cons_succ]
  refine wpZ_f _ (.pointer (some ⟨c, 1, none⟩)) rfl rfl (fun X _ => by simp [go_sem]) ?_
  simp only [List.getElem_toArray, List.getElem_cons_zero, List.getElem_cons_succ, Act.put, List.setIfInBounds_toArray, List.set_cons_zero, List.set_cons_succ]
  refine wpZ_f _ (.int .i64 m) rfl rfl (fun X hX => by have e := hX.1 1 (by decide); rw [show (opc 5 m (.slice uo l uc) true (.slice qo kk qc)) 1 = .int .i64 m from rfl] at e; simp [go_sem, e]) ?_
  simp only [List.getElem_toArray, List.getElem_cons_zero, List.getElem_cons_succ, Act.put, List.setIfInBounds_toArray, List.set_cons_zero, List.set_cons_succ]
  refine wpZ_f _ (.slice uo l uc) rfl rfl (fun X _ => by simp [go_sem]) ?_
  simp only [List.getElem_toArray, List.getElem_cons_zero, List.getElem_cons_succ, Act.put, List.setIfInBounds_toArray, List.set_cons_zero, List.set_cons_succ]
  refine wpZ_f _ (.pointer (some ⟨x, 0, none⟩)) rfl rfl (fun X _ => by simp [go_sem]) ?_
  simp only [List.getElem_toArray, List.getElem_cons_zero, List.getElem_cons_succ, Act.put, List.setIfInBounds_toArray, List.set_cons_zero, List.set_cons_succ]
  refine wpZ_f _ (.pointer (some ⟨c, 1, none⟩)) rfl rfl (fun X _ => by simp [go_sem]) ?_
  simp only [List.getElem_toArray, List.getElem_cons_zero, List.getElem_cons_succ, Act.put, List.setIfInBounds_toArray, List.set_cons_zero, List.set_cons_succ]
  refine wpZ_f _ (.int .i64 m) rfl rfl (fun X hX => by have e := hX.1 1 (by decide); rw [show (opc 5 m (.slice uo l uc) true (.slice qo kk qc)) 1 = .int .i64 m from rfl] at e; simp [go_sem, e]) ?_
  simp only [List.getElem_toArray, List.getElem_cons_zero, List.getElem_cons_succ, Act.put, List.setIfInBounds_toArray, List.set_cons_zero, List.set_cons_succ]
  refine wpZ_f _ (.slice uo l uc) rfl rfl (fun X _ => by simp [go_sem]) ?_
  simp only [List.getElem_toArray, List.getElem_cons_zero, List.getElem_cons_succ, Act.put, List.setIfInBounds_toArray, List.set_cons_zero, List.set_cons_succ]
  refine wpZ_call _ rfl rfl (by simp [go_sem]) ((kd.out).mono ?_)
  rintro e w7 ⟨rfl, M7, hd7, hk7⟩
  have hA7 := hAD.out.keep hk7 (fun e => by have := hlF.out c e; have := hc.out; omega)
  refine ⟨_, rfl, fun X => RowAt c 5 (opc 5 m (.slice uo l uc) true (.slice qo kk qc)) X, .inr fun X hX => hX, hA7, ?_⟩
  simp only [List.getElem_toArray, List.getElem_cons_zero, List.getElem_cons_succ, Act.put, List.setIfInBounds_toArray, List.set_cons_zero, List.set_cons_succ]
  have hK7 : Keeps F W w7 := (Keeps.of_ext EW.out).trans (F' := F) hk7 fun i hi => .inl hi
  have hr := h.out.r.keep hK7 fun i hi hf => h.out.ap i hf hi
  have hP7 := (hP.out.ext hD).keep hk7 (fun a h0 ea e => (hpb.out a h0 ea).1 _ e rfl)
  have kr := hideit (tamR hr m uo l uc f hP7)
  refine wpZ_call _ rfl rfl (by simp [go_sem]) ((kr.out).mono ?_)
  rintro e w8 ⟨rfl, R8, hbb, hr8, hk8⟩
  have hA8 := hA7.keep hk8 (fun e => by
    have := hlG.out _ h.out.r.gx
    have := hlG.out _ h.out.r.gb
    have := hc.out
    omega)
  refine ⟨_, rfl, fun X => RowAt c 5 (opc 5 m (.slice uo l uc) true (.slice qo kk qc)) X, .inr fun X hX => hX, hA8, ?_⟩
  simp only [List.getElem_toArray, List.getElem_cons_zero, List.getElem_cons_succ, Act.put, List.setIfInBounds_toArray, List.set_cons_zero, List.set_cons_succ]
  refine wpZ_f _ (.bool true) rfl rfl (fun X _ => by simp [go_sem]) ?_
  simp only [List.getElem_toArray, List.getElem_cons_zero, List.getElem_cons_succ, Act.put, List.setIfInBounds_toArray, List.set_cons_zero, List.set_cons_succ]
  refine wpZ_f _ (.bool true) rfl rfl (fun X _ => by simp [go_sem]) ?_
  simp only [List.getElem_toArray, List.getElem_cons_zero, List.getElem_cons_succ, Act.put, List.setIfInBounds_toArray, List.set_cons_zero, List.set_cons_succ]
  refine wpZ_nil ?_
  obtain ⟨q1, q2⟩ := h.out.step (Ext.refl _) hd7 hK7 (Ext.refl _) (fun i hi => .inl hi) hr8 hk8 (fun i hi => .inl hi) (by rw [tS_pw]; exact h.out.on) (by rw [tS_pw]; exact h.out.no)
  have hN : Hid ((tS s m l f).N = s.N) := by show (tS s m l f).N = s.N; unfold tS; split <;> rfl
  replace q1 := hideit (q1.mono (Nat.le_succ C))
  replace q2 := hideit q2
  clear kd kr hd7 hk7 hK7 hr hr8 hk8 hbb hA7 hA8 hP7 hAD hD
  go_wp2
  go_ret
  exact ⟨rfl, _, _, _, _, _, _, _, hN.out, q1.out, q2.out⟩
set_option maxRecDepth 20000 in
set_option maxHeartbeats 8000000 in
theorem does_5_g {F G : Nat → Prop} {p x : Nat} {s : DSt} {C : Nat} {M : DM} {stp : Bool} {cl : Int} {R : RM} {W : World} (h : Tw F G p x s C M stp cl R W) (V : World) (hV : Ext V W) (hFV : ∀ i, F i → V.heap.size ≤ i) (hGV : ∀ i, G i → V.heap.size ≤ i) (m : Int) (hm : okI m) (uo : Option Addr) (l uc : Nat) (f : Nat → BitVec 8) (hu : PV (.slice uo l uc) l f V) (hl : l ≤ 140737488355328) (qo : Option Addr) (kk qc : Nat) (kb kw : Nat → Int) (hq : KP (.slice qo kk qc) kk kb kw V) (hkk : kk * 16 ≤ 140737488355328) (hok : ∀ i, i < kk → okI (kb i) ∧ okI (kw i)) (hC : C ≤ 4398046511000) : Calls Try.prog 14 #[.pointer (some ⟨p, 0, none⟩), .pointer (some ⟨x, 0, none⟩), .agg #[.int .i64 5, .int .i64 m, .slice uo l uc, .bool false, .slice qo kk qc]] W (DoP F G p x s C W) := by
  have hH1 := opRow W 5 m (.slice uo l uc) false (.slice qo kk qc)
  have hE1 : Ext W (W.alloc (.cells #[.int .i64 5, .int .i64 m, .slice uo l uc, .bool false, .slice qo kk qc] 34)) := (Below.refl _ _).alloc (Nat.le_refl _) _
  have hz1 : (W.alloc (.cells #[.int .i64 5, .int .i64 m, .slice uo l uc, .bool false, .slice qo kk qc] 34)).heap.size = W.heap.size + 1 := by simp
  have hlF : Hid (∀ i, F i → i < W.heap.size) := h.d.lt
  have hlG : Hid (∀ i, G i → i < W.heap.size) := h.r.lt
  have hun := And.intro hkk hC
  clear hun
  replace h := hideit h
  replace hu := hideit hu
  replace hq := hideit hq
  replace hok := hideit hok
  replace hFV := hideit hFV
  replace hGV := hideit hGV
  replace hV := hideit hV
  replace hm := hideit hm
  go_enter Try.func14, Try.ntmps14
  go_upto_region 0 with (fail)
  refine wp_region_lit ?_
  refine wpList_to rfl (.pointer (some ⟨W.heap.size, 0, none⟩)) (W.alloc (.cells #[.int .i64 5, .int .i64 m, .slice uo l uc, .bool false, .slice qo kk qc] 34)) (by simp [go_sem]) ?_
  simp only [Act.put, List.setIfInBounds_toArray, List.set_cons_zero, List.set_cons_succ]
  refine wpList_run rfl (.bool false) (by simp [go_sem]) ?_
  simp only [Act.put, List.setIfInBounds_toArray, List.set_cons_zero, List.set_cons_succ]
  generalize W.alloc (.cells #[.int .i64 5, .int .i64 m, .slice uo l uc, .bool false, .slice qo kk qc] 34) = w1 at *
  obtain ⟨c, hc⟩ : ∃ c, c = W.heap.size := ⟨_, rfl⟩
  rw [← hc] at hH1 ⊢
  replace hc := hideit hc
  replace hE1 := hideit hE1
  replace hz1 := hideit hz1
  have e2 : w1.cell? ⟨c, 2, none⟩ = some (.slice uo l uc) := hH1.1 2 (by decide)
  have e3 : w1.cell? ⟨c, 3, none⟩ = some (.bool false) := hH1.1 3 (by decide)
  replace hH1 := hideit hH1
  go_upto_region 1 with (fail)
  refine wp_region_lit ?_
  refine wpList_run rfl (.pointer (some ⟨c, 2, none⟩)) (by simp [go_sem]) ?_
  simp only [Act.put, List.setIfInBounds_toArray, List.set_cons_zero, List.set_cons_succ]
  refine wpList_run rfl (.slice uo l uc) (by simp [go_sem, e2]) ?_
  simp only [Act.put, List.setIfInBounds_toArray, List.set_cons_zero, List.set_cons_succ]
  refine wpList_run rfl (.slice uo l uc) (by simp [go_sem]) ?_
  simp only [Act.put, List.setIfInBounds_toArray, List.set_cons_zero, List.set_cons_succ]
  go_upto_region 2 with (fail)
  refine wp_region_lit ?_
  refine wpList_run rfl (.pointer (some ⟨c, 3, none⟩)) (by simp [go_sem]) ?_
  simp only [Act.put, List.setIfInBounds_toArray, List.set_cons_zero, List.set_cons_succ]
  refine wpList_run rfl (.bool false) (by simp [go_sem, e3]) ?_
  simp only [Act.put, List.setIfInBounds_toArray, List.set_cons_zero, List.set_cons_succ]
  refine wpList_run rfl (.bool true) (by simp [go_sem]) ?_
  simp only [Act.put, List.setIfInBounds_toArray, List.set_cons_zero, List.set_cons_succ]
  have kb4 := hideit (block_pv (.slice uo l uc) l f w1 (hu.out.ext (Ext.trans hV.out hE1.out)) (by unfold maxLen; omega))
  go_upto_region 3 with (fail)
  refine wp_region_lit ?_
  refine wpList_run rfl (.pointer (some ⟨c, 2, none⟩)) (by simp [go_sem]) ?_
  simp only [Act.put, List.setIfInBounds_toArray, List.set_cons_zero, List.set_cons_succ]
  refine wpList_run rfl (.slice uo l uc) (by simp [go_sem, e2]) ?_
  simp only [Act.put, List.setIfInBounds_toArray, List.set_cons_zero, List.set_cons_succ]
  refine wpList_call rfl (by simp [go_sem]) ((kb4.out).mono ?_)
  rintro e w4 ⟨v4, rfl, hO4, hX4⟩
  refine ⟨_, rfl, ?_⟩
  simp only [Act.put, List.setIfInBounds_toArray, List.set_cons_zero, List.set_cons_succ]
  obtain ⟨o4, c4, rfl⟩ := b512 hO4
  refine wpList_run rfl (.slice o4 512 c4) (by simp [go_sem]) ?_
  simp only [Act.put, List.setIfInBounds_toArray, List.set_cons_zero, List.set_cons_succ]
  have hA : Hid (RowAt c 5 (opc 5 m (.slice uo l uc) false (.slice qo kk qc)) w4) := hH1.out.carry hX4
  have EA : Hid (Ext W w4) := Ext.trans hE1.out hX4
  have hP : Hid (PV (.slice o4 512 c4) 512 (blkF l f) w4) := hO4.bv.pv
  have hpb : Hid (∀ a, 0 < 512 → o4 = some a → (∀ i, F i → i ≠ a.block) ∧ a.block < w4.heap.size) := fun a _ ea => by
    have hb := hO4.lt a.block (by rw [ea]; rfl)
    exact ⟨fun i hi e => by have := hlF.out i hi; have := hz1.out; omega, hb.2⟩
  have hcA : Hid (c < w4.heap.size) := by show c < w4.heap.size; have := Below.size hX4; have := hz1.out; rw [hc.out]; omega
  have hbl : 512 ≤ 140737488355328 := by decide
  clear hH1 hE1 hz1 e2 e3 kb4 hO4 hX4
  have e0 : w4.cell? ⟨c, 0, none⟩ = some (.int .i64 5) := hA.out.1 0 (by decide)
  go_upto_region 4 with (fail)
  refine wp_region_lit ?_
  refine wpList_run rfl (.pointer (some ⟨c, 0, none⟩)) (by simp [go_sem]) ?_
  simp only [Act.put, List.setIfInBounds_toArray, List.set_cons_zero, List.set_cons_succ]
  refine wpList_run rfl (.int .i64 5) (by simp [go_sem, e0]) ?_
  simp only [Act.put, List.setIfInBounds_toArray, List.set_cons_zero, List.set_cons_succ]
  clear e0
  go_upto_region 5 with (fail)
  refine wp_region_lit ?_
  refine wpList_run rfl (.bool false) (by simp [go_sem]) ?_
  simp only [Act.put, List.setIfInBounds_toArray, List.set_cons_zero, List.set_cons_succ]
  refine wpList_run rfl (.bool false) (by simp [go_sem]) ?_
  simp only [Act.put, List.setIfInBounds_toArray, List.set_cons_zero, List.set_cons_succ]
  go_upto_region 13 with (fail)
  refine wp_region_lit ?_
  refine wpList_run rfl (.bool false) (by simp [go_sem]) ?_
  simp only [Act.put, List.setIfInBounds_toArray, List.set_cons_zero, List.set_cons_succ]
  refine wpList_run rfl (.bool false) (by simp [go_sem]) ?_
  simp only [Act.put, List.setIfInBounds_toArray, List.set_cons_zero, List.set_cons_succ]
  go_upto_region 17 with (fail)
  refine wp_region_lit ?_
  refine wpList_run rfl (.bool false) (by simp [go_sem]) ?_
  simp only [Act.put, List.setIfInBounds_toArray, List.set_cons_zero, List.set_cons_succ]
  refine wpList_run rfl (.bool false) (by simp [go_sem]) ?_
  simp only [Act.put, List.setIfInBounds_toArray, List.set_cons_zero, List.set_cons_succ]
  go_upto_region 19 with (fail)
  refine wp_region_lit ?_
  refine wpList_run rfl (.bool false) (by simp [go_sem]) ?_
  simp only [Act.put, List.setIfInBounds_toArray, List.set_cons_zero, List.set_cons_succ]
  refine wpList_run rfl (.bool false) (by simp [go_sem]) ?_
  simp only [Act.put, List.setIfInBounds_toArray, List.set_cons_zero, List.set_cons_succ]
  go_upto_region 21 with (fail)
  refine wp_region_lit ?_
  refine wpList_run rfl (.bool true) (by simp [go_sem]) ?_
  simp only [Act.put, List.setIfInBounds_toArray, List.set_cons_zero, List.set_cons_succ]
  refine wpList_run rfl (.bool true) (by simp [go_sem]) ?_
  simp only [Act.put, List.setIfInBounds_toArray, List.set_cons_zero, List.set_cons_succ]
  have hD : Ext w4 w4.drew := (Ext.refl w4).draw
  have EW := hideit (Ext.trans EA.out hD)
  have hAD := hideit (hA.out.carry hD)
  have kd := hideit (tamD (h.out.d.ext EW.out) m o4 512 c4 (blkF l f) (hP.out.ext hD))
  go_upto_region 22 with (fail)
  refine wp_region_ladz (fun X => RowAt c 5 (opc 5 m (.slice uo l uc) false (.slice qo kk qc)) X) [] [(false, 0), (false, 1), (false, 2), (false, 3), (false, 5), (false, 6), (false, 7), (false, 8), (true, 4), (true, 9), (false, 10), (false, 11)] (by kernel_rfl) (by kernel_rfl) (by decide +kernel) (by decide +kernel) (by decide +kernel) (by decide +kernel) hAD.out ?_
  refine wpZ_f _ (.pointer (some ⟨p, 0, none⟩)) rfl rfl (fun X _ => by simp [go_sem]) ?_
  simp only [List.getElem_toArray, List.getElem_cons_zero, Act.put, List.setIfInBounds_toArray, List.set_cons_zero, List.set_cons_succ]
  refine wpZ_f _ (.pointer (some ⟨c, 1, none⟩)) rfl rfl (fun X _ => by simp [go_sem]) ?_
  simp only [List.getElem_toArray, List.getElem_cons_zero, List.getElem_cons_succ, Act.put, List.setIfInBounds_toArray, List.set_cons_zero, List.set_cons_succ]
  refine wpZ_f _ (.int .i64 m) rfl rfl (fun X hX => by have e := hX.1 1 (by decide); rw [show (opc 5 m (.slice uo l uc) false (.slice qo kk qc)) 1 = .int .i64 m from rfl] at e; simp [go_sem, e]) ?_
  simp only [List.getElem_toArray, List.getElem_cons_zero, List.getElem_cons_succ, Act.put, List.setIfInBounds_toArray, List.set_cons_zero, List.set_cons_succ]
  refine wpZ_f _ (.slice o4 512 c4) rfl rfl (fun X _ => by simp [go_sem]) ?_
  simp only [List.getElem_toArray, List.getElem_cons_zero, List.getElem_cons_succ, Act.put, List.setIfInBounds_toArray, List.set_cons_zero, List.set_cons_succ]
  refine wpZ_f _ (.pointer (some ⟨x, 0, none⟩)) rfl rfl (fun X _ => by simp [go_sem]) ?_
  simp only [List.getElem_toArray, List.getElem_cons_zero, List.getElem_cons_succ, Act.put, List.setIfInBounds_toArray, List.set_cons_zero, List.set_cons_succ]
  refine wpZ_f _ (.pointer (some ⟨c, 1, none⟩)) rfl rfl (fun X _ => by simp [go_sem]) ?_
  simp only [List.getElem_toArray, List.getElem_cons_zero, List.getElem_cons_succ, Act.put, List.setIfInBounds_toArray, List.set_cons_zero, List.set_cons_succ]
  refine wpZ_f _ (.int .i64 m) rfl rfl (fun X hX => by have e := hX.1 1 (by decide); rw [show (opc 5 m (.slice uo l uc) false (.slice qo kk qc)) 1 = .int .i64 m from rfl] at e; simp [go_sem, e]) ?_
  simp only [List.getElem_toArray, List.getElem_cons_zero, List.getElem_cons_succ, Act.put, List.setIfInBounds_toArray, List.set_cons_zero, List.set_cons_succ]
  refine wpZ_f _ (.slice o4 512 c4) rfl rfl (fun X _ => by simp [go_sem]) ?_
  simp only [List.getElem_toArray, List.getElem_cons_zero, List.getElem_cons_succ, Act.put, List.setIfInBounds_toArray, List.set_cons_zero, List.set_cons_succ]
  refine wpZ_call _ rfl rfl (by simp [go_sem]) ((kd.out).mono ?_)
  rintro e w7 ⟨rfl, M7, hd7, hk7⟩
  have hA7 := hAD.out.keep hk7 (fun e => by have := hlF.out c e; have := hc.out; omega)
  refine ⟨_, rfl, fun X => RowAt c 5 (opc 5 m (.slice uo l uc) false (.slice qo kk qc)) X, .inr fun X hX => hX, hA7, ?_⟩
  simp only [List.getElem_toArray, List.getElem_cons_zero, List.getElem_cons_succ, Act.put, List.setIfInBounds_toArray, List.set_cons_zero, List.set_cons_succ]
  have hK7 : Keeps F W w7 := (Keeps.of_ext EW.out).trans (F' := F) hk7 fun i hi => .inl hi
  have hr := h.out.r.keep hK7 fun i hi hf => h.out.ap i hf hi
  have hP7 := (hP.out.ext hD).keep hk7 (fun a h0 ea e => (hpb.out a h0 ea).1 _ e rfl)
  have kr := hideit (tamR hr m o4 512 c4 (blkF l f) hP7)
  refine wpZ_call _ rfl rfl (by simp [go_sem]) ((kr.out).mono ?_)
  rintro e w8 ⟨rfl, R8, hbb, hr8, hk8⟩
  have hA8 := hA7.keep hk8 (fun e => by
    have := hlG.out _ h.out.r.gx
    have := hlG.out _ h.out.r.gb
    have := hc.out
    omega)
  refine ⟨_, rfl, fun X => RowAt c 5 (opc 5 m (.slice uo l uc) false (.slice qo kk qc)) X, .inr fun X hX => hX, hA8, ?_⟩
  simp only [List.getElem_toArray, List.getElem_cons_zero, List.getElem_cons_succ, Act.put, List.setIfInBounds_toArray, List.set_cons_zero, List.set_cons_succ]
  refine wpZ_f _ (.bool true) rfl rfl (fun X _ => by simp [go_sem]) ?_
  simp only [List.getElem_toArray, List.getElem_cons_zero, List.getElem_cons_succ, Act.put, List.setIfInBounds_toArray, List.set_cons_zero, List.set_cons_succ]
  refine wpZ_f _ (.bool true) rfl rfl (fun X _ => by simp [go_sem]) ?_
  simp only [List.getElem_toArray, List.getElem_cons_zero, List.getElem_cons_succ, Act.put, List.setIfInBounds_toArray, List.set_cons_zero, List.set_cons_succ]
  refine wpZ_nil ?_
  obtain ⟨q1, q2⟩ := h.out.step (Ext.refl _) hd7 hK7 (Ext.refl _) (fun i hi => .inl hi) hr8 hk8 (fun i hi => .inl hi) (by rw [tS_pw]; exact h.out.on) (by rw [tS_pw]; exact h.out.no)
  have hN : Hid ((tS s m 512 (blkF l f)).N = s.N) := by show (tS s m 512 (blkF l f)).N = s.N; unfold tS; split <;> rfl
  replace q1 := hideit (q1.mono (Nat.le_succ C))
  replace q2 := hideit q2
  clear kd kr hd7 hk7 hK7 hr hr8 hk8 hbb hA7 hA8 hP7 hAD hD
  go_wp2
  go_ret
  exact ⟨rfl, _, _, _, _, _, _, _, hN.out, q1.out, q2.out⟩
end Go.Proofs.Ytfaeieaelfjlpaa
