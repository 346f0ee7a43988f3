/-
  One call of both disks (Do6). One call of both disks, whatever it is.
-/
import Derived.Test.YtfaeieaelfjlpaaQ35
import Derived.Test.YtfaeieaelfjlpaaQ36
import Derived.Test.YtfaeieaelfjlpaaQ37
namespace Go.Proofs.Ytfaeieaelfjlpaa
open Go.RowKit Go.BigFrame Go.Maps
set_option maxRecDepth 20000 in
set_option maxHeartbeats 8000000 in
theorem does_6_b {F G : Nat → Prop} {p x : Nat} {s : DSt} {C : Nat} {M : DM} {stp : Bool} {cl : Int} {R : RM} {W : World} (h : Tw F G p x s C M stp cl R W) (V : World) (hV : Ext V W) (hFV : ∀ i, F i → V.heap.size ≤ i) (hGV : ∀ i, G i → V.heap.size ≤ i) (m : Int) (hm : okI m) (uo : Option Addr) (l uc : Nat) (f : Nat → BitVec 8) (hu : PV (.slice uo l uc) l f V) (hl : l ≤ 140737488355328) (qo : Option Addr) (kk qc : Nat) (kb kw : Nat → Int) (hq : KP (.slice qo kk qc) kk kb kw V) (hkk : kk * 16 ≤ 140737488355328) (hok : ∀ i, i < kk → okI (kb i) ∧ okI (kw i)) (hC : C ≤ 4398046511000) : Calls Try.prog 14 #[.pointer (some ⟨p, 0, none⟩), .pointer (some ⟨x, 0, none⟩), .agg #[.int .i64 6, .int .i64 m, .slice uo l uc, .bool true, .slice qo kk qc]] W (DoP F G p x s C W) := by
  have hH1 := opRow W 6 m (.slice uo l uc) true (.slice qo kk qc)
  have hE1 : Ext W (W.alloc (.cells #[.int .i64 6, .int .i64 m, .slice uo l uc, .bool true, .slice qo kk qc] 34)) := (Below.refl _ _).alloc (Nat.le_refl _) _
  have hz1 : (W.alloc (.cells #[.int .i64 6, .int .i64 m, .slice uo l uc, .bool true, .slice qo kk qc] 34)).heap.size = W.heap.size + 1 := by simp
  have hlF : Hid (∀ i, F i → i < W.heap.size) := h.d.lt
  have hlG : Hid (∀ i, G i → i < W.heap.size) := h.r.lt
  have hun := And.intro hkk hC
  clear hun
  replace h := hideit h
  replace hu := hideit hu
  replace hq := hideit hq
  replace hok := hideit hok
  replace hFV := hideit hFV
  replace hGV := hideit hGV
  replace hV := hideit hV
  replace hm := hideit hm
  go_enter Try.func14, Try.ntmps14
  go_upto_region 0 with (fail)
  refine wp_region_lit ?_
  refine wpList_to rfl (.pointer (some ⟨W.heap.size, 0, none⟩)) (W.alloc (.cells #[.int .i64 6, .int .i64 m, .slice uo l uc, .bool true, .slice qo kk qc] 34)) (by simp [go_sem]) ?_
  simp only [Act.put, List.setIfInBounds_toArray, List.set_cons_zero, List.set_cons_succ]
  refine wpList_run rfl (.bool false) (by simp [go_sem]) ?_
  simp only [Act.put, List.setIfInBounds_toArray, List.set_cons_zero, List.set_cons_succ]
  generalize W.alloc (.cells #[.int .i64 6, .int .i64 m, .slice uo l uc, .bool true, .slice qo kk qc] 34) = w1 at *
  obtain ⟨c, hc⟩ : ∃ c, c = W.heap.size := ⟨_, rfl⟩
  rw [← hc] at hH1 ⊢
  replace hc := hideit hc
  replace hE1 := hideit hE1
  replace hz1 := hideit hz1
  have e2 : w1.cell? ⟨c, 2, none⟩ = some (.slice uo l uc) := hH1.1 2 (by decide)
  have e3 : w1.cell? ⟨c, 3, none⟩ = some (.bool true) := hH1.1 3 (by decide)
  replace hH1 := hideit hH1
  go_upto_region 1 with (fail)
  refine wp_region_lit ?_
  refine wpList_run rfl (.pointer (some ⟨c, 2, none⟩)) (by simp [go_sem]) ?_
  simp only [Act.put, List.setIfInBounds_toArray, List.set_cons_zero, List.set_cons_succ]
  refine wpList_run rfl (.slice uo l uc) (by simp [go_sem, e2]) ?_
  simp only [Act.put, List.setIfInBounds_toArray, List.set_cons_zero, List.set_cons_succ]
  refine wpList_run rfl (.slice uo l uc) (by simp [go_sem]) ?_
  simp only [Act.put, List.setIfInBounds_toArray, List.set_cons_zero, List.set_cons_succ]
  go_upto_region 2 with (fail)
  refine wp_region_lit ?_
  refine wpList_run rfl (.pointer (some ⟨c, 3, none⟩)) (by simp [go_sem]) ?_
  simp only [Act.put, List.setIfInBounds_toArray, List.set_cons_zero, List.set_cons_succ]
  refine wpList_run rfl (.bool true) (by simp [go_sem, e3]) ?_
  simp only [Act.put, List.setIfInBounds_toArray, List.set_cons_zero, List.set_cons_succ]
  refine wpList_run rfl (.bool false) (by simp [go_sem]) ?_
  simp only [Act.put, List.setIfInBounds_toArray, List.set_cons_zero, List.set_cons_succ]
  have hA : Hid (RowAt c 5 (opc 6 m (.slice uo l uc) true (.slice qo kk qc)) w1) := hH1.out
  have EA : Hid (Ext W w1) := hE1.out
  have hP : Hid (PV (.slice uo l uc) l f w1) := hu.out.ext (Ext.trans hV.out hE1.out)
  have hpb : Hid (∀ a, 0 < l → uo = some a → (∀ i, F i → i ≠ a.block) ∧ a.block < w1.heap.size) := fun a h0 ea => ⟨fun i hi e => by have := hu.out.lt a h0 ea; have := hFV.out i hi; omega, Nat.lt_of_lt_of_le (hu.out.lt a h0 ea) (Below.size (Ext.trans hV.out hE1.out))⟩
  have hcA : Hid (c < w1.heap.size) := by show c < w1.heap.size; rw [hz1.out, hc.out]; omega
  have hbl : l ≤ 140737488355328 := hl
  clear hH1 hE1 hz1 e2 e3
  have e0 : w1.cell? ⟨c, 0, none⟩ = some (.int .i64 6) := hA.out.1 0 (by decide)
  go_upto_region 4 with (fail)
  refine wp_region_lit ?_
  refine wpList_run rfl (.pointer (some ⟨c, 0, none⟩)) (by simp [go_sem]) ?_
  simp only [Act.put, List.setIfInBounds_toArray, List.set_cons_zero, List.set_cons_succ]
  refine wpList_run rfl (.int .i64 6) (by simp [go_sem, e0]) ?_
  simp only [Act.put, List.setIfInBounds_toArray, List.set_cons_zero, List.set_cons_succ]
  clear e0
  go_upto_region 5 with (fail)
  refine wp_region_lit ?_
  refine wpList_run rfl (.bool false) (by simp [go_sem]) ?_
  simp only [Act.put, List.setIfInBounds_toArray, List.set_cons_zero, List.set_cons_succ]
  refine wpList_run rfl (.bool false) (by simp [go_sem]) ?_
  simp only [Act.put, List.setIfInBounds_toArray, List.set_cons_zero, List.set_cons_succ]
  go_upto_region 13 with (fail)
  refine wp_region_lit ?_
  refine wpList_run rfl (.bool false) (by simp [go_sem]) ?_
  simp only [Act.put, List.setIfInBounds_toArray, List.set_cons_zero, List.set_cons_succ]
  refine wpList_run rfl (.bool false) (by simp [go_sem]) ?_
  simp only [Act.put, List.setIfInBounds_toArray, List.set_cons_zero, List.set_cons_succ]
  go_upto_region 17 with (fail)
  refine wp_region_lit ?_
  refine wpList_run rfl (.bool false) (by simp [go_sem]) ?_
  simp only [Act.put, List.setIfInBounds_toArray, List.set_cons_zero, List.set_cons_succ]
  refine wpList_run rfl (.bool false) (by simp [go_sem]) ?_
  simp only [Act.put, List.setIfInBounds_toArray, List.set_cons_zero, List.set_cons_succ]
  go_upto_region 19 with (fail)
  refine wp_region_lit ?_
  refine wpList_run rfl (.bool false) (by simp [go_sem]) ?_
  simp only [Act.put, List.setIfInBounds_toArray, List.set_cons_zero, List.set_cons_succ]
  refine wpList_run rfl (.bool false) (by simp [go_sem]) ?_
  simp only [Act.put, List.setIfInBounds_toArray, List.set_cons_zero, List.set_cons_succ]
  go_upto_region 21 with (fail)
  refine wp_region_lit ?_
  refine wpList_run rfl (.bool false) (by simp [go_sem]) ?_
  simp only [Act.put, List.setIfInBounds_toArray, List.set_cons_zero, List.set_cons_succ]
  refine wpList_run rfl (.bool false) (by simp [go_sem]) ?_
  simp only [Act.put, List.setIfInBounds_toArray, List.set_cons_zero, List.set_cons_succ]
  go_upto_region 23 with (fail)
  refine wp_region_lit ?_
  refine wpList_run rfl (.bool true) (by simp [go_sem]) ?_
  simp only [Act.put, List.setIfInBounds_toArray, List.set_cons_zero, List.set_cons_succ]
  refine wpList_run rfl (.bool true) (by simp [go_sem]) ?_
  simp only [Act.put, List.setIfInBounds_toArray, List.set_cons_zero, List.set_cons_succ]
  have e1 : w1.cell? ⟨c, 1, none⟩ = some (.int .i64 m) := hA.out.1 1 (by decide)
  have kd := hideit (dstop (h.out.d.ext EA.out) m (bounds_i64 hm.out))
  go_upto_region 24 with (fail)
  refine wp_region_lit ?_
  refine wpList_run rfl (.pointer (some ⟨p, 0, none⟩)) (by simp [go_sem]) ?_
  simp only [Act.put, List.setIfInBounds_toArray, List.set_cons_zero, List.set_cons_succ]
  refine wpList_run rfl (.pointer (some ⟨c, 1, none⟩)) (by simp [go_sem]) ?_
  simp only [Act.put, List.setIfInBounds_toArray, List.set_cons_zero, List.set_cons_succ]
  refine wpList_run rfl (.int .i64 m) (by simp [go_sem, e1]) ?_
  simp only [Act.put, List.setIfInBounds_toArray, List.set_cons_zero, List.set_cons_succ]
  refine wpList_call rfl (by simp [go_sem]) ((kd.out).mono ?_)
  rintro e w7 ⟨rfl, hd7, hk7⟩
  refine ⟨_, rfl, ?_⟩
  simp only [Act.put, List.setIfInBounds_toArray, List.set_cons_zero, List.set_cons_succ]
  have hK7 : Keeps F W w7 := (Keeps.of_ext EA.out).trans (F' := F) hk7 fun i hi => .inl hi
  have hr := h.out.r.keep hK7 fun i hi hf => h.out.ap i hf hi
  have e1' : w7.cell? ⟨c, 1, none⟩ = some (.int .i64 m) := (hA.out.keep hk7 (fun e => by have := hlF.out c e; have := hc.out; omega)).1 1 (by decide)
  have kr := hideit (rstop hr m (bounds_i64 hm.out))
  clear e1 kd
  go_upto_region 25 with (fail)
  refine wp_region_lit ?_
  refine wpList_run rfl (.pointer (some ⟨x, 0, none⟩)) (by simp [go_sem]) ?_
  simp only [Act.put, List.setIfInBounds_toArray, List.set_cons_zero, List.set_cons_succ]
  refine wpList_run rfl (.pointer (some ⟨c, 1, none⟩)) (by simp [go_sem]) ?_
  simp only [Act.put, List.setIfInBounds_toArray, List.set_cons_zero, List.set_cons_succ]
  refine wpList_run rfl (.int .i64 m) (by simp [go_sem, e1']) ?_
  simp only [Act.put, List.setIfInBounds_toArray, List.set_cons_zero, List.set_cons_succ]
  refine wpList_call rfl (by simp [go_sem]) ((kr.out).mono ?_)
  rintro e w8 ⟨rfl, hr8, hk8⟩
  refine ⟨_, rfl, ?_⟩
  simp only [Act.put, List.setIfInBounds_toArray, List.set_cons_zero, List.set_cons_succ]
  obtain ⟨q1, q2⟩ := h.out.step (s' := { s with pw := stE s.pw m }) (Ext.refl _) hd7 hK7 (Ext.refl _) (fun i hi => .inl hi) (hr8.congr rfl (fun _ _ => rfl) (fun _ _ => rfl) (fun _ _ => rfl)) hk8 (fun i hi => .inl hi) (st_on h.out m) (st_no h.out m)
  have kl := hideit (looks_any q1.d q1.r q1.off)
  replace q1 := hideit (q1.mono (Nat.le_succ C))
  replace q2 := hideit q2
  clear kr e1' hd7 hk7 hK7 hr hr8 hk8
  go_upto_region 26 with (fail)
  refine wp_region_lit ?_
  refine wpList_run rfl (.pointer (some ⟨p, 0, none⟩)) (by simp [go_sem]) ?_
  simp only [Act.put, List.setIfInBounds_toArray, List.set_cons_zero, List.set_cons_succ]
  refine wpList_run rfl (.pointer (some ⟨x, 0, none⟩)) (by simp [go_sem]) ?_
  simp only [Act.put, List.setIfInBounds_toArray, List.set_cons_zero, List.set_cons_succ]
  refine wpList_call rfl (by simp [go_sem]) ((kl.out).mono ?_)
  rintro e w9 ⟨rfl, hX9⟩
  refine ⟨_, rfl, ?_⟩
  simp only [Act.put, List.setIfInBounds_toArray, List.set_cons_zero, List.set_cons_succ]
  refine wpList_run rfl (.bool true) (by simp [go_sem]) ?_
  simp only [Act.put, List.setIfInBounds_toArray, List.set_cons_zero, List.set_cons_succ]
  have q3 := hideit (q1.out.ext hX9)
  have q4 := hideit (q2.out.trans (Stp.ext hX9))
  clear kl hX9 q1 q2
  go_wp2
  go_ret
  exact ⟨rfl, _, _, { s with pw := stE s.pw m }, _, _, _, _, rfl, q3.out, q4.out⟩
set_option maxRecDepth 20000 in
set_option maxHeartbeats 8000000 in
theorem does_6_g {F G : Nat → Prop} {p x : Nat} {s : DSt} {C : Nat} {M : DM} {stp : Bool} {cl : Int} {R : RM} {W : World} (h : Tw F G p x s C M stp cl R W) (V : World) (hV : Ext V W) (hFV : ∀ i, F i → V.heap.size ≤ i) (hGV : ∀ i, G i → V.heap.size ≤ i) (m : Int) (hm : okI m) (uo : Option Addr) (l uc : Nat) (f : Nat → BitVec 8) (hu : PV (.slice uo l uc) l f V) (hl : l ≤ 140737488355328) (qo : Option Addr) (kk qc : Nat) (kb kw : Nat → Int) (hq : KP (.slice qo kk qc) kk kb kw V) (hkk : kk * 16 ≤ 140737488355328) (hok : ∀ i, i < kk → okI (kb i) ∧ okI (kw i)) (hC : C ≤ 4398046511000) : Calls Try.prog 14 #[.pointer (some ⟨p, 0, none⟩), .pointer (some ⟨x, 0, none⟩), .agg #[.int .i64 6, .int .i64 m, .slice uo l uc, .bool false, .slice qo kk qc]] W (DoP F G p x s C W) := by
  have hH1 := opRow W 6 m (.slice uo l uc) false (.slice qo kk qc)
  have hE1 : Ext W (W.alloc (.cells #[.int .i64 6, .int .i64 m, .slice uo l uc, .bool false, .slice qo kk qc] 34)) := (Below.refl _ _).alloc (Nat.le_refl _) _
  have hz1 : (W.alloc (.cells #[.int .i64 6, .int .i64 m, .slice uo l uc, .bool false, .slice qo kk qc] 34)).heap.size = W.heap.size + 1 := by simp
  have hlF : Hid (∀ i, F i → i < W.heap.size) := h.d.lt
  have hlG : Hid (∀ i, G i → i < W.heap.size) := h.r.lt
  have hun := And.intro hkk hC
  clear hun
  replace h := hideit h
  replace hu := hideit hu
  replace hq := hideit hq
  replace hok := hideit hok
  replace hFV := hideit hFV
  replace hGV := hideit hGV
  replace hV := hideit hV
  replace hm := hideit hm
  go_enter Try.func14, Try.ntmps14
  go_upto_region 0 with (fail)
  refine wp_region_lit ?_
  refine wpList_to rfl (.pointer (some ⟨W.heap.size, 0, none⟩)) (W.alloc (.cells #[.int .i64 6, .int .i64 m, .slice uo l uc, .bool false, .slice qo kk qc] 34)) (by simp [go_sem]) ?_
  simp only [Act.put, List.setIfInBounds_toArray, List.set_cons_zero, List.set_cons_succ]
  refine wpList_run rfl (.bool false) (by simp [go_sem]) ?_
  simp only [Act.put, List.setIfInBounds_toArray, List.set_cons_zero, List.set_cons_succ]
  generalize W.alloc (.cells #[.int .i64 6, .int .i64 m, .slice uo l uc, .bool false, .slice qo kk qc] 34) = w1 at *
  obtain ⟨c, hc⟩ : ∃ c, c = W.heap.size := ⟨_, rfl⟩
  rw [← hc] at hH1 ⊢
  replace hc := hideit hc
  replace hE1 := hideit hE1
  replace hz1 := hideit hz1
  have e2 : w1.cell? ⟨c, 2, none⟩ = some (.slice uo l uc) := hH1.1 2 (by decide)
  have e3 : w1.cell? ⟨c, 3, none⟩ = some (.bool false) := hH1.1 3 (by decide)
  replace hH1 := hideit hH1
  go_upto_region 1 with (fail)
  refine wp_region_lit ?_
  refine wpList_run rfl (.pointer (some ⟨c, 2, none⟩)) (by simp [go_sem]) ?_
  simp only [Act.put, List.setIfInBounds_toArray, List.set_cons_zero, List.set_cons_succ]
  refine wpList_run rfl (.slice uo l uc) (by simp [go_sem, e2]) ?_
  simp only [Act.put, List.setIfInBounds_toArray, List.set_cons_zero, List.set_cons_succ]
  refine wpList_run rfl (.slice uo l uc) (by simp [go_sem]) ?_
  simp only [Act.put, List.setIfInBounds_toArray, List.set_cons_zero, List.set_cons_succ]
  go_upto_region 2 with (fail)
  refine wp_region_lit ?_
  refine wpList_run rfl (.pointer (some ⟨c, 3, none⟩)) (by simp [go_sem]) ?_
  simp only [Act.put, List.setIfInBounds_toArray, List.set_cons_zero, List.set_cons_succ]
  refine wpList_run rfl (.bool false) (by simp [go_sem, e3]) ?_
  simp only [Act.put, List.setIfInBounds_toArray, List.set_cons_zero, List.set_cons_succ]
  refine wpList_run rfl (.bool true) (by simp [go_sem]) ?_
  simp only [Act.put, List.setIfInBounds_toArray, List.set_cons_zero, List.set_cons_succ]
  have kb4 := hideit (block_pv (.slice uo l uc) l f w1 (hu.out.ext (Ext.trans hV.out hE1.out)) (by unfold maxLen; omega))
  go_upto_region 3 with (fail)
  refine wp_region_lit ?_
  refine wpList_run rfl (.pointer (some ⟨c, 2, none⟩)) (by simp [go_sem]) ?_
  simp only [Act.put, List.setIfInBounds_toArray, List.set_cons_zero, List.set_cons_succ]
  refine wpList_run rfl (.slice uo l uc) (by simp [go_sem, e2]) ?_
  simp only [Act.put, List.setIfInBounds_toArray, List.set_cons_zero, List.set_cons_succ]
  refine wpList_call rfl (by simp [go_sem]) ((kb4.out).mono ?_)
  rintro e w4 ⟨v4, rfl, hO4, hX4⟩
  refine ⟨_, rfl, ?_⟩
  simp only [Act.put, List.setIfInBounds_toArray, List.set_cons_zero, List.set_cons_succ]
  obtain ⟨o4, c4, rfl⟩ := b512 hO4
  refine wpList_run rfl (.slice o4 512 c4) (by simp [go_sem]) ?_
  simp only [Act.put, List.setIfInBounds_toArray, List.set_cons_zero, List.set_cons_succ]
  have hA : Hid (RowAt c 5 (opc 6 m (.slice uo l uc) false (.slice qo kk qc)) w4) := hH1.out.carry hX4
  have EA : Hid (Ext W w4) := Ext.trans hE1.out hX4
  have hP : Hid (PV (.slice o4 512 c4) 512 (blkF l f) w4) := hO4.bv.pv
  have hpb : Hid (∀ a, 0 < 512 → o4 = some a → (∀ i, F i → i ≠ a.block) ∧ a.block < w4.heap.size) := fun a _ ea => by
    have hb := hO4.lt a.block (by rw [ea]; rfl)
    exact ⟨fun i hi e => by have := hlF.out i hi; have := hz1.out; omega, hb.2⟩
  have hcA : Hid (c < w4.heap.size) := by show c < w4.heap.size; have := Below.size hX4; have := hz1.out; rw [hc.out]; omega
  have hbl : 512 ≤ 140737488355328 := by decide
  clear hH1 hE1 hz1 e2 e3 kb4 hO4 hX4
  have e0 : w4.cell? ⟨c, 0, none⟩ = some (.int .i64 6) := hA.out.1 0 (by decide)
  go_upto_region 4 with (fail)
  refine wp_region_lit ?_
  refine wpList_run rfl (.pointer (some ⟨c, 0, none⟩)) (by simp [go_sem]) ?_
  simp only [Act.put, List.setIfInBounds_toArray, List.set_cons_zero, List.set_cons_succ]
  refine wpList_run rfl (.int .i64 6) (by simp [go_sem, e0]) ?_
  simp only [Act.put, List.setIfInBounds_toArray, List.set_cons_zero, List.set_cons_succ]
  clear e0
  go_upto_region 5 with (fail)
  refine wp_region_lit ?_
  refine wpList_run rfl (.bool false) (by simp [go_sem]) ?_
  simp only [Act.put, List.setIfInBounds_toArray, List.set_cons_zero, List.set_cons_succ]
  refine wpList_run rfl (.bool false) (by simp [go_sem]) ?_
  simp only [Act.put, List.setIfInBounds_toArray, List.set_cons_zero, List.set_cons_succ]
  go_upto_region 13 with (fail)
  refine wp_region_lit ?_
  refine wpList_run rfl (.bool false) (by simp [go_sem]) ?_
  simp only [Act.put, List.setIfInBounds_toArray, List.set_cons_zero, List.set_cons_succ]
  refine wpList_run rfl (.bool false) (by simp [go_sem]) ?_
  simp only [Act.put, List.setIfInBounds_toArray, List.set_cons_zero, List.set_cons_succ]
  go_upto_region 17 with (fail)
  refine wp_region_lit ?_
  refine wpList_run rfl (.bool false) (by simp [go_sem]) ?_
  simp only [Act.put, List.setIfInBounds_toArray, List.set_cons_zero, List.set_cons_succ]
  refine wpList_run rfl (.bool false) (by simp [go_sem]) ?_
  simp only [Act.put, List.setIfInBounds_toArray, List.set_cons_zero, List.set_cons_succ]
  go_upto_region 19 with (fail)
  refine wp_region_lit ?_
  refine wpList_run rfl (.bool false) (by simp [go_sem]) ?_
  simp only [Act.put, List.setIfInBounds_toArray, List.set_cons_zero, List.set_cons_succ]
  refine wpList_run rfl (.bool false) (by simp [go_sem]) ?_
  simp only [Act.put, List.setIfInBounds_toArray, List.set_cons_zero, List.set_cons_succ]
  go_upto_region 21 with (fail)
  refine wp_region_lit ?_
  refine wpList_run rfl (.bool false) (by simp [go_sem]) ?_
  simp only [Act.put, List.setIfInBounds_toArray, List.set_cons_zero, List.set_cons_succ]
  refine wpList_run rfl (.bool false) (by simp [go_sem]) ?_
  simp only [Act.put, List.setIfInBounds_toArray, List.set_cons_zero, List.set_cons_succ]
  go_upto_region 23 with (fail)
  refine wp_region_lit ?_
  refine wpList_run rfl (.bool true) (by simp [go_sem]) ?_
  simp only [Act.put, List.setIfInBounds_toArray, List.set_cons_zero, List.set_cons_succ]
  refine wpList_run rfl (.bool true) (by simp [go_sem]) ?_
  simp only [Act.put, List.setIfInBounds_toArray, List.set_cons_zero, List.set_cons_succ]
  have e1 : w4.cell? ⟨c, 1, none⟩ = some (.int .i64 m) := hA.out.1 1 (by decide)
  have kd := hideit (dstop (h.out.d.ext EA.out) m (bounds_i64 hm.out))
  go_upto_region 24 with (fail)
  refine wp_region_lit ?_
  refine wpList_run rfl (.pointer (some ⟨p, 0, none⟩)) (by simp [go_sem]) ?_
  simp only [Act.put, List.setIfInBounds_toArray, List.set_cons_zero, List.set_cons_succ]
  refine wpList_run rfl (.pointer (some ⟨c, 1, none⟩)) (by simp [go_sem]) ?_
  simp only [Act.put, List.setIfInBounds_toArray, List.set_cons_zero, List.set_cons_succ]
  refine wpList_run rfl (.int .i64 m) (by simp [go_sem, e1]) ?_
  simp only [Act.put, List.setIfInBounds_toArray, List.set_cons_zero, List.set_cons_succ]
  refine wpList_call rfl (by simp [go_sem]) ((kd.out).mono ?_)
  rintro e w7 ⟨rfl, hd7, hk7⟩
  refine ⟨_, rfl, ?_⟩
  simp only [Act.put, List.setIfInBounds_toArray, List.set_cons_zero, List.set_cons_succ]
  have hK7 : Keeps F W w7 := (Keeps.of_ext EA.out).trans (F' := F) hk7 fun i hi => .inl hi
  have hr := h.out.r.keep hK7 fun i hi hf => h.out.ap i hf hi
  have e1' : w7.cell? ⟨c, 1, none⟩ = some (.int .i64 m) := (hA.out.keep hk7 (fun e => by have := hlF.out c e; have := hc.out; omega)).1 1 (by decide)
  have kr := hideit (rstop hr m (bounds_i64 hm.out))
  clear e1 kd
  go_upto_region 25 with (fail)
  refine wp_region_lit ?_
  refine wpList_run rfl (.pointer (some ⟨x, 0, none⟩)) (by simp [go_sem]) ?_
  simp only [Act.put, List.setIfInBounds_toArray, List.set_cons_zero, List.set_cons_succ]
  refine wpList_run rfl (.pointer (some ⟨c, 1, none⟩)) (by simp [go_sem]) ?_
  simp only [Act.put, List.setIfInBounds_toArray, List.set_cons_zero, List.set_cons_succ]
  refine wpList_run rfl (.int .i64 m) (by simp [go_sem, e1']) ?_
  simp only [Act.put, List.setIfInBounds_toArray, List.set_cons_zero, List.set_cons_succ]
  refine wpList_call rfl (by simp [go_sem]) ((kr.out).mono ?_)
  rintro e w8 ⟨rfl, hr8, hk8⟩
  refine ⟨_, rfl, ?_⟩
  simp only [Act.put, List.setIfInBounds_toArray, List.set_cons_zero, List.set_cons_succ]
  obtain ⟨q1, q2⟩ := h.out.step (s' := { s with pw := stE s.pw m }) (Ext.refl _) hd7 hK7 (Ext.refl _) (fun i hi => .inl hi) (hr8.congr rfl (fun _ _ => rfl) (fun _ _ => rfl) (fun _ _ => rfl)) hk8 (fun i hi => .inl hi) (st_on h.out m) (st_no h.out m)
  have kl := hideit (looks_any q1.d q1.r q1.off)
  replace q1 := hideit (q1.mono (Nat.le_succ C))
  replace q2 := hideit q2
  clear kr e1' hd7 hk7 hK7 hr hr8 hk8
  go_upto_region 26 with (fail)
  refine wp_region_lit ?_
  refine wpList_run rfl (.pointer (some ⟨p, 0, none⟩)) (by simp [go_sem]) ?_
  simp only [Act.put, List.setIfInBounds_toArray, List.set_cons_zero, List.set_cons_succ]
  refine wpList_run rfl (.pointer (some ⟨x, 0, none⟩)) (by simp [go_sem]) ?_
  simp only [Act.put, List.setIfInBounds_toArray, List.set_cons_zero, List.set_cons_succ]
  refine wpList_call rfl (by simp [go_sem]) ((kl.out).mono ?_)
  rintro e w9 ⟨rfl, hX9⟩
  refine ⟨_, rfl, ?_⟩
  simp only [Act.put, List.setIfInBounds_toArray, List.set_cons_zero, List.set_cons_succ]
  refine wpList_run rfl (.bool true) (by simp [go_sem]) ?_
  simp only [Act.put, List.setIfInBounds_toArray, List.set_cons_zero, List.set_cons_succ]
  have q3 := hideit (q1.out.ext hX9)
  have q4 := hideit (q2.out.trans (Stp.ext hX9))
  clear kl hX9 q1 q2
  go_wp2
  go_ret
  exact ⟨rfl, _, _, { s with pw := stE s.pw m }, _, _, _, _, rfl, q3.out, q4.out⟩
set_option maxRecDepth 20000 in
set_option maxHeartbeats 8000000 in
theorem does_e_b {F G : Nat → Prop} {p x : Nat} {s : DSt} {C : Nat} {M : DM} {stp : Bool} {cl : Int} {R : RM} {W : World} (h : Tw F G p x s C M stp cl R W) (V : World) (hV : Ext V W) (hFV : ∀ i, F i → V.heap.size ≤ i) (hGV : ∀ i, G i → V.heap.size ≤ i) (m : Int) (hm : okI m) (uo : Option Addr) (l uc : Nat) (f : Nat → BitVec 8) (hu : PV (.slice uo l uc) l f V) (hl : l ≤ 140737488355328) (qo : Option Addr) (kk qc : Nat) (kb kw : Nat → Int) (hq : KP (.slice qo kk qc) kk kb kw V) (hkk : kk * 16 ≤ 140737488355328) (hok : ∀ i, i < kk → okI (kb i) ∧ okI (kw i)) (hC : C ≤ 4398046511000) (k : Int) (h1 : k ≠ 1) (h2 : k ≠ 2) (h3 : k ≠ 3) (h4 : k ≠ 4) (h5 : k ≠ 5) (h6 : k ≠ 6) : Calls Try.prog 14 #[.pointer (some ⟨p, 0, none⟩), .pointer (some ⟨x, 0, none⟩), .agg #[.int .i64 k, .int .i64 m, .slice uo l uc, .bool true, .slice qo kk qc]] W (DoP F G p x s C W) := by
  have hH1 := opRow W k m (.slice uo l uc) true (.slice qo kk qc)
  have hE1 : Ext W (W.alloc (.cells #[.int .i64 k, .int .i64 m, .slice uo l uc, .bool true, .slice qo kk qc] 34)) := (Below.refl _ _).alloc (Nat.le_refl _) _
  have hz1 : (W.alloc (.cells #[.int .i64 k, .int .i64 m, .slice uo l uc, .bool true, .slice qo kk qc] 34)).heap.size = W.heap.size + 1 := by simp
  have hlF : Hid (∀ i, F i → i < W.heap.size) := h.d.lt
  have hlG : Hid (∀ i, G i → i < W.heap.size) := h.r.lt
  have hun := And.intro hkk hC
  clear hun
  replace h := hideit h
  replace hu := hideit hu
  replace hq := hideit hq
  replace hok := hideit hok
  replace hFV := hideit hFV
  replace hGV := hideit hGV
  replace hV := hideit hV
  replace hm := hideit hm
  go_enter Try.func14, Try.ntmps14
  go_upto_region 0 with (fail)
  refine wp_region_lit ?_
  refine wpList_to rfl (.pointer (some ⟨W.heap.size, 0, none⟩)) (W.alloc (.cells #[.int .i64 k, .int .i64 m, .slice uo l uc, .bool true, .slice qo kk qc] 34)) (by simp [go_sem]) ?_
  simp only [Act.put, List.setIfInBounds_toArray, List.set_cons_zero, List.set_cons_succ]
  refine wpList_run rfl (.bool false) (by simp [go_sem]) ?_
  simp only [Act.put, List.setIfInBounds_toArray, List.set_cons_zero, List.set_cons_succ]
  generalize W.alloc (.cells #[.int .i64 k, .int .i64 m, .slice uo l uc, .bool true, .slice qo kk qc] 34) = w1 at *
  obtain ⟨c, hc⟩ : ∃ c, c = W.heap.size := ⟨_, rfl⟩
  rw [← hc] at hH1 ⊢
  replace hc := hideit hc
  replace hE1 := hideit hE1
  replace hz1 := hideit hz1
  have e2 : w1.cell? ⟨c, 2, none⟩ = some (.slice uo l uc) := hH1.1 2 (by decide)
  have e3 : w1.cell? ⟨c, 3, none⟩ = some (.bool true) := hH1.1 3 (by decide)
  replace hH1 := hideit hH1
  go_upto_region 1 with (fail)
  refine wp_region_lit ?_
  refine wpList_run rfl (.pointer (some ⟨c, 2, none⟩)) (by simp [go_sem]) ?_
  simp only [Act.put, List.setIfInBounds_toArray, List.set_cons_zero, List.set_cons_succ]
  refine wpList_run rfl (.slice uo l uc) (by simp [go_sem, e2]) ?_
  simp only [Act.put, List.setIfInBounds_toArray, List.set_cons_zero, List.set_cons_succ]
  refine wpList_run rfl (.slice uo l uc) (by simp [go_sem]) ?_
  simp only [Act.put, List.setIfInBounds_toArray, List.set_cons_zero, List.set_cons_succ]
  go_upto_region 2 with (fail)
  refine wp_region_lit ?_
  refine wpList_run rfl (.pointer (some ⟨c, 3, none⟩)) (by simp [go_sem]) ?_
  simp only [Act.put, List.setIfInBounds_toArray, List.set_cons_zero, List.set_cons_succ]
  refine wpList_run rfl (.bool true) (by simp [go_sem, e3]) ?_
  simp only [Act.put, List.setIfInBounds_toArray, List.set_cons_zero, List.set_cons_succ]
  refine wpList_run rfl (.bool false) (by simp [go_sem]) ?_
  simp only [Act.put, List.setIfInBounds_toArray, List.set_cons_zero, List.set_cons_succ]
  have hA : Hid (RowAt c 5 (opc k m (.slice uo l uc) true (.slice qo kk qc)) w1) := hH1.out
  have EA : Hid (Ext W w1) := hE1.out
  have hP : Hid (PV (.slice uo l uc) l f w1) := hu.out.ext (Ext.trans hV.out hE1.out)
  have hpb : Hid (∀ a, 0 < l → uo = some a → (∀ i, F i → i ≠ a.block) ∧ a.block < w1.heap.size) := fun a h0 ea => ⟨fun i hi e => by have := hu.out.lt a h0 ea; have := hFV.out i hi; omega, Nat.lt_of_lt_of_le (hu.out.lt a h0 ea) (Below.size (Ext.trans hV.out hE1.out))⟩
  have hcA : Hid (c < w1.heap.size) := by show c < w1.heap.size; rw [hz1.out, hc.out]; omega
  have hbl : l ≤ 140737488355328 := hl
  clear hH1 hE1 hz1 e2 e3
  have e0 : w1.cell? ⟨c, 0, none⟩ = some (.int .i64 k) := hA.out.1 0 (by decide)
  go_upto_region 4 with (fail)
  refine wp_region_lit ?_
  refine wpList_run rfl (.pointer (some ⟨c, 0, none⟩)) (by simp [go_sem]) ?_
  simp only [Act.put, List.setIfInBounds_toArray, List.set_cons_zero, List.set_cons_succ]
  refine wpList_run rfl (.int .i64 k) (by simp [go_sem, e0]) ?_
  simp only [Act.put, List.setIfInBounds_toArray, List.set_cons_zero, List.set_cons_succ]
  clear e0
  go_upto_region 5 with (fail)
  refine wp_region_lit ?_
  refine wpList_run rfl (.bool false) (by simp [go_sem, h1]) ?_
  simp only [Act.put, List.setIfInBounds_toArray, List.set_cons_zero, List.set_cons_succ]
  refine wpList_run rfl (.bool false) (by simp [go_sem]) ?_
  simp only [Act.put, List.setIfInBounds_toArray, List.set_cons_zero, List.set_cons_succ]
  go_upto_region 13 with (fail)
  refine wp_region_lit ?_
  refine wpList_run rfl (.bool false) (by simp [go_sem, h2]) ?_
  simp only [Act.put, List.setIfInBounds_toArray, List.set_cons_zero, List.set_cons_succ]
  refine wpList_run rfl (.bool false) (by simp [go_sem]) ?_
  simp only [Act.put, List.setIfInBounds_toArray, List.set_cons_zero, List.set_cons_succ]
  go_upto_region 17 with (fail)
  refine wp_region_lit ?_
  refine wpList_run rfl (.bool false) (by simp [go_sem, h3]) ?_
  simp only [Act.put, List.setIfInBounds_toArray, List.set_cons_zero, List.set_cons_succ]
  refine wpList_run rfl (.bool false) (by simp [go_sem]) ?_
  simp only [Act.put, List.setIfInBounds_toArray, List.set_cons_zero, List.set_cons_succ]
  go_upto_region 19 with (fail)
  refine wp_region_lit ?_
  refine wpList_run rfl (.bool false) (by simp [go_sem, h4]) ?_
  simp only [Act.put, List.setIfInBounds_toArray, List.set_cons_zero, List.set_cons_succ]
  refine wpList_run rfl (.bool false) (by simp [go_sem]) ?_
  simp only [Act.put, List.setIfInBounds_toArray, List.set_cons_zero, List.set_cons_succ]
  go_upto_region 21 with (fail)
  refine wp_region_lit ?_
  refine wpList_run rfl (.bool false) (by simp [go_sem, h5]) ?_
  simp only [Act.put, List.setIfInBounds_toArray, List.set_cons_zero, List.set_cons_succ]
  refine wpList_run rfl (.bool false) (by simp [go_sem]) ?_
  simp only [Act.put, List.setIfInBounds_toArray, List.set_cons_zero, List.set_cons_succ]
  go_upto_region 23 with (fail)
  refine wp_region_lit ?_
  refine wpList_run rfl (.bool false) (by simp [go_sem, h6]) ?_
  simp only [Act.put, List.setIfInBounds_toArray, List.set_cons_zero, List.set_cons_succ]
  refine wpList_run rfl (.bool false) (by simp [go_sem]) ?_
  simp only [Act.put, List.setIfInBounds_toArray, List.set_cons_zero, List.set_cons_succ]
  have hT := h.out.ext EA.out
  have kl := hideit (looks_any hT.d hT.r hT.off)
  clear hT
  go_upto_region 26 with (fail)
  refine wp_region_lit ?_
  refine wpList_run rfl (.pointer (some ⟨p, 0, none⟩)) (by simp [go_sem]) ?_
  simp only [Act.put, List.setIfInBounds_toArray, List.set_cons_zero, List.set_cons_succ]
  refine wpList_run rfl (.pointer (some ⟨x, 0, none⟩)) (by simp [go_sem]) ?_
  simp only [Act.put, List.setIfInBounds_toArray, List.set_cons_zero, List.set_cons_succ]
  refine wpList_call rfl (by simp [go_sem]) ((kl.out).mono ?_)
  rintro e w9 ⟨rfl, hX9⟩
  refine ⟨_, rfl, ?_⟩
  simp only [Act.put, List.setIfInBounds_toArray, List.set_cons_zero, List.set_cons_succ]
  refine wpList_run rfl (.bool true) (by simp [go_sem]) ?_
  simp only [Act.put, List.setIfInBounds_toArray, List.set_cons_zero, List.set_cons_succ]
  have q3 := hideit ((h.out.ext (Ext.trans EA.out hX9)).mono (Nat.le_succ C))
  have q4 : Hid (Stp F G F G W w9) := Stp.ext (Ext.trans EA.out hX9)
  clear kl hX9
  go_wp2
  go_ret
  exact ⟨rfl, _, _, _, _, _, _, _, rfl, q3.out, q4.out⟩
set_option maxRecDepth 20000 in
set_option maxHeartbeats 8000000 in
theorem does_e_g {F G : Nat → Prop} {p x : Nat} {s : DSt} {C : Nat} {M : DM} {stp : Bool} {cl : Int} {R : RM} {W : World} (h : Tw F G p x s C M stp cl R W) (V : World) (hV : Ext V W) (hFV : ∀ i, F i → V.heap.size ≤ i) (hGV : ∀ i, G i → V.heap.size ≤ i) (m : Int) (hm : okI m) (uo : Option Addr) (l uc : Nat) (f : Nat → BitVec 8) (hu : PV (.slice uo l uc) l f V) (hl : l ≤ 140737488355328) (qo : Option Addr) (kk qc : Nat) (kb kw : Nat → Int) (hq : KP (.slice qo kk qc) kk kb kw V) (hkk : kk * 16 ≤ 140737488355328) (hok : ∀ i, i < kk → okI (kb i) ∧ okI (kw i)) (hC : C ≤ 4398046511000) (k : Int) (h1 : k ≠ 1) (h2 : k ≠ 2) (h3 : k ≠ 3) (h4 : k ≠ 4) (h5 : k ≠ 5) (h6 : k ≠ 6) : Calls Try.prog 14 #[.pointer (some ⟨p, 0, none⟩), .pointer (some ⟨x, 0, none⟩), .agg #[.int .i64 k, .int .i64 m, .slice uo l uc, .bool false, .slice qo kk qc]] W (DoP F G p x s C W) := by
  have hH1 := opRow W k m (.slice uo l uc) false (.slice qo kk qc)
  have hE1 : Ext W (W.alloc (.cells #[.int .i64 k, .int .i64 m, .slice uo l uc, .bool false, .slice qo kk qc] 34)) := (Below.refl _ _).alloc (Nat.le_refl _) _
  have hz1 : (W.alloc (.cells #[.int .i64 k, .int .i64 m, .slice uo l uc, .bool false, .slice qo kk qc] 34)).heap.size = W.heap.size + 1 := by simp
  have hlF : Hid (∀ i, F i → i < W.heap.size) := h.d.lt
  have hlG : Hid (∀ i, G i → i < W.heap.size) := h.r.lt
  have hun := And.intro hkk hC
  clear hun
  replace h := hideit h
  replace hu := hideit hu
  replace hq := hideit hq
  replace hok := hideit hok
  replace hFV := hideit hFV
  replace hGV := hideit hGV
  replace hV := hideit hV
  replace hm := hideit hm
  go_enter Try.func14, Try.ntmps14
  go_upto_region 0 with (fail)
  refine wp_region_lit ?_
  refine wpList_to rfl (.pointer (some ⟨W.heap.size, 0, none⟩)) (W.alloc (.cells #[.int .i64 k, .int .i64 m, .slice uo l uc, .bool false, .slice qo kk qc] 34)) (by simp [go_sem]) ?_
  simp only [Act.put, List.setIfInBounds_toArray, List.set_cons_zero, List.set_cons_succ]
  refine wpList_run rfl (.bool false) (by simp [go_sem]) ?_
  simp only [Act.put, List.setIfInBounds_toArray, List.set_cons_zero, List.set_cons_succ]
  generalize W.alloc (.cells #[.int .i64 k, .int .i64 m, .slice uo l uc, .bool false, .slice qo kk qc] 34) = w1 at *
  obtain ⟨c, hc⟩ : ∃ c, c = W.heap.size := ⟨_, rfl⟩
  rw [← hc] at hH1 ⊢
  replace hc := hideit hc
  replace hE1 := hideit hE1
  replace hz1 := hideit hz1
  have e2 : w1.cell? ⟨c, 2, none⟩ = some (.slice uo l uc) := hH1.1 2 (by decide)
  have e3 : w1.cell? ⟨c, 3, none⟩ = some (.bool false) := hH1.1 3 (by decide)
  replace hH1 := hideit hH1
  go_upto_region 1 with (fail)
  refine wp_region_lit ?_
  refine wpList_run rfl (.pointer (some ⟨c, 2, none⟩)) (by simp [go_sem]) ?_
  simp only [Act.put, List.setIfInBounds_toArray, List.set_cons_zero, List.set_cons_succ]
  refine wpList_run rfl (.slice uo l uc) (by simp [go_sem, e2]) ?_
  simp only [Act.put, List.setIfInBounds_toArray, List.set_cons_zero, List.set_cons_succ]
  refine wpList_run rfl (.slice uo l uc) (by simp [go_sem]) ?_
  simp only [Act.put, List.setIfInBounds_toArray, List.set_cons_zero, List.set_cons_succ]
  go_upto_region 2 with (fail)
  refine wp_region_lit ?_
  refine wpList_run rfl (.pointer (some ⟨c, 3, none⟩)) (by simp [go_sem]) ?_
  simp only [Act.put, List.setIfInBounds_toArray, List.set_cons_zero, List.set_cons_succ]
  refine wpList_run rfl (.bool false) (by simp [go_sem, e3]) ?_
  simp only [Act.put, List.setIfInBounds_toArray, List.set_cons_zero, List.set_cons_succ]
  refine wpList_run rfl (.bool true) (by simp [go_sem]) ?_
  simp only [Act.put, List.setIfInBounds_toArray, List.set_cons_zero, List.set_cons_succ]
  have kb4 := hideit (block_pv (.slice uo l uc) l f w1 (hu.out.ext (Ext.trans hV.out hE1.out)) (by unfold maxLen; omega))
  go_upto_region 3 with (fail)
  refine wp_region_lit ?_
  refine wpList_run rfl (.pointer (some ⟨c, 2, none⟩)) (by simp [go_sem]) ?_
  simp only [Act.put, List.setIfInBounds_toArray, List.set_cons_zero, List.set_cons_succ]
  refine wpList_run rfl (.slice uo l uc) (by simp [go_sem, e2]) ?_
  simp only [Act.put, List.setIfInBounds_toArray, List.set_cons_zero, List.set_cons_succ]
  refine wpList_call rfl (by simp [go_sem]) ((kb4.out).mono ?_)
  rintro e w4 ⟨v4, rfl, hO4, hX4⟩
  refine ⟨_, rfl, ?_⟩
  simp only [Act.put, List.setIfInBounds_toArray, List.set_cons_zero, List.set_cons_succ]
  obtain ⟨o4, c4, rfl⟩ := b512 hO4
  refine wpList_run rfl (.slice o4 512 c4) (by simp [go_sem]) ?_
  simp only [Act.put, List.setIfInBounds_toArray, List.set_cons_zero, List.set_cons_succ]
  have hA : Hid (RowAt c 5 (opc k m (.slice uo l uc) false (.slice qo kk qc)) w4) := hH1.out.carry hX4
  have EA : Hid (Ext W w4) := Ext.trans hE1.out hX4
  have hP : Hid (PV (.slice o4 512 c4) 512 (blkF l f) w4) := hO4.bv.pv
  have hpb : Hid (∀ a, 0 < 512 → o4 = some a → (∀ i, F i → i ≠ a.block) ∧ a.block < w4.heap.size) := fun a _ ea => by
    have hb := hO4.lt a.block (by rw [ea]; rfl)
    exact ⟨fun i hi e => by have := hlF.out i hi; have := hz1.out; omega, hb.2⟩
  have hcA : Hid (c < w4.heap.size) := by show c < w4.heap.size; have := Below.size hX4; have := hz1.out; rw [hc.out]; omega
  have hbl : 512 ≤ 140737488355328 := by decide
  clear hH1 hE1 hz1 e2 e3 kb4 hO4 hX4
  have e0 : w4.cell? ⟨c, 0, none⟩ = some (.int .i64 k) := hA.out.1 0 (by decide)
  go_upto_region 4 with (fail)
  refine wp_region_lit ?_
  refine wpList_run rfl (.pointer (some ⟨c, 0, none⟩)) (by simp [go_sem]) ?_
  simp only [Act.put, List.setIfInBounds_toArray, List.set_cons_zero, List.set_cons_succ]
  refine wpList_run rfl (.int .i64 k) (by simp [go_sem, e0]) ?_
  simp only [Act.put, List.setIfInBounds_toArray, List.set_cons_zero, List.set_cons_succ]
  clear e0
  go_upto_region 5 with (fail)
  refine wp_region_lit ?_
  refine wpList_run rfl (.bool false) (by simp [go_sem, h1]) ?_
  simp only [Act.put, List.setIfInBounds_toArray, List.set_cons_zero, List.set_cons_succ]
  refine wpList_run rfl (.bool false) (by simp [go_sem]) ?_
  simp only [Act.put, List.setIfInBounds_toArray, List.set_cons_zero, List.set_cons_succ]
  go_upto_region 13 with (fail)
  refine wp_region_lit ?_
  refine wpList_run rfl (.bool false) (by simp [go_sem, h2]) ?_
  simp only [Act.put, List.setIfInBounds_toArray, List.set_cons_zero, List.set_cons_succ]
  refine wpList_run rfl (.bool false) (by simp [go_sem]) ?_
  simp only [Act.put, List.setIfInBounds_toArray, List.set_cons_zero, List.set_cons_succ]
  go_upto_region 17 with (fail)
  refine wp_region_lit ?_
  refine wpList_run rfl (.bool false) (by simp [go_sem, h3]) ?_
  simp only [Act.put, List.setIfInBounds_toArray, List.set_cons_zero, List.set_cons_succ]
  refine wpList_run rfl (.bool false) (by simp [go_sem]) ?_
  simp only [Act.put, List.setIfInBounds_toArray, List.set_cons_zero, List.set_cons_succ]
  go_upto_region 19 with (fail)
  refine wp_region_lit ?_
  refine wpList_run rfl (.bool false) (by simp [go_sem, h4]) ?_
  simp only [Act.put, List.setIfInBounds_toArray, List.set_cons_zero, List.set_cons_succ]
  refine wpList_run rfl (.bool false) (by simp [go_sem]) ?_
  simp only [Act.put, List.setIfInBounds_toArray, List.set_cons_zero, List.set_cons_succ]
  go_upto_region 21 with (fail)
  refine wp_region_lit ?_
  refine wpList_run rfl (.bool false) (by simp [go_sem, h5]) ?_
  simp only [Act.put, List.setIfInBounds_toArray, List.set_cons_zero, List.set_cons_succ]
  refine wpList_run rfl (.bool false) (by simp [go_sem]) ?_
  simp only [Act.put, List.setIfInBounds_toArray, List.set_cons_zero, List.set_cons_succ]
  go_upto_region 23 with (fail)
  refine wp_region_lit ?_
  refine wpList_run rfl (.bool false) (by simp [go_sem, h6]) ?_
  simp only [Act.put, List.setIfInBounds_toArray, List.set_cons_zero, List.set_cons_succ]
  refine wpList_run rfl (.bool false) (by simp [go_sem]) ?_
  simp only [Act.put, List.setIfInBounds_toArray, List.set_cons_zero, List.set_cons_succ]
  have hT := h.out.ext EA.out
  have kl := hideit (looks_any hT.d hT.r hT.off)
  clear hT
  go_upto_region 26 with (fail)
  refine wp_region_lit ?_
  refine wpList_run rfl (.pointer (some ⟨p, 0, none⟩)) (by simp [go_sem]) ?_
  simp only [Act.put, List.setIfInBounds_toArray, List.set_cons_zero, List.set_cons_succ]
  refine wpList_run rfl (.pointer (some ⟨x, 0, none⟩)) (by simp [go_sem]) ?_
  simp only [Act.put, List.setIfInBounds_toArray, List.set_cons_zero, List.set_cons_succ]
  refine wpList_call rfl (by simp [go_sem]) ((kl.out).mono ?_)
  rintro e w9 ⟨rfl, hX9⟩
  refine ⟨_, rfl, ?_⟩
  simp only [Act.put, List.setIfInBounds_toArray, List.set_cons_zero, List.set_cons_succ]
  refine wpList_run rfl (.bool true) (by simp [go_sem]) ?_
  simp only [Act.put, List.setIfInBounds_toArray, List.set_cons_zero, List.set_cons_succ]
  have q3 := hideit ((h.out.ext (Ext.trans EA.out hX9)).mono (Nat.le_succ C))
  have q4 : Hid (Stp F G F G W w9) := Stp.ext (Ext.trans EA.out hX9)
  clear kl hX9
  go_wp2
  go_ret
  exact ⟨rfl, _, _, _, _, _, _, _, rfl, q3.out, q4.out⟩
end Go.Proofs.Ytfaeieaelfjlpaa
namespace Go.Proofs.Ytfaeieaelfjlpaa
open Go.RowKit Go.BigFrame Go.Maps
theorem does_any {F G : Nat → Prop} {p x : Nat} {s : DSt} {C : Nat} {M : DM} {stp : Bool} {cl : Int} {R : RM} {W : World} (h : Tw F G p x s C M stp cl R W) (V : World) (hV : Ext V W) (hFV : ∀ i, F i → V.heap.size ≤ i) (hGV : ∀ i, G i → V.heap.size ≤ i) (m : Int) (hm : okI m) (uo : Option Addr) (l uc : Nat) (f : Nat → BitVec 8) (hu : PV (.slice uo l uc) l f V) (hl : l ≤ 140737488355328) (qo : Option Addr) (kk qc : Nat) (kb kw : Nat → Int) (hq : KP (.slice qo kk qc) kk kb kw V) (hkk : kk * 16 ≤ 140737488355328) (hok : ∀ i, i < kk → okI (kb i) ∧ okI (kw i)) (hC : C ≤ 4398046511000) (k : Int) (bad : Bool) : Calls Try.prog 14 #[.pointer (some ⟨p, 0, none⟩), .pointer (some ⟨x, 0, none⟩), .agg #[.int .i64 k, .int .i64 m, .slice uo l uc, .bool bad, .slice qo kk qc]] W (DoP F G p x s C W) := by
  by_cases h1 : k = 1
  · subst h1
    cases bad with
    | true => exact does_1_b h V hV hFV hGV m hm uo l uc f hu hl qo kk qc kb kw hq hkk hok hC
    | false => exact does_1_g h V hV hFV hGV m hm uo l uc f hu hl qo kk qc kb kw hq hkk hok hC
  by_cases h2 : k = 2
  · subst h2
    cases bad with
    | true => exact does_2_b h V hV hFV hGV m hm uo l uc f hu hl qo kk qc kb kw hq hkk hok hC
    | false => exact does_2_g h V hV hFV hGV m hm uo l uc f hu hl qo kk qc kb kw hq hkk hok hC
  by_cases h3 : k = 3
  · subst h3
    cases bad with
    | true => exact does_3_b h V hV hFV hGV m hm uo l uc f hu hl qo kk qc kb kw hq hkk hok hC
    | false => exact does_3_g h V hV hFV hGV m hm uo l uc f hu hl qo kk qc kb kw hq hkk hok hC
  by_cases h4 : k = 4
  · subst h4
    cases bad with
    | true => exact does_4_b h V hV hFV hGV m hm uo l uc f hu hl qo kk qc kb kw hq hkk hok hC
    | false => exact does_4_g h V hV hFV hGV m hm uo l uc f hu hl qo kk qc kb kw hq hkk hok hC
  by_cases h5 : k = 5
  · subst h5
    cases bad with
    | true => exact does_5_b h V hV hFV hGV m hm uo l uc f hu hl qo kk qc kb kw hq hkk hok hC
    | false => exact does_5_g h V hV hFV hGV m hm uo l uc f hu hl qo kk qc kb kw hq hkk hok hC
  by_cases h6 : k = 6
  · subst h6
    cases bad with
    | true => exact does_6_b h V hV hFV hGV m hm uo l uc f hu hl qo kk qc kb kw hq hkk hok hC
    | false => exact does_6_g h V hV hFV hGV m hm uo l uc f hu hl qo kk qc kb kw hq hkk hok hC
  cases bad with
  | true => exact does_e_b h V hV hFV hGV m hm uo l uc f hu hl qo kk qc kb kw hq hkk hok hC k h1 h2 h3 h4 h5 h6
  | false => exact does_e_g h V hV hFV hGV m hm uo l uc f hu hl qo kk qc kb kw hq hkk hok hC k h1 h2 h3 h4 h5 h6
end Go.Proofs.Ytfaeieaelfjlpaa
