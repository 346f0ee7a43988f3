/-
  One call of both disks (Do1). One call of both disks (Do2).
-/
import Derived.Test.YtfaeieaelfjlpaaQ35
namespace Go.Proofs.Ytfaeieaelfjlpaa
open Go.RowKit Go.BigFrame Go.Maps
set_option maxRecDepth 20000 in
set_option maxHeartbeats 8000000 in
theorem does_1_b {F G : Nat → Prop} {p x : Nat} {s : DSt} {C : Nat} {M : DM} {stp : Bool} {cl : Int} {R : RM} {W : World} (h : Tw F G p x s C M stp cl R W) (V : World) (hV : Ext V W) (hFV : ∀ i, F i → V.heap.size ≤ i) (hGV : ∀ i, G i → V.heap.size ≤ i) (m : Int) (hm : okI m) (uo : Option Addr) (l uc : Nat) (f : Nat → BitVec 8) (hu : PV (.slice uo l uc) l f V) (hl : l ≤ 140737488355328) (qo : Option Addr) (kk qc : Nat) (kb kw : Nat → Int) (hq : KP (.slice qo kk qc) kk kb kw V) (hkk : kk * 16 ≤ 140737488355328) (hok : ∀ i, i < kk → okI (kb i) ∧ okI (kw i)) (hC : C ≤ 4398046511000) : Calls Try.prog 14 #[.pointer (some ⟨p, 0, none⟩), .pointer (some ⟨x, 0, none⟩), .agg #[.int .i64 1, .int .i64 m, .slice uo l uc, .bool true, .slice qo kk qc]] W (DoP F G p x s C W) := by
  have hH1 := opRow W 1 m (.slice uo l uc) true (.slice qo kk qc)
  have hE1 : Ext W (W.alloc (.cells #[.int .i64 1, .int .i64 m, .slice uo l uc, .bool true, .slice qo kk qc] 34)) := (Below.refl _ _).alloc (Nat.le_refl _) _
  have hz1 : (W.alloc (.cells #[.int .i64 1, .int .i64 m, .slice uo l uc, .bool true, .slice qo kk qc] 34)).heap.size = W.heap.size + 1 := by simp
  have hlF : Hid (∀ i, F i → i < W.heap.size) := h.d.lt
  have hlG : Hid (∀ i, G i → i < W.heap.size) := h.r.lt
  have hun := And.intro hkk hC
  clear hun
  replace h := hideit h
  replace hu := hideit hu
  replace hq := hideit hq
  replace hok := hideit hok
  replace hFV := hideit hFV
  replace hGV := hideit hGV
  replace hV := hideit hV
  replace hm := hideit hm
  go_enter Try.func14, Try.ntmps14
  go_upto_region 0 with (fail)
  refine wp_region_lit ?_
  refine wpList_to rfl (.pointer (some ⟨W.heap.size, 0, none⟩)) (W.alloc (.cells #[.int .i64 1, .int .i64 m, .slice uo l uc, .bool true, .slice qo kk qc] 34)) (by simp [go_sem]) ?_
  simp only [Act.put, List.setIfInBounds_toArray, List.set_cons_zero, List.set_cons_succ]
  refine wpList_run rfl (.bool false) (by simp [go_sem]) ?_
  simp only [Act.put, List.setIfInBounds_toArray, List.set_cons_zero, List.set_cons_succ]
  generalize W.alloc (.cells #[.int .i64 1, .int .i64 m, .slice uo l uc, .bool true, .slice qo kk qc] 34) = w1 at *
  obtain ⟨c, hc⟩ : ∃ c, c = W.heap.size := ⟨_, rfl⟩
  rw [← hc] at hH1 ⊢
  replace hc := hideit hc
  replace hE1 := hideit hE1
  replace hz1 := hideit hz1
  have e2 : w1.cell? ⟨c, 2, none⟩ = some (.slice uo l uc) := hH1.1 2 (by decide)
  have e3 : w1.cell? ⟨c, 3, none⟩ = some (.bool true) := hH1.1 3 (by decide)
  replace hH1 := hideit hH1
  go_upto_region 1 with (fail)
  refine wp_region_lit ?_
  refine wpList_run rfl (.pointer (some ⟨c, 2, none⟩)) (by simp [go_sem]) ?_
  simp only [Act.put, List.setIfInBounds_toArray, List.set_cons_zero, List.set_cons_succ]
  refine wpList_run rfl (.slice uo l uc) (by simp [go_sem, e2]) ?_
  simp only [Act.put, List.setIfInBounds_toArray, List.set_cons_zero, List.set_cons_succ]
  refine wpList_run rfl (.slice uo l uc) (by simp [go_sem]) ?_
  simp only [Act.put, List.setIfInBounds_toArray, List.set_cons_zero, List.set_cons_succ]
  go_upto_region 2 with (fail)
  refine wp_region_lit ?_
  refine wpList_run rfl (.pointer (some ⟨c, 3, none⟩)) (by simp [go_sem]) ?_
  simp only [Act.put, List.setIfInBounds_toArray, List.set_cons_zero, List.set_cons_succ]
  refine wpList_run rfl (.bool true) (by simp [go_sem, e3]) ?_
  simp only [Act.put, List.setIfInBounds_toArray, List.set_cons_zero, List.set_cons_succ]
  refine wpList_run rfl (.bool false) (by simp [go_sem]) ?_
  simp only [Act.put, List.setIfInBounds_toArray, List.set_cons_zero, List.set_cons_succ]
  have hA : Hid (RowAt c 5 (opc 1 m (.slice uo l uc) true (.slice qo kk qc)) w1) := hH1.out
  have EA : Hid (Ext W w1) := hE1.out
  have hP : Hid (PV (.slice uo l uc) l f w1) := hu.out.ext (Ext.trans hV.out hE1.out)
  have hpb : Hid (∀ a, 0 < l → uo = some a → (∀ i, F i → i ≠ a.block) ∧ a.block < w1.heap.size) := fun a h0 ea => ⟨fun i hi e => by have := hu.out.lt a h0 ea; have := hFV.out i hi; omega, Nat.lt_of_lt_of_le (hu.out.lt a h0 ea) (Below.size (Ext.trans hV.out hE1.out))⟩
  have hcA : Hid (c < w1.heap.size) := by show c < w1.heap.size; rw [hz1.out, hc.out]; omega
  have hbl : l ≤ 140737488355328 := hl
  clear hH1 hE1 hz1 e2 e3
  have e0 : w1.cell? ⟨c, 0, none⟩ = some (.int .i64 1) := hA.out.1 0 (by decide)
  go_upto_region 4 with (fail)
  refine wp_region_lit ?_
  refine wpList_run rfl (.pointer (some ⟨c, 0, none⟩)) (by simp [go_sem]) ?_
  simp only [Act.put, List.setIfInBounds_toArray, List.set_cons_zero, List.set_cons_succ]
  refine wpList_run rfl (.int .i64 1) (by simp [go_sem, e0]) ?_
  simp only [Act.put, List.setIfInBounds_toArray, List.set_cons_zero, List.set_cons_succ]
  clear e0
  go_upto_region 5 with (fail)
  refine wp_region_lit ?_
  refine wpList_run rfl (.bool true) (by simp [go_sem]) ?_
  simp only [Act.put, List.setIfInBounds_toArray, List.set_cons_zero, List.set_cons_succ]
  refine wpList_run rfl (.bool true) (by simp [go_sem]) ?_
  simp only [Act.put, List.setIfInBounds_toArray, List.set_cons_zero, List.set_cons_succ]
  have hO5 := own_empty w1 w1.heap.size 5 (fun _ => undef) (Nat.le_refl _)
  have hX5 : Ext w1 (w1.alloc (.cells #[] 5)) := (Below.refl _ _).alloc (Nat.le_refl _) _
  obtain ⟨v6, w6, r6, hO6, hX6⟩ := run_full31 (w := w1.alloc (.cells #[] 5)) (hP.out.ext hX5) hbl _ w1.heap.size hO5 (Below.size hX5) 31
  obtain ⟨oo, oc, rfl⟩ := hO6.bv.form
  go_upto_region 6 with (fail)
  refine wp_region_lit ?_
  refine wpList_to rfl (.slice (some ⟨w1.heap.size, 0, none⟩) 0 0) (w1.alloc (.cells #[] 5)) (by simp [go_sem]) ?_
  simp only [Act.put, List.setIfInBounds_toArray, List.set_cons_zero, List.set_cons_succ]
  refine wpList_run rfl (.slice uo l uc) (by simp [go_sem]) ?_
  simp only [Act.put, List.setIfInBounds_toArray, List.set_cons_zero, List.set_cons_succ]
  refine wpList_to rfl (.slice oo l oc) w6 (exec_app (.tmp 27) (.tmp 28) rfl rfl rfl r6) ?_
  simp only [Act.put, List.setIfInBounds_toArray, List.set_cons_zero, List.set_cons_succ]
  refine wpList_run rfl (.slice oo l oc) (by simp [go_sem]) ?_
  simp only [Act.put, List.setIfInBounds_toArray, List.set_cons_zero, List.set_cons_succ]
  have EA6 := Ext.trans hX5 hX6
  have E6 : Hid (Ext W w6) := Ext.trans EA.out EA6
  have hA6 := hA.out.carry EA6
  have e1 : w6.cell? ⟨c, 1, none⟩ = some (.int .i64 m) := hA6.1 1 (by decide)
  have kw := hideit (wrtD (h.out.d.ext E6.out) m oo l oc f hO6.bv.pv (by omega))
  have hP6 := hP.out.ext EA6
  have hzA := Below.size EA6
  have hzW := Below.size EA.out
  clear hX5 hX6 r6 hO5
  go_upto_region 7 with (fail)
  refine wp_region_lit ?_
  refine wpList_run rfl (.pointer (some ⟨p, 0, none⟩)) (by simp [go_sem]) ?_
  simp only [Act.put, List.setIfInBounds_toArray, List.set_cons_zero, List.set_cons_succ]
  refine wpList_run rfl (.pointer (some ⟨c, 1, none⟩)) (by simp [go_sem]) ?_
  simp only [Act.put, List.setIfInBounds_toArray, List.set_cons_zero, List.set_cons_succ]
  refine wpList_run rfl (.int .i64 m) (by simp [go_sem, e1]) ?_
  simp only [Act.put, List.setIfInBounds_toArray, List.set_cons_zero, List.set_cons_succ]
  refine wpList_run rfl (.slice oo l oc) (by simp [go_sem]) ?_
  simp only [Act.put, List.setIfInBounds_toArray, List.set_cons_zero, List.set_cons_succ]
  refine wpList_call rfl (by simp [go_sem]) ((kw.out).mono ?_)
  rintro e w7 ⟨rfl, F7, M7, hd7, hk7, hF7, hav, hsv⟩
  refine ⟨_, rfl, ?_⟩
  simp only [Act.put, List.setIfInBounds_toArray, List.set_cons_zero, List.set_cons_succ]
  have hObF : ∀ b, (Value.slice oo l oc).ownBlock = some b → ¬ F b := fun b hb e => by have := (hO6.lt b hb).1; have := hlF.out b e; omega
  have hO7 := hO6.keep hk7 hObF
  have hA7 := hA6.keep hk7 (fun e => by have := hlF.out c e; have := hc.out; omega)
  have hP7 := hP6.keep hk7 (fun a h0 ea e => (hpb.out a h0 ea).1 _ e rfl)
  have hK7 : Keeps F W w7 := (Keeps.of_ext E6.out).trans (F' := F) hk7 fun i hi => .inl hi
  have hobs : ∀ ob, some ob = (Value.slice oo l oc).ownBlock → w1.heap.size ≤ ob ∧ ob < w6.heap.size := fun ob e => hO6.lt ob e.symm
  have hD7 : ∀ X, Keeps (fun i => some i = (Value.slice oo l oc).ownBlock) w7 X → DkM F7 p (wS s m l f) (C + 1) M7 X := fun X kX => by
    have hN := wS_N (s := s) m l f
    refine hd7.keepN kX (fun i hi e => ?_) (fun i hi => ?_) (fun n j hn hj => ?_)
    · have := hobs i e
      rcases hF7 i hi with q | q
      · have := hlF.out i q; omega
      · omega
    · refine .inr fun e => ?_
      rw [hsv] at e
      obtain ⟨b, hb, hlt⟩ := (h.out.d.cont i (by rw [← hN]; exact hi)).own
      have := hobs b (by rw [← e, hb])
      omega
    · cases hv : (Value.slice oo l oc).ownBlock with
      | none => exact .inl rfl
      | some ob =>
        have := hobs ob hv.symm
        refine .inr (hav ob this.2 (fun n' j' hn' hj' e => ?_) n j (by rw [← hN]; exact hn) hj)
        obtain ⟨b, hb, hlt⟩ := (h.out.d.writes n' j' hn' hj').own
        rw [hb] at e
        injection e with e
        omega
  have hO8 : Hid (OwnB w1.heap.size 5 (.slice oo l oc) l (fun j => .int .u8 ((fun j => (((f j).toNat : Nat) : Int)) j)) w7) := hO7
  replace hD7 := hideit hD7
  replace hF7 := hideit hF7
  replace hK7 := hideit hK7
  replace hA7 := hideit hA7
  replace hP7 := hideit hP7
  replace hobs := hideit hobs
  replace hzA := hideit hzA
  replace hzW := hideit hzW
  clear kw e1 hd7 hk7 hav hsv hO7 hObF hP6 hA6 hO6 EA6
  refine wpList_run rfl (.int .i64 (wE s m l)) (by simp [go_sem]) ?_
  simp only [Act.put, List.setIfInBounds_toArray, List.set_cons_zero, List.set_cons_succ]
  go_wp2
  go_loopw [10] (fun jv X => ∃ (j : Nat) (ga : Nat → Int), j ≤ l ∧ jv = .int .i64 (j : Int) ∧ OwnB w1.heap.size 5 (.slice oo l oc) l (fun j => .int .u8 (ga j)) X ∧ Keeps (fun i => some i = (Value.slice oo l oc).ownBlock) w7 X) (fun jv _ => 200000000000000 - (intOf jv).toNat)
  case atStart => exact ⟨0, _, Nat.zero_le _, rfl, hO8.out, Keeps.refl _ _⟩
  case round =>
    obtain ⟨j, ga, hj, rfl, hO, hK⟩ := hrel
    clear hO8
    by_cases hlt : j < l
    · have j0 : (0 : Int) ≤ (j : Int) := by omega
      have j1 : (j : Int) < (l : Int) := by omega
      obtain ⟨b, cap', e, _, _, _, hR⟩ := hO.lies (by omega)
      have eo : oo = some ⟨b, 0, none⟩ := (Value.slice.inj e).1
      subst eo
      have ec := hR.1 j hlt
      have ez := hR.2.1 j hlt
      have hO' := hO.set (b := b) rfl j hlt (.int .u8 (IntKind.u8.wrap (ga j + 1)))
      have hK' := hK.trans (F' := fun i => some i = (Value.slice (some ⟨b, 0, none⟩) l oc).ownBlock) (Keeps.of_grown (but_setCell wr b j (.int .u8 (IntKind.u8.wrap (ga j + 1)))) fun b' hb' => .inl hb'.symm) fun i hi => .inl hi
      replace hO' := hideit (hO'.congr (g' := fun t => .int .u8 ((fun t => if t = j then IntKind.u8.wrap (ga j + 1) else ga t) t)) fun t ht => by
        show (if t = j then _ else _) = Value.int .u8 (if t = j then _ else _)
        split <;> rfl)
      replace hK' := hideit hK'
      clear hO hK hR e
      go_upto_region 9 with (fail)
      refine wp_region_lit ?_
      refine wpList_run rfl (.int .i64 (j : Int)) (by simp [go_sem]) ?_
      simp only [Act.put, List.setIfInBounds_toArray, List.set_cons_zero, List.set_cons_succ]
      refine wpList_run rfl (.slice (some ⟨b, 0, none⟩) l oc) (by simp [go_sem]) ?_
      simp only [Act.put, List.setIfInBounds_toArray, List.set_cons_zero, List.set_cons_succ]
      refine wpList_run rfl (.int .i64 (l : Int)) (by simp [go_sem]) ?_
      simp only [Act.put, List.setIfInBounds_toArray, List.set_cons_zero, List.set_cons_succ]
      refine wpList_run rfl (.bool true) (by simp [go_sem, j1]) ?_
      simp only [Act.put, List.setIfInBounds_toArray, List.set_cons_zero, List.set_cons_succ]
      go_upto_region 11 with (fail)
      refine wp_region_lit ?_
      refine wpList_run rfl (.slice (some ⟨b, 0, none⟩) l oc) (by simp [go_sem]) ?_
      simp only [Act.put, List.setIfInBounds_toArray, List.set_cons_zero, List.set_cons_succ]
      refine wpList_run rfl (.int .i64 (j : Int)) (by simp [go_sem]) ?_
      simp only [Act.put, List.setIfInBounds_toArray, List.set_cons_zero, List.set_cons_succ]
      refine wpList_run rfl (.pointer (some ⟨b, j, none⟩)) (by simp [go_sem, j1]) ?_
      simp only [Act.put, List.setIfInBounds_toArray, List.set_cons_zero, List.set_cons_succ]
      refine wpList_run rfl (.int .u8 (ga j)) (by simp [go_sem, ec]) ?_
      simp only [Act.put, List.setIfInBounds_toArray, List.set_cons_zero, List.set_cons_succ]
      refine wpList_run rfl (.int .u8 (IntKind.u8.wrap (ga j + 1))) (by simp [go_sem]) ?_
      simp only [Act.put, List.setIfInBounds_toArray, List.set_cons_zero, List.set_cons_succ]
      refine wpList_run rfl (.pointer (some ⟨b, j, none⟩)) (by simp [go_sem, j1]) ?_
      simp only [Act.put, List.setIfInBounds_toArray, List.set_cons_zero, List.set_cons_succ]
      refine wpList_st9 rfl (wr.setCell ⟨b, j, none⟩ (.int .u8 (IntKind.u8.wrap (ga j + 1)))) (by simp [go_sem, ec, ez]) ?_
      simp only [Act.put]
      clear ec ez
      go_wp2
      exact ⟨⟨j + 1, _, by omega, by go_num, hO'.out, hK'.out⟩, by simp [intOf]; omega⟩
    · have ej : l = j := by omega
      subst ej
      have j1 : ¬ (l : Int) < (l : Int) := by omega
      have hd := hD7.out wr hK
      have hKW : Keeps F W wr := hK7.out.trans (F' := fun i => some i = (Value.slice oo l oc).ownBlock) hK fun i hi => by
        have := hobs.out i hi
        have := hzW.out
        exact .inr (by omega)
      have hr := h.out.r.keep hKW fun i hi hf => h.out.ap i hf hi
      have hPX := hP7.out.keep hK (fun a h0 ea e => by
        have := (hpb.out a h0 ea).2
        have := hobs.out _ e
        omega)
      have e1 : wr.cell? ⟨c, 1, none⟩ = some (.int .i64 m) := (hA7.out.keep hK (fun e => by have := hobs.out c e; have := hcA.out; omega)).1 1 (by decide)
      have kr := hideit (wrtR hr h.out.off (fun h0 => h.out.pos h0) m uo l uc f hPX (fun n hn => by have := h.out.d.kcC n hn; omega))
      replace hd := hideit hd
      replace hKW := hideit hKW
      clear hr hPX hO hK
      go_upto_region 9 with (fail)
      refine wp_region_lit ?_
      refine wpList_run rfl (.int .i64 (l : Int)) (by simp [go_sem]) ?_
      simp only [Act.put, List.setIfInBounds_toArray, List.set_cons_zero, List.set_cons_succ]
      refine wpList_run rfl (.slice oo l oc) (by simp [go_sem]) ?_
      simp only [Act.put, List.setIfInBounds_toArray, List.set_cons_zero, List.set_cons_succ]
      refine wpList_run rfl (.int .i64 (l : Int)) (by simp [go_sem]) ?_
      simp only [Act.put, List.setIfInBounds_toArray, List.set_cons_zero, List.set_cons_succ]
      refine wpList_run rfl (.bool false) (by simp [go_sem]) ?_
      simp only [Act.put, List.setIfInBounds_toArray, List.set_cons_zero, List.set_cons_succ]
      go_upto_region 12 with (fail)
      refine wp_region_lit ?_
      refine wpList_run rfl (.int .i64 (wE s m l)) (by simp [go_sem]) ?_
      simp only [Act.put, List.setIfInBounds_toArray, List.set_cons_zero, List.set_cons_succ]
      refine wpList_run rfl (.pointer (some ⟨x, 0, none⟩)) (by simp [go_sem]) ?_
      simp only [Act.put, List.setIfInBounds_toArray, List.set_cons_zero, List.set_cons_succ]
      refine wpList_run rfl (.pointer (some ⟨c, 1, none⟩)) (by simp [go_sem]) ?_
      simp only [Act.put, List.setIfInBounds_toArray, List.set_cons_zero, List.set_cons_succ]
      refine wpList_run rfl (.int .i64 m) (by simp [go_sem, e1]) ?_
      simp only [Act.put, List.setIfInBounds_toArray, List.set_cons_zero, List.set_cons_succ]
      refine wpList_run rfl (.slice uo l uc) (by simp [go_sem]) ?_
      simp only [Act.put, List.setIfInBounds_toArray, List.set_cons_zero, List.set_cons_succ]
      refine wpList_call rfl (by simp [go_sem]) ((kr.out).mono ?_)
      rintro e w9 ⟨rfl, G9, R9, hbb, hr9, hk9, hG9⟩
      refine ⟨_, rfl, ?_⟩
      simp only [Act.put, List.setIfInBounds_toArray, List.set_cons_zero, List.set_cons_succ]
      refine wpList_run rfl (.bool true) (by simp [go_sem]) ?_
      simp only [Act.put, List.setIfInBounds_toArray, List.set_cons_zero, List.set_cons_succ]
      refine wpList_run rfl (.bool true) (by simp [go_sem]) ?_
      simp only [Act.put, List.setIfInBounds_toArray, List.set_cons_zero, List.set_cons_succ]
      obtain ⟨q1, q2⟩ := h.out.step (Ext.refl _) hd.out hKW.out (Ext.refl _) (fun i hi => by
        rcases hF7.out i hi with q | q
        · exact .inl q
        · exact .inr (by have := Below.size E6.out; omega)) hr9 hk9 hG9 (wr_on h.out m l f) (wr_no h.out m l f)
      replace q1 := hideit q1
      replace q2 := hideit q2
      clear kr e1 hr9 hk9 hG9 hbb
      go_wp2
      go_ret
      exact ⟨rfl, _, _, _, _, _, _, _, wS_N m l f, q1.out, q2.out⟩
set_option maxRecDepth 20000 in
set_option maxHeartbeats 8000000 in
theorem does_1_g {F G : Nat → Prop} {p x : Nat} {s : DSt} {C : Nat} {M : DM} {stp : Bool} {cl : Int} {R : RM} {W : World} (h : Tw F G p x s C M stp cl R W) (V : World) (hV : Ext V W) (hFV : ∀ i, F i → V.heap.size ≤ i) (hGV : ∀ i, G i → V.heap.size ≤ i) (m : Int) (hm : okI m) (uo : Option Addr) (l uc : Nat) (f : Nat → BitVec 8) (hu : PV (.slice uo l uc) l f V) (hl : l ≤ 140737488355328) (qo : Option Addr) (kk qc : Nat) (kb kw : Nat → Int) (hq : KP (.slice qo kk qc) kk kb kw V) (hkk : kk * 16 ≤ 140737488355328) (hok : ∀ i, i < kk → okI (kb i) ∧ okI (kw i)) (hC : C ≤ 4398046511000) : Calls Try.prog 14 #[.pointer (some ⟨p, 0, none⟩), .pointer (some ⟨x, 0, none⟩), .agg #[.int .i64 1, .int .i64 m, .slice uo l uc, .bool false, .slice qo kk qc]] W (DoP F G p x s C W) := by
  have hH1 := opRow W 1 m (.slice uo l uc) false (.slice qo kk qc)
  have hE1 : Ext W (W.alloc (.cells #[.int .i64 1, .int .i64 m, .slice uo l uc, .bool false, .slice qo kk qc] 34)) := (Below.refl _ _).alloc (Nat.le_refl _) _
  have hz1 : (W.alloc (.cells #[.int .i64 1, .int .i64 m, .slice uo l uc, .bool false, .slice qo kk qc] 34)).heap.size = W.heap.size + 1 := by simp
  have hlF : Hid (∀ i, F i → i < W.heap.size) := h.d.lt
  have hlG : Hid (∀ i, G i → i < W.heap.size) := h.r.lt
  have hun := And.intro hkk hC
  clear hun
  replace h := hideit h
  replace hu := hideit hu
  replace hq := hideit hq
  replace hok := hideit hok
  replace hFV := hideit hFV
  replace hGV := hideit hGV
  replace hV := hideit hV
  replace hm := hideit hm
  go_enter Try.func14, Try.ntmps14
  go_upto_region 0 with (fail)
  refine wp_region_lit ?_
  refine wpList_to rfl (.pointer (some ⟨W.heap.size, 0, none⟩)) (W.alloc (.cells #[.int .i64 1, .int .i64 m, .slice uo l uc, .bool false, .slice qo kk qc] 34)) (by simp [go_sem]) ?_
  simp only [Act.put, List.setIfInBounds_toArray, List.set_cons_zero, List.set_cons_succ]
  refine wpList_run rfl (.bool false) (by simp [go_sem]) ?_
  simp only [Act.put, List.setIfInBounds_toArray, List.set_cons_zero, List.set_cons_succ]
  generalize W.alloc (.cells #[.int .i64 1, .int .i64 m, .slice uo l uc, .bool false, .slice qo kk qc] 34) = w1 at *
  obtain ⟨c, hc⟩ : ∃ c, c = W.heap.size := ⟨_, rfl⟩
  rw [← hc] at hH1 ⊢
  replace hc := hideit hc
  replace hE1 := hideit hE1
  replace hz1 := hideit hz1
  have e2 : w1.cell? ⟨c, 2, none⟩ = some (.slice uo l uc) := hH1.1 2 (by decide)
  have e3 : w1.cell? ⟨c, 3, none⟩ = some (.bool false) := hH1.1 3 (by decide)
  replace hH1 := hideit hH1
  go_upto_region 1 with (fail)
  refine wp_region_lit ?_
  refine wpList_run rfl (.pointer (some ⟨c, 2, none⟩)) (by simp [go_sem]) ?_
  simp only [Act.put, List.setIfInBounds_toArray, List.set_cons_zero, List.set_cons_succ]
  refine wpList_run rfl (.slice uo l uc) (by simp [go_sem, e2]) ?_
  simp only [Act.put, List.setIfInBounds_toArray, List.set_cons_zero, List.set_cons_succ]
  refine wpList_run rfl (.slice uo l uc) (by simp [go_sem]) ?_
  simp only [Act.put, List.setIfInBounds_toArray, List.set_cons_zero, List.set_cons_succ]
  go_upto_region 2 with (fail)
  refine wp_region_lit ?_
  refine wpList_run rfl (.pointer (some ⟨c, 3, none⟩)) (by simp [go_sem]) ?_
  simp only [Act.put, List.setIfInBounds_toArray, List.set_cons_zero, List.set_cons_succ]
  refine wpList_run rfl (.bool false) (by simp [go_sem, e3]) ?_
  simp only [Act.put, List.setIfInBounds_toArray, List.set_cons_zero, List.set_cons_succ]
  refine wpList_run rfl (.bool true) (by simp [go_sem]) ?_
  simp only [Act.put, List.setIfInBounds_toArray, List.set_cons_zero, List.set_cons_succ]
  have kb4 := hideit (block_pv (.slice uo l uc) l f w1 (hu.out.ext (Ext.trans hV.out hE1.out)) (by unfold maxLen; omega))
  go_upto_region 3 with (fail)
  refine wp_region_lit ?_
  refine wpList_run rfl (.pointer (some ⟨c, 2, none⟩)) (by simp [go_sem]) ?_
  simp only [Act.put, List.setIfInBounds_toArray, List.set_cons_zero, List.set_cons_succ]
  refine wpList_run rfl (.slice uo l uc) (by simp [go_sem, e2]) ?_
  simp only [Act.put, List.setIfInBounds_toArray, List.set_cons_zero, List.set_cons_succ]
  refine wpList_call rfl (by simp [go_sem]) ((kb4.out).mono ?_)
  rintro e w4 ⟨v4, rfl, hO4, hX4⟩
  refine ⟨_, rfl, ?_⟩
  simp only [Act.put, List.setIfInBounds_toArray, List.set_cons_zero, List.set_cons_succ]
  obtain ⟨o4, c4, rfl⟩ := b512 hO4
  refine wpList_run rfl (.slice o4 512 c4) (by simp [go_sem]) ?_
  simp only [Act.put, List.setIfInBounds_toArray, List.set_cons_zero, List.set_cons_succ]
  have hA : Hid (RowAt c 5 (opc 1 m (.slice uo l uc) false (.slice qo kk qc)) w4) := hH1.out.carry hX4
  have EA : Hid (Ext W w4) := Ext.trans hE1.out hX4
  have hP : Hid (PV (.slice o4 512 c4) 512 (blkF l f) w4) := hO4.bv.pv
  have hpb : Hid (∀ a, 0 < 512 → o4 = some a → (∀ i, F i → i ≠ a.block) ∧ a.block < w4.heap.size) := fun a _ ea => by
    have hb := hO4.lt a.block (by rw [ea]; rfl)
    exact ⟨fun i hi e => by have := hlF.out i hi; have := hz1.out; omega, hb.2⟩
  have hcA : Hid (c < w4.heap.size) := by show c < w4.heap.size; have := Below.size hX4; have := hz1.out; rw [hc.out]; omega
  have hbl : 512 ≤ 140737488355328 := by decide
  clear hH1 hE1 hz1 e2 e3 kb4 hO4 hX4
  have e0 : w4.cell? ⟨c, 0, none⟩ = some (.int .i64 1) := hA.out.1 0 (by decide)
  go_upto_region 4 with (fail)
  refine wp_region_lit ?_
  refine wpList_run rfl (.pointer (some ⟨c, 0, none⟩)) (by simp [go_sem]) ?_
  simp only [Act.put, List.setIfInBounds_toArray, List.set_cons_zero, List.set_cons_succ]
  refine wpList_run rfl (.int .i64 1) (by simp [go_sem, e0]) ?_
  simp only [Act.put, List.setIfInBounds_toArray, List.set_cons_zero, List.set_cons_succ]
  clear e0
  go_upto_region 5 with (fail)
  refine wp_region_lit ?_
  refine wpList_run rfl (.bool true) (by simp [go_sem]) ?_
  simp only [Act.put, List.setIfInBounds_toArray, List.set_cons_zero, List.set_cons_succ]
  refine wpList_run rfl (.bool true) (by simp [go_sem]) ?_
  simp only [Act.put, List.setIfInBounds_toArray, List.set_cons_zero, List.set_cons_succ]
  have hO5 := own_empty w4 w4.heap.size 5 (fun _ => undef) (Nat.le_refl _)
  have hX5 : Ext w4 (w4.alloc (.cells #[] 5)) := (Below.refl _ _).alloc (Nat.le_refl _) _
  obtain ⟨v6, w6, r6, hO6, hX6⟩ := run_full31 (w := w4.alloc (.cells #[] 5)) (hP.out.ext hX5) hbl _ w4.heap.size hO5 (Below.size hX5) 31
  obtain ⟨oo, oc, rfl⟩ := hO6.bv.form
  go_upto_region 6 with (fail)
  refine wp_region_lit ?_
  refine wpList_to rfl (.slice (some ⟨w4.heap.size, 0, none⟩) 0 0) (w4.alloc (.cells #[] 5)) (by simp [go_sem]) ?_
  simp only [Act.put, List.setIfInBounds_toArray, List.set_cons_zero, List.set_cons_succ]
  refine wpList_run rfl (.slice o4 512 c4) (by simp [go_sem]) ?_
  simp only [Act.put, List.setIfInBounds_toArray, List.set_cons_zero, List.set_cons_succ]
  refine wpList_to rfl (.slice oo 512 oc) w6 (exec_app (.tmp 27) (.tmp 28) rfl rfl rfl r6) ?_
  simp only [Act.put, List.setIfInBounds_toArray, List.set_cons_zero, List.set_cons_succ]
  refine wpList_run rfl (.slice oo 512 oc) (by simp [go_sem]) ?_
  simp only [Act.put, List.setIfInBounds_toArray, List.set_cons_zero, List.set_cons_succ]
  have EA6 := Ext.trans hX5 hX6
  have E6 : Hid (Ext W w6) := Ext.trans EA.out EA6
  have hA6 := hA.out.carry EA6
  have e1 : w6.cell? ⟨c, 1, none⟩ = some (.int .i64 m) := hA6.1 1 (by decide)
  have kw := hideit (wrtD (h.out.d.ext E6.out) m oo 512 oc (blkF l f) hO6.bv.pv (by omega))
  have hP6 := hP.out.ext EA6
  have hzA := Below.size EA6
  have hzW := Below.size EA.out
  clear hX5 hX6 r6 hO5
  go_upto_region 7 with (fail)
  refine wp_region_lit ?_
  refine wpList_run rfl (.pointer (some ⟨p, 0, none⟩)) (by simp [go_sem]) ?_
  simp only [Act.put, List.setIfInBounds_toArray, List.set_cons_zero, List.set_cons_succ]
  refine wpList_run rfl (.pointer (some ⟨c, 1, none⟩)) (by simp [go_sem]) ?_
  simp only [Act.put, List.setIfInBounds_toArray, List.set_cons_zero, List.set_cons_succ]
  refine wpList_run rfl (.int .i64 m) (by simp [go_sem, e1]) ?_
  simp only [Act.put, List.setIfInBounds_toArray, List.set_cons_zero, List.set_cons_succ]
  refine wpList_run rfl (.slice oo 512 oc) (by simp [go_sem]) ?_
  simp only [Act.put, List.setIfInBounds_toArray, List.set_cons_zero, List.set_cons_succ]
  refine wpList_call rfl (by simp [go_sem]) ((kw.out).mono ?_)
  rintro e w7 ⟨rfl, F7, M7, hd7, hk7, hF7, hav, hsv⟩
  refine ⟨_, rfl, ?_⟩
  simp only [Act.put, List.setIfInBounds_toArray, List.set_cons_zero, List.set_cons_succ]
  have hObF : ∀ b, (Value.slice oo 512 oc).ownBlock = some b → ¬ F b := fun b hb e => by have := (hO6.lt b hb).1; have := hlF.out b e; omega
  have hO7 := hO6.keep hk7 hObF
  have hA7 := hA6.keep hk7 (fun e => by have := hlF.out c e; have := hc.out; omega)
  have hP7 := hP6.keep hk7 (fun a h0 ea e => (hpb.out a h0 ea).1 _ e rfl)
  have hK7 : Keeps F W w7 := (Keeps.of_ext E6.out).trans (F' := F) hk7 fun i hi => .inl hi
  have hobs : ∀ ob, some ob = (Value.slice oo 512 oc).ownBlock → w4.heap.size ≤ ob ∧ ob < w6.heap.size := fun ob e => hO6.lt ob e.symm
  have hD7 : ∀ X, Keeps (fun i => some i = (Value.slice oo 512 oc).ownBlock) w7 X → DkM F7 p (wS s m 512 (blkF l f)) (C + 1) M7 X := fun X kX => by
    have hN := wS_N (s := s) m 512 (blkF l f)
    refine hd7.keepN kX (fun i hi e => ?_) (fun i hi => ?_) (fun n j hn hj => ?_)
    · have := hobs i e
      rcases hF7 i hi with q | q
      · have := hlF.out i q; omega
      · omega
    · refine .inr fun e => ?_
      rw [hsv] at e
      obtain ⟨b, hb, hlt⟩ := (h.out.d.cont i (by rw [← hN]; exact hi)).own
      have := hobs b (by rw [← e, hb])
      omega
    · cases hv : (Value.slice oo 512 oc).ownBlock with
      | none => exact .inl rfl
      | some ob =>
        have := hobs ob hv.symm
        refine .inr (hav ob this.2 (fun n' j' hn' hj' e => ?_) n j (by rw [← hN]; exact hn) hj)
        obtain ⟨b, hb, hlt⟩ := (h.out.d.writes n' j' hn' hj').own
        rw [hb] at e
        injection e with e
        omega
  have hO8 : Hid (OwnB w4.heap.size 5 (.slice oo 512 oc) 512 (fun j => .int .u8 ((fun j => ((((blkF l f) j).toNat : Nat) : Int)) j)) w7) := hO7
  replace hD7 := hideit hD7
  replace hF7 := hideit hF7
  replace hK7 := hideit hK7
  replace hA7 := hideit hA7
  replace hP7 := hideit hP7
  replace hobs := hideit hobs
  replace hzA := hideit hzA
  replace hzW := hideit hzW
  clear kw e1 hd7 hk7 hav hsv hO7 hObF hP6 hA6 hO6 EA6
  refine wpList_run rfl (.int .i64 (wE s m 512)) (by simp [go_sem]) ?_
  simp only [Act.put, List.setIfInBounds_toArray, List.set_cons_zero, List.set_cons_succ]
  go_wp2
  go_loopw [10] (fun jv X => ∃ (j : Nat) (ga : Nat → Int), j ≤ 512 ∧ jv = .int .i64 (j : Int) ∧ OwnB w4.heap.size 5 (.slice oo 512 oc) 512 (fun j => .int .u8 (ga j)) X ∧ Keeps (fun i => some i = (Value.slice oo 512 oc).ownBlock) w7 X) (fun jv _ => 200000000000000 - (intOf jv).toNat)
  case atStart => exact ⟨0, _, Nat.zero_le _, rfl, hO8.out, Keeps.refl _ _⟩
  case round =>
    obtain ⟨j, ga, hj, rfl, hO, hK⟩ := hrel
    clear hO8
    by_cases hlt : j < 512
    · have j0 : (0 : Int) ≤ (j : Int) := by omega
      have j1 : (j : Int) < (512 : Int) := by omega
      obtain ⟨b, cap', e, _, _, _, hR⟩ := hO.lies (by omega)
      have eo : oo = some ⟨b, 0, none⟩ := (Value.slice.inj e).1
      subst eo
      have ec := hR.1 j hlt
      have ez := hR.2.1 j hlt
      have hO' := hO.set (b := b) rfl j hlt (.int .u8 (IntKind.u8.wrap (ga j + 1)))
      have hK' := hK.trans (F' := fun i => some i = (Value.slice (some ⟨b, 0, none⟩) 512 oc).ownBlock) (Keeps.of_grown (but_setCell wr b j (.int .u8 (IntKind.u8.wrap (ga j + 1)))) fun b' hb' => .inl hb'.symm) fun i hi => .inl hi
      replace hO' := hideit (hO'.congr (g' := fun t => .int .u8 ((fun t => if t = j then IntKind.u8.wrap (ga j + 1) else ga t) t)) fun t ht => by
        show (if t = j then _ else _) = Value.int .u8 (if t = j then _ else _)
        split <;> rfl)
      replace hK' := hideit hK'
      clear hO hK hR e
      go_upto_region 9 with (fail)
      refine wp_region_lit ?_
      refine wpList_run rfl (.int .i64 (j : Int)) (by simp [go_sem]) ?_
      simp only [Act.put, List.setIfInBounds_toArray, List.set_cons_zero, List.set_cons_succ]
      refine wpList_run rfl (.slice (some ⟨b, 0, none⟩) 512 oc) (by simp [go_sem]) ?_
      simp only [Act.put, List.setIfInBounds_toArray, List.set_cons_zero, List.set_cons_succ]
      refine wpList_run rfl (.int .i64 (512 : Int)) (by simp [go_sem]) ?_
      simp only [Act.put, List.setIfInBounds_toArray, List.set_cons_zero, List.set_cons_succ]
      refine wpList_run rfl (.bool true) (by simp [go_sem, j1]) ?_
      simp only [Act.put, List.setIfInBounds_toArray, List.set_cons_zero, List.set_cons_succ]
      go_upto_region 11 with (fail)
      refine wp_region_lit ?_
      refine wpList_run rfl (.slice (some ⟨b, 0, none⟩) 512 oc) (by simp [go_sem]) ?_
      simp only [Act.put, List.setIfInBounds_toArray, List.set_cons_zero, List.set_cons_succ]
      refine wpList_run rfl (.int .i64 (j : Int)) (by simp [go_sem]) ?_
      simp only [Act.put, List.setIfInBounds_toArray, List.set_cons_zero, List.set_cons_succ]
      refine wpList_run rfl (.pointer (some ⟨b, j, none⟩)) (by simp [go_sem, j1]) ?_
      simp only [Act.put, List.setIfInBounds_toArray, List.set_cons_zero, List.set_cons_succ]
      refine wpList_run rfl (.int .u8 (ga j)) (by simp [go_sem, ec]) ?_
      simp only [Act.put, List.setIfInBounds_toArray, List.set_cons_zero, List.set_cons_succ]
      refine wpList_run rfl (.int .u8 (IntKind.u8.wrap (ga j + 1))) (by simp [go_sem]) ?_
      simp only [Act.put, List.setIfInBounds_toArray, List.set_cons_zero, List.set_cons_succ]
      refine wpList_run rfl (.pointer (some ⟨b, j, none⟩)) (by simp [go_sem, j1]) ?_
      simp only [Act.put, List.setIfInBounds_toArray, List.set_cons_zero, List.set_cons_succ]
      refine wpList_st9 rfl (wr.setCell ⟨b, j, none⟩ (.int .u8 (IntKind.u8.wrap (ga j + 1)))) (by simp [go_sem, ec, ez]) ?_
      simp only [Act.put]
      clear ec ez
      go_wp2
      exact ⟨⟨j + 1, _, by omega, by go_num, hO'.out, hK'.out⟩, by simp [intOf]; omega⟩
    · have ej : 512 = j := by omega
      subst ej
      have j1 : ¬ (512 : Int) < (512 : Int) := by omega
      have hd := hD7.out wr hK
      have hKW : Keeps F W wr := hK7.out.trans (F' := fun i => some i = (Value.slice oo 512 oc).ownBlock) hK fun i hi => by
        have := hobs.out i hi
        have := hzW.out
        exact .inr (by omega)
      have hr := h.out.r.keep hKW fun i hi hf => h.out.ap i hf hi
      have hPX := hP7.out.keep hK (fun a h0 ea e => by
        have := (hpb.out a h0 ea).2
        have := hobs.out _ e
        omega)
      have e1 : wr.cell? ⟨c, 1, none⟩ = some (.int .i64 m) := (hA7.out.keep hK (fun e => by have := hobs.out c e; have := hcA.out; omega)).1 1 (by decide)
      have kr := hideit (wrtR hr h.out.off (fun h0 => h.out.pos h0) m o4 512 c4 (blkF l f) hPX (fun n hn => by have := h.out.d.kcC n hn; omega))
      replace hd := hideit hd
      replace hKW := hideit hKW
      clear hr hPX hO hK
      go_upto_region 9 with (fail)
      refine wp_region_lit ?_
      refine wpList_run rfl (.int .i64 (512 : Int)) (by simp [go_sem]) ?_
      simp only [Act.put, List.setIfInBounds_toArray, List.set_cons_zero, List.set_cons_succ]
      refine wpList_run rfl (.slice oo 512 oc) (by simp [go_sem]) ?_
      simp only [Act.put, List.setIfInBounds_toArray, List.set_cons_zero, List.set_cons_succ]
      refine wpList_run rfl (.int .i64 (512 : Int)) (by simp [go_sem]) ?_
      simp only [Act.put, List.setIfInBounds_toArray, List.set_cons_zero, List.set_cons_succ]
      refine wpList_run rfl (.bool false) (by simp [go_sem]) ?_
      simp only [Act.put, List.setIfInBounds_toArray, List.set_cons_zero, List.set_cons_succ]
      go_upto_region 12 with (fail)
      refine wp_region_lit ?_
      refine wpList_run rfl (.int .i64 (wE s m 512)) (by simp [go_sem]) ?_
      simp only [Act.put, List.setIfInBounds_toArray, List.set_cons_zero, List.set_cons_succ]
      refine wpList_run rfl (.pointer (some ⟨x, 0, none⟩)) (by simp [go_sem]) ?_
      simp only [Act.put, List.setIfInBounds_toArray, List.set_cons_zero, List.set_cons_succ]
      refine wpList_run rfl (.pointer (some ⟨c, 1, none⟩)) (by simp [go_sem]) ?_
      simp only [Act.put, List.setIfInBounds_toArray, List.set_cons_zero, List.set_cons_succ]
      refine wpList_run rfl (.int .i64 m) (by simp [go_sem, e1]) ?_
      simp only [Act.put, List.setIfInBounds_toArray, List.set_cons_zero, List.set_cons_succ]
      refine wpList_run rfl (.slice o4 512 c4) (by simp [go_sem]) ?_
      simp only [Act.put, List.setIfInBounds_toArray, List.set_cons_zero, List.set_cons_succ]
      refine wpList_call rfl (by simp [go_sem]) ((kr.out).mono ?_)
      rintro e w9 ⟨rfl, G9, R9, hbb, hr9, hk9, hG9⟩
      refine ⟨_, rfl, ?_⟩
      simp only [Act.put, List.setIfInBounds_toArray, List.set_cons_zero, List.set_cons_succ]
      refine wpList_run rfl (.bool true) (by simp [go_sem]) ?_
      simp only [Act.put, List.setIfInBounds_toArray, List.set_cons_zero, List.set_cons_succ]
      refine wpList_run rfl (.bool true) (by simp [go_sem]) ?_
      simp only [Act.put, List.setIfInBounds_toArray, List.set_cons_zero, List.set_cons_succ]
      obtain ⟨q1, q2⟩ := h.out.step (Ext.refl _) hd.out hKW.out (Ext.refl _) (fun i hi => by
        rcases hF7.out i hi with q | q
        · exact .inl q
        · exact .inr (by have := Below.size E6.out; omega)) hr9 hk9 hG9 (wr_on h.out m 512 (blkF l f)) (wr_no h.out m 512 (blkF l f))
      replace q1 := hideit q1
      replace q2 := hideit q2
      clear kr e1 hr9 hk9 hG9 hbb
      go_wp2
      go_ret
      exact ⟨rfl, _, _, _, _, _, _, _, wS_N m 512 (blkF l f), q1.out, q2.out⟩
end Go.Proofs.Ytfaeieaelfjlpaa
namespace Go.Proofs.Ytfaeieaelfjlpaa
open Go.RowKit Go.BigFrame Go.Maps
set_option maxRecDepth 20000 in
set_option maxHeartbeats 8000000 in
theorem does_2_b {F G : Nat → Prop} {p x : Nat} {s : DSt} {C : Nat} {M : DM} {stp : Bool} {cl : Int} {R : RM} {W : World} (h : Tw F G p x s C M stp cl R W) (V : World) (hV : Ext V W) (hFV : ∀ i, F i → V.heap.size ≤ i) (hGV : ∀ i, G i → V.heap.size ≤ i) (m : Int) (hm : okI m) (uo : Option Addr) (l uc : Nat) (f : Nat → BitVec 8) (hu : PV (.slice uo l uc) l f V) (hl : l ≤ 140737488355328) (qo : Option Addr) (kk qc : Nat) (kb kw : Nat → Int) (hq : KP (.slice qo kk qc) kk kb kw V) (hkk : kk * 16 ≤ 140737488355328) (hok : ∀ i, i < kk → okI (kb i) ∧ okI (kw i)) (hC : C ≤ 4398046511000) : Calls Try.prog 14 #[.pointer (some ⟨p, 0, none⟩), .pointer (some ⟨x, 0, none⟩), .agg #[.int .i64 2, .int .i64 m, .slice uo l uc, .bool true, .slice qo kk qc]] W (DoP F G p x s C W) := by
  have hH1 := opRow W 2 m (.slice uo l uc) true (.slice qo kk qc)
  have hE1 : Ext W (W.alloc (.cells #[.int .i64 2, .int .i64 m, .slice uo l uc, .bool true, .slice qo kk qc] 34)) := (Below.refl _ _).alloc (Nat.le_refl _) _
  have hz1 : (W.alloc (.cells #[.int .i64 2, .int .i64 m, .slice uo l uc, .bool true, .slice qo kk qc] 34)).heap.size = W.heap.size + 1 := by simp
  have hlF : Hid (∀ i, F i → i < W.heap.size) := h.d.lt
  have hlG : Hid (∀ i, G i → i < W.heap.size) := h.r.lt
  have hun := And.intro hkk hC
  clear hun
  replace h := hideit h
  replace hu := hideit hu
  replace hq := hideit hq
  replace hok := hideit hok
  replace hFV := hideit hFV
  replace hGV := hideit hGV
  replace hV := hideit hV
  replace hm := hideit hm
  go_enter Try.func14, Try.ntmps14
  go_upto_region 0 with (fail)
  refine wp_region_lit ?_
  refine wpList_to rfl (.pointer (some ⟨W.heap.size, 0, none⟩)) (W.alloc (.cells #[.int .i64 2, .int .i64 m, .slice uo l uc, .bool true, .slice qo kk qc] 34)) (by simp [go_sem]) ?_
  simp only [Act.put, List.setIfInBounds_toArray, List.set_cons_zero, List.set_cons_succ]
  refine wpList_run rfl (.bool false) (by simp [go_sem]) ?_
  simp only [Act.put, List.setIfInBounds_toArray, List.set_cons_zero, List.set_cons_succ]
  generalize W.alloc (.cells #[.int .i64 2, .int .i64 m, .slice uo l uc, .bool true, .slice qo kk qc] 34) = w1 at *
  obtain ⟨c, hc⟩ : ∃ c, c = W.heap.size := ⟨_, rfl⟩
  rw [← hc] at hH1 ⊢
  replace hc := hideit hc
  replace hE1 := hideit hE1
  replace hz1 := hideit hz1
  have e2 : w1.cell? ⟨c, 2, none⟩ = some (.slice uo l uc) := hH1.1 2 (by decide)
  have e3 : w1.cell? ⟨c, 3, none⟩ = some (.bool true) := hH1.1 3 (by decide)
  replace hH1 := hideit hH1
  go_upto_region 1 with (fail)
  refine wp_region_lit ?_
  refine wpList_run rfl (.pointer (some ⟨c, 2, none⟩)) (by simp [go_sem]) ?_
  simp only [Act.put, List.setIfInBounds_toArray, List.set_cons_zero, List.set_cons_succ]
  refine wpList_run rfl (.slice uo l uc) (by simp [go_sem, e2]) ?_
  simp only [Act.put, List.setIfInBounds_toArray, List.set_cons_zero, List.set_cons_succ]
  refine wpList_run rfl (.slice uo l uc) (by simp [go_sem]) ?_
  simp only [Act.put, List.setIfInBounds_toArray, List.set_cons_zero, List.set_cons_succ]
  go_upto_region 2 with (fail)
  refine wp_region_lit ?_
  refine wpList_run rfl (.pointer (some ⟨c, 3, none⟩)) (by simp [go_sem]) ?_
  simp only [Act.put, List.setIfInBounds_toArray, List.set_cons_zero, List.set_cons_succ]
  refine wpList_run rfl (.bool true) (by simp [go_sem, e3]) ?_
  simp only [Act.put, List.setIfInBounds_toArray, List.set_cons_zero, List.set_cons_succ]
  refine wpList_run rfl (.bool false) (by simp [go_sem]) ?_
  simp only [Act.put, List.setIfInBounds_toArray, List.set_cons_zero, List.set_cons_succ]
  have hA : Hid (RowAt c 5 (opc 2 m (.slice uo l uc) true (.slice qo kk qc)) w1) := hH1.out
  have EA : Hid (Ext W w1) := hE1.out
  have hP : Hid (PV (.slice uo l uc) l f w1) := hu.out.ext (Ext.trans hV.out hE1.out)
  have hpb : Hid (∀ a, 0 < l → uo = some a → (∀ i, F i → i ≠ a.block) ∧ a.block < w1.heap.size) := fun a h0 ea => ⟨fun i hi e => by have := hu.out.lt a h0 ea; have := hFV.out i hi; omega, Nat.lt_of_lt_of_le (hu.out.lt a h0 ea) (Below.size (Ext.trans hV.out hE1.out))⟩
  have hcA : Hid (c < w1.heap.size) := by show c < w1.heap.size; rw [hz1.out, hc.out]; omega
  have hbl : l ≤ 140737488355328 := hl
  clear hH1 hE1 hz1 e2 e3
  have e0 : w1.cell? ⟨c, 0, none⟩ = some (.int .i64 2) := hA.out.1 0 (by decide)
  go_upto_region 4 with (fail)
  refine wp_region_lit ?_
  refine wpList_run rfl (.pointer (some ⟨c, 0, none⟩)) (by simp [go_sem]) ?_
  simp only [Act.put, List.setIfInBounds_toArray, List.set_cons_zero, List.set_cons_succ]
  refine wpList_run rfl (.int .i64 2) (by simp [go_sem, e0]) ?_
  simp only [Act.put, List.setIfInBounds_toArray, List.set_cons_zero, List.set_cons_succ]
  clear e0
  go_upto_region 5 with (fail)
  refine wp_region_lit ?_
  refine wpList_run rfl (.bool false) (by simp [go_sem]) ?_
  simp only [Act.put, List.setIfInBounds_toArray, List.set_cons_zero, List.set_cons_succ]
  refine wpList_run rfl (.bool false) (by simp [go_sem]) ?_
  simp only [Act.put, List.setIfInBounds_toArray, List.set_cons_zero, List.set_cons_succ]
  go_upto_region 13 with (fail)
  refine wp_region_lit ?_
  refine wpList_run rfl (.bool true) (by simp [go_sem]) ?_
  simp only [Act.put, List.setIfInBounds_toArray, List.set_cons_zero, List.set_cons_succ]
  refine wpList_run rfl (.bool true) (by simp [go_sem]) ?_
  simp only [Act.put, List.setIfInBounds_toArray, List.set_cons_zero, List.set_cons_succ]
  have e1 : w1.cell? ⟨c, 1, none⟩ = some (.int .i64 m) := hA.out.1 1 (by decide)
  have kd := hideit (redD (h.out.d.ext EA.out) m (by omega))
  go_upto_region 14 with (fail)
  refine wp_region_lit ?_
  refine wpList_run rfl (.pointer (some ⟨p, 0, none⟩)) (by simp [go_sem]) ?_
  simp only [Act.put, List.setIfInBounds_toArray, List.set_cons_zero, List.set_cons_succ]
  refine wpList_run rfl (.pointer (some ⟨c, 1, none⟩)) (by simp [go_sem]) ?_
  simp only [Act.put, List.setIfInBounds_toArray, List.set_cons_zero, List.set_cons_succ]
  refine wpList_run rfl (.int .i64 m) (by simp [go_sem, e1]) ?_
  simp only [Act.put, List.setIfInBounds_toArray, List.set_cons_zero, List.set_cons_succ]
  refine wpList_call rfl (by simp [go_sem]) ((kd.out).mono ?_)
  rintro e w7 ⟨v7, rfl, hB7, hX7⟩
  refine ⟨_, rfl, ?_⟩
  simp only [Act.put, List.setIfInBounds_toArray, List.set_cons_zero, List.set_cons_succ]
  obtain ⟨o7, c7, rfl⟩ := hB7.form
  refine wpList_run rfl (.tuple #[.slice o7 (rL s m) c7, .int .i64 (rE s m)]) (by simp [go_sem]) ?_
  simp only [Act.put, List.setIfInBounds_toArray, List.set_cons_zero, List.set_cons_succ]
  refine wpList_run rfl (.slice o7 (rL s m) c7) (by simp [go_sem]) ?_
  simp only [Act.put, List.setIfInBounds_toArray, List.set_cons_zero, List.set_cons_succ]
  refine wpList_run rfl (.int .i64 (rE s m)) (by simp [go_sem]) ?_
  simp only [Act.put, List.setIfInBounds_toArray, List.set_cons_zero, List.set_cons_succ]
  refine wpList_run rfl (.slice o7 (rL s m) c7) (by simp [go_sem]) ?_
  simp only [Act.put, List.setIfInBounds_toArray, List.set_cons_zero, List.set_cons_succ]
  refine wpList_run rfl (.int .i64 (rE s m)) (by simp [go_sem]) ?_
  simp only [Act.put, List.setIfInBounds_toArray, List.set_cons_zero, List.set_cons_succ]
  have E7 := Ext.trans EA.out hX7
  have e1' : w7.cell? ⟨c, 1, none⟩ = some (.int .i64 m) := cell_ext hX7 e1
  have kr := hideit (redR (h.out.r.ext E7) h.out.off m)
  replace hB7 := hideit hB7
  replace E7 := hideit E7
  clear e1 kd hX7
  go_upto_region 15 with (fail)
  refine wp_region_lit ?_
  refine wpList_run rfl (.pointer (some ⟨x, 0, none⟩)) (by simp [go_sem]) ?_
  simp only [Act.put, List.setIfInBounds_toArray, List.set_cons_zero, List.set_cons_succ]
  refine wpList_run rfl (.pointer (some ⟨c, 1, none⟩)) (by simp [go_sem]) ?_
  simp only [Act.put, List.setIfInBounds_toArray, List.set_cons_zero, List.set_cons_succ]
  refine wpList_run rfl (.int .i64 m) (by simp [go_sem, e1']) ?_
  simp only [Act.put, List.setIfInBounds_toArray, List.set_cons_zero, List.set_cons_succ]
  refine wpList_call rfl (by simp [go_sem]) ((kr.out).mono ?_)
  rintro e w8 ⟨v8, rfl, hB8, hX8⟩
  refine ⟨_, rfl, ?_⟩
  simp only [Act.put, List.setIfInBounds_toArray, List.set_cons_zero, List.set_cons_succ]
  obtain ⟨o8, c8, rfl⟩ := hB8.form
  refine wpList_run rfl (.tuple #[.slice o8 (rL s m) c8, .int .i64 (rE s m)]) (by simp [go_sem]) ?_
  simp only [Act.put, List.setIfInBounds_toArray, List.set_cons_zero, List.set_cons_succ]
  refine wpList_run rfl (.slice o8 (rL s m) c8) (by simp [go_sem]) ?_
  simp only [Act.put, List.setIfInBounds_toArray, List.set_cons_zero, List.set_cons_succ]
  refine wpList_run rfl (.int .i64 (rE s m)) (by simp [go_sem]) ?_
  simp only [Act.put, List.setIfInBounds_toArray, List.set_cons_zero, List.set_cons_succ]
  refine wpList_run rfl (.slice o8 (rL s m) c8) (by simp [go_sem]) ?_
  simp only [Act.put, List.setIfInBounds_toArray, List.set_cons_zero, List.set_cons_succ]
  refine wpList_run rfl (.int .i64 (rE s m)) (by simp [go_sem]) ?_
  simp only [Act.put, List.setIfInBounds_toArray, List.set_cons_zero, List.set_cons_succ]
  have E8 := Ext.trans E7.out hX8
  obtain ⟨s1, hs1⟩ : ∃ s1, s1 = bstr (rL s m) (fun t => ((hasF s m.toNat t).toNat : Int)) := ⟨_, rfl⟩
  have ca : (convert 31 9 (.slice o7 (rL s m) c7)).run Try.prog w8 = .ok (.string s1) w8 := by rw [hs1]; exact convV _ _ _ w8 (hB7.out.ext hX8)
  have cb : (convert 31 9 (.slice o8 (rL s m) c8)).run Try.prog w8 = .ok (.string s1) w8 := by rw [hs1]; exact convV _ _ _ w8 hB8
  have q1 := hideit ((h.out.ext E8).mono (Nat.le_succ C))
  have q2 : Hid (Stp F G F G W w8) := Stp.ext E8
  generalize rE s m = re at *
  generalize rL s m = rl at *
  clear hs1 kr e1' hB7 hB8 hX8 E8 E7
  go_upto_region 16 with (fail)
  refine wp_region_lit ?_
  refine wpList_run rfl (.slice o7 rl c7) (by simp [go_sem]) ?_
  simp only [Act.put, List.setIfInBounds_toArray, List.set_cons_zero, List.set_cons_succ]
  refine wpList_run rfl (.string s1) (by simp [go_sem, ca]) ?_
  simp only [Act.put, List.setIfInBounds_toArray, List.set_cons_zero, List.set_cons_succ]
  refine wpList_run rfl (.slice o8 rl c8) (by simp [go_sem]) ?_
  simp only [Act.put, List.setIfInBounds_toArray, List.set_cons_zero, List.set_cons_succ]
  refine wpList_run rfl (.string s1) (by simp [go_sem, cb]) ?_
  simp only [Act.put, List.setIfInBounds_toArray, List.set_cons_zero, List.set_cons_succ]
  refine wpList_run rfl (.bool true) (by simp [go_sem]) ?_
  simp only [Act.put, List.setIfInBounds_toArray, List.set_cons_zero, List.set_cons_succ]
  refine wpList_run rfl (.bool true) (by simp [go_sem]) ?_
  simp only [Act.put, List.setIfInBounds_toArray, List.set_cons_zero, List.set_cons_succ]
  refine wpList_runW rfl (.int .i64 re) (by simp [go_sem]) ?_
  simp only [Act.put, List.setIfInBounds_toArray, List.set_cons_zero, List.set_cons_succ]
  refine wpList_runW rfl (.int .i64 re) (by simp [go_sem]) ?_
  simp only [Act.put, List.setIfInBounds_toArray, List.set_cons_zero, List.set_cons_succ]
  refine wpList_runW rfl (.bool true) (by simp [go_sem]) ?_
  simp only [Act.put, List.setIfInBounds_toArray, List.set_cons_zero, List.set_cons_succ]
  refine wpList_run rfl (.bool true) (by simp [go_sem]) ?_
  simp only [Act.put, List.setIfInBounds_toArray, List.set_cons_zero, List.set_cons_succ]
  refine wpList_run rfl (.bool true) (by simp [go_sem]) ?_
  simp only [Act.put, List.setIfInBounds_toArray, List.set_cons_zero, List.set_cons_succ]
  clear ca cb
  go_wp2
  go_ret
  exact ⟨rfl, _, _, _, _, _, _, _, rfl, q1.out, q2.out⟩
set_option maxRecDepth 20000 in
set_option maxHeartbeats 8000000 in
theorem does_2_g {F G : Nat → Prop} {p x : Nat} {s : DSt} {C : Nat} {M : DM} {stp : Bool} {cl : Int} {R : RM} {W : World} (h : Tw F G p x s C M stp cl R W) (V : World) (hV : Ext V W) (hFV : ∀ i, F i → V.heap.size ≤ i) (hGV : ∀ i, G i → V.heap.size ≤ i) (m : Int) (hm : okI m) (uo : Option Addr) (l uc : Nat) (f : Nat → BitVec 8) (hu : PV (.slice uo l uc) l f V) (hl : l ≤ 140737488355328) (qo : Option Addr) (kk qc : Nat) (kb kw : Nat → Int) (hq : KP (.slice qo kk qc) kk kb kw V) (hkk : kk * 16 ≤ 140737488355328) (hok : ∀ i, i < kk → okI (kb i) ∧ okI (kw i)) (hC : C ≤ 4398046511000) : Calls Try.prog 14 #[.pointer (some ⟨p, 0, none⟩), .pointer (some ⟨x, 0, none⟩), .agg #[.int .i64 2, .int .i64 m, .slice uo l uc, .bool false, .slice qo kk qc]] W (DoP F G p x s C W) := by
  have hH1 := opRow W 2 m (.slice uo l uc) false (.slice qo kk qc)
  have hE1 : Ext W (W.alloc (.cells #[.int .i64 2, .int .i64 m, .slice uo l uc, .bool false, .slice qo kk qc] 34)) := (Below.refl _ _).alloc (Nat.le_refl _) _
  have hz1 : (W.alloc (.cells #[.int .i64 2, .int .i64 m, .slice uo l uc, .bool false, .slice qo kk qc] 34)).heap.size = W.heap.size + 1 := by simp
  have hlF : Hid (∀ i, F i → i < W.heap.size) := h.d.lt
  have hlG : Hid (∀ i, G i → i < W.heap.size) := h.r.lt
  have hun := And.intro hkk hC
  clear hun
  replace h := hideit h
  replace hu := hideit hu
  replace hq := hideit hq
  replace hok := hideit hok
  replace hFV := hideit hFV
  replace hGV := hideit hGV
  replace hV := hideit hV
  replace hm := hideit hm
  go_enter Try.func14, Try.ntmps14
  go_upto_region 0 with (fail)
  refine wp_region_lit ?_
  refine wpList_to rfl (.pointer (some ⟨W.heap.size, 0, none⟩)) (W.alloc (.cells #[.int .i64 2, .int .i64 m, .slice uo l uc, .bool false, .slice qo kk qc] 34)) (by simp [go_sem]) ?_
  simp only [Act.put, List.setIfInBounds_toArray, List.set_cons_zero, List.set_cons_succ]
  refine wpList_run rfl (.bool false) (by simp [go_sem]) ?_
  simp only [Act.put, List.setIfInBounds_toArray, List.set_cons_zero, List.set_cons_succ]
  generalize W.alloc (.cells #[.int .i64 2, .int .i64 m, .slice uo l uc, .bool false, .slice qo kk qc] 34) = w1 at *
  obtain ⟨c, hc⟩ : ∃ c, c = W.heap.size := ⟨_, rfl⟩
  rw [← hc] at hH1 ⊢
  replace hc := hideit hc
  replace hE1 := hideit hE1
  replace hz1 := hideit hz1
  have e2 : w1.cell? ⟨c, 2, none⟩ = some (.slice uo l uc) := hH1.1 2 (by decide)
  have e3 : w1.cell? ⟨c, 3, none⟩ = some (.bool false) := hH1.1 3 (by decide)
  replace hH1 := hideit hH1
  go_upto_region 1 with (fail)
  refine wp_region_lit ?_
  refine wpList_run rfl (.pointer (some ⟨c, 2, none⟩)) (by simp [go_sem]) ?_
  simp only [Act.put, List.setIfInBounds_toArray, List.set_cons_zero, List.set_cons_succ]
  refine wpList_run rfl (.slice uo l uc) (by simp [go_sem, e2]) ?_
  simp only [Act.put, List.setIfInBounds_toArray, List.set_cons_zero, List.set_cons_succ]
  refine wpList_run rfl (.slice uo l uc) (by simp [go_sem]) ?_
  simp only [Act.put, List.setIfInBounds_toArray, List.set_cons_zero, List.set_cons_succ]
  go_upto_region 2 with (fail)
  refine wp_region_lit ?_
  refine wpList_run rfl (.pointer (some ⟨c, 3, none⟩)) (by simp [go_sem]) ?_
  simp only [Act.put, List.setIfInBounds_toArray, List.set_cons_zero, List.set_cons_succ]
  refine wpList_run rfl (.bool false) (by simp [go_sem, e3]) ?_
  simp only [Act.put, List.setIfInBounds_toArray, List.set_cons_zero, List.set_cons_succ]
  refine wpList_run rfl (.bool true) (by simp [go_sem]) ?_
  simp only [Act.put, List.setIfInBounds_toArray, List.set_cons_zero, List.set_cons_succ]
  have kb4 := hideit (block_pv (.slice uo l uc) l f w1 (hu.out.ext (Ext.trans hV.out hE1.out)) (by unfold maxLen; omega))
  go_upto_region 3 with (fail)
  refine wp_region_lit ?_
  refine wpList_run rfl (.pointer (some ⟨c, 2, none⟩)) (by simp [go_sem]) ?_
  simp only [Act.put, List.setIfInBounds_toArray, List.set_cons_zero, List.set_cons_succ]
  refine wpList_run rfl (.slice uo l uc) (by simp [go_sem, e2]) ?_
  simp only [Act.put, List.setIfInBounds_toArray, List.set_cons_zero, List.set_cons_succ]
  refine wpList_call rfl (by simp [go_sem]) ((kb4.out).mono ?_)
  rintro e w4 ⟨v4, rfl, hO4, hX4⟩
  refine ⟨_, rfl, ?_⟩
  simp only [Act.put, List.setIfInBounds_toArray, List.set_cons_zero, List.set_cons_succ]
  obtain ⟨o4, c4, rfl⟩ := b512 hO4
  refine wpList_run rfl (.slice o4 512 c4) (by simp [go_sem]) ?_
  simp only [Act.put, List.setIfInBounds_toArray, List.set_cons_zero, List.set_cons_succ]
  have hA : Hid (RowAt c 5 (opc 2 m (.slice uo l uc) false (.slice qo kk qc)) w4) := hH1.out.carry hX4
  have EA : Hid (Ext W w4) := Ext.trans hE1.out hX4
  have hP : Hid (PV (.slice o4 512 c4) 512 (blkF l f) w4) := hO4.bv.pv
  have hpb : Hid (∀ a, 0 < 512 → o4 = some a → (∀ i, F i → i ≠ a.block) ∧ a.block < w4.heap.size) := fun a _ ea => by
    have hb := hO4.lt a.block (by rw [ea]; rfl)
    exact ⟨fun i hi e => by have := hlF.out i hi; have := hz1.out; omega, hb.2⟩
  have hcA : Hid (c < w4.heap.size) := by show c < w4.heap.size; have := Below.size hX4; have := hz1.out; rw [hc.out]; omega
  have hbl : 512 ≤ 140737488355328 := by decide
  clear hH1 hE1 hz1 e2 e3 kb4 hO4 hX4
  have e0 : w4.cell? ⟨c, 0, none⟩ = some (.int .i64 2) := hA.out.1 0 (by decide)
  go_upto_region 4 with (fail)
  refine wp_region_lit ?_
  refine wpList_run rfl (.pointer (some ⟨c, 0, none⟩)) (by simp [go_sem]) ?_
  simp only [Act.put, List.setIfInBounds_toArray, List.set_cons_zero, List.set_cons_succ]
  refine wpList_run rfl (.int .i64 2) (by simp [go_sem, e0]) ?_
  simp only [Act.put, List.setIfInBounds_toArray, List.set_cons_zero, List.set_cons_succ]
  clear e0
  go_upto_region 5 with (fail)
  refine wp_region_lit ?_
  refine wpList_run rfl (.bool false) (by simp [go_sem]) ?_
  simp only [Act.put, List.setIfInBounds_toArray, List.set_cons_zero, List.set_cons_succ]
  refine wpList_run rfl (.bool false) (by simp [go_sem]) ?_
  simp only [Act.put, List.setIfInBounds_toArray, List.set_cons_zero, List.set_cons_succ]
  go_upto_region 13 with (fail)
  refine wp_region_lit ?_
  refine wpList_run rfl (.bool true) (by simp [go_sem]) ?_
  simp only [Act.put, List.setIfInBounds_toArray, List.set_cons_zero, List.set_cons_succ]
  refine wpList_run rfl (.bool true) (by simp [go_sem]) ?_
  simp only [Act.put, List.setIfInBounds_toArray, List.set_cons_zero, List.set_cons_succ]
  have e1 : w4.cell? ⟨c, 1, none⟩ = some (.int .i64 m) := hA.out.1 1 (by decide)
  have kd := hideit (redD (h.out.d.ext EA.out) m (by omega))
  go_upto_region 14 with (fail)
  refine wp_region_lit ?_
  refine wpList_run rfl (.pointer (some ⟨p, 0, none⟩)) (by simp [go_sem]) ?_
  simp only [Act.put, List.setIfInBounds_toArray, List.set_cons_zero, List.set_cons_succ]
  refine wpList_run rfl (.pointer (some ⟨c, 1, none⟩)) (by simp [go_sem]) ?_
  simp only [Act.put, List.setIfInBounds_toArray, List.set_cons_zero, List.set_cons_succ]
  refine wpList_run rfl (.int .i64 m) (by simp [go_sem, e1]) ?_
  simp only [Act.put, List.setIfInBounds_toArray, List.set_cons_zero, List.set_cons_succ]
  refine wpList_call rfl (by simp [go_sem]) ((kd.out).mono ?_)
  rintro e w7 ⟨v7, rfl, hB7, hX7⟩
  refine ⟨_, rfl, ?_⟩
  simp only [Act.put, List.setIfInBounds_toArray, List.set_cons_zero, List.set_cons_succ]
  obtain ⟨o7, c7, rfl⟩ := hB7.form
  refine wpList_run rfl (.tuple #[.slice o7 (rL s m) c7, .int .i64 (rE s m)]) (by simp [go_sem]) ?_
  simp only [Act.put, List.setIfInBounds_toArray, List.set_cons_zero, List.set_cons_succ]
  refine wpList_run rfl (.slice o7 (rL s m) c7) (by simp [go_sem]) ?_
  simp only [Act.put, List.setIfInBounds_toArray, List.set_cons_zero, List.set_cons_succ]
  refine wpList_run rfl (.int .i64 (rE s m)) (by simp [go_sem]) ?_
  simp only [Act.put, List.setIfInBounds_toArray, List.set_cons_zero, List.set_cons_succ]
  refine wpList_run rfl (.slice o7 (rL s m) c7) (by simp [go_sem]) ?_
  simp only [Act.put, List.setIfInBounds_toArray, List.set_cons_zero, List.set_cons_succ]
  refine wpList_run rfl (.int .i64 (rE s m)) (by simp [go_sem]) ?_
  simp only [Act.put, List.setIfInBounds_toArray, List.set_cons_zero, List.set_cons_succ]
  have E7 := Ext.trans EA.out hX7
  have e1' : w7.cell? ⟨c, 1, none⟩ = some (.int .i64 m) := cell_ext hX7 e1
  have kr := hideit (redR (h.out.r.ext E7) h.out.off m)
  replace hB7 := hideit hB7
  replace E7 := hideit E7
  clear e1 kd hX7
  go_upto_region 15 with (fail)
  refine wp_region_lit ?_
  refine wpList_run rfl (.pointer (some ⟨x, 0, none⟩)) (by simp [go_sem]) ?_
  simp only [Act.put, List.setIfInBounds_toArray, List.set_cons_zero, List.set_cons_succ]
  refine wpList_run rfl (.pointer (some ⟨c, 1, none⟩)) (by simp [go_sem]) ?_
  simp only [Act.put, List.setIfInBounds_toArray, List.set_cons_zero, List.set_cons_succ]
  refine wpList_run rfl (.int .i64 m) (by simp [go_sem, e1']) ?_
  simp only [Act.put, List.setIfInBounds_toArray, List.set_cons_zero, List.set_cons_succ]
  refine wpList_call rfl (by simp [go_sem]) ((kr.out).mono ?_)
  rintro e w8 ⟨v8, rfl, hB8, hX8⟩
  refine ⟨_, rfl, ?_⟩
  simp only [Act.put, List.setIfInBounds_toArray, List.set_cons_zero, List.set_cons_succ]
  obtain ⟨o8, c8, rfl⟩ := hB8.form
  refine wpList_run rfl (.tuple #[.slice o8 (rL s m) c8, .int .i64 (rE s m)]) (by simp [go_sem]) ?_
  simp only [Act.put, List.setIfInBounds_toArray, List.set_cons_zero, List.set_cons_succ]
  refine wpList_run rfl (.slice o8 (rL s m) c8) (by simp [go_sem]) ?_
  simp only [Act.put, List.setIfInBounds_toArray, List.set_cons_zero, List.set_cons_succ]
  refine wpList_run rfl (.int .i64 (rE s m)) (by simp [go_sem]) ?_
  simp only [Act.put, List.setIfInBounds_toArray, List.set_cons_zero, List.set_cons_succ]
  refine wpList_run rfl (.slice o8 (rL s m) c8) (by simp [go_sem]) ?_
  simp only [Act.put, List.setIfInBounds_toArray, List.set_cons_zero, List.set_cons_succ]
  refine wpList_run rfl (.int .i64 (rE s m)) (by simp [go_sem]) ?_
  simp only [Act.put, List.setIfInBounds_toArray, List.set_cons_zero, List.set_cons_succ]
  have E8 := Ext.trans E7.out hX8
  obtain ⟨s1, hs1⟩ : ∃ s1, s1 = bstr (rL s m) (fun t => ((hasF s m.toNat t).toNat : Int)) := ⟨_, rfl⟩
  have ca : (convert 31 9 (.slice o7 (rL s m) c7)).run Try.prog w8 = .ok (.string s1) w8 := by rw [hs1]; exact convV _ _ _ w8 (hB7.out.ext hX8)
  have cb : (convert 31 9 (.slice o8 (rL s m) c8)).run Try.prog w8 = .ok (.string s1) w8 := by rw [hs1]; exact convV _ _ _ w8 hB8
  have q1 := hideit ((h.out.ext E8).mono (Nat.le_succ C))
  have q2 : Hid (Stp F G F G W w8) := Stp.ext E8
  generalize rE s m = re at *
  generalize rL s m = rl at *
  clear hs1 kr e1' hB7 hB8 hX8 E8 E7
  go_upto_region 16 with (fail)
  refine wp_region_lit ?_
  refine wpList_run rfl (.slice o7 rl c7) (by simp [go_sem]) ?_
  simp only [Act.put, List.setIfInBounds_toArray, List.set_cons_zero, List.set_cons_succ]
  refine wpList_run rfl (.string s1) (by simp [go_sem, ca]) ?_
  simp only [Act.put, List.setIfInBounds_toArray, List.set_cons_zero, List.set_cons_succ]
  refine wpList_run rfl (.slice o8 rl c8) (by simp [go_sem]) ?_
  simp only [Act.put, List.setIfInBounds_toArray, List.set_cons_zero, List.set_cons_succ]
  refine wpList_run rfl (.string s1) (by simp [go_sem, cb]) ?_
  simp only [Act.put, List.setIfInBounds_toArray, List.set_cons_zero, List.set_cons_succ]
  refine wpList_run rfl (.bool true) (by simp [go_sem]) ?_
  simp only [Act.put, List.setIfInBounds_toArray, List.set_cons_zero, List.set_cons_succ]
  refine wpList_run rfl (.bool true) (by simp [go_sem]) ?_
  simp only [Act.put, List.setIfInBounds_toArray, List.set_cons_zero, List.set_cons_succ]
  refine wpList_runW rfl (.int .i64 re) (by simp [go_sem]) ?_
  simp only [Act.put, List.setIfInBounds_toArray, List.set_cons_zero, List.set_cons_succ]
  refine wpList_runW rfl (.int .i64 re) (by simp [go_sem]) ?_
  simp only [Act.put, List.setIfInBounds_toArray, List.set_cons_zero, List.set_cons_succ]
  refine wpList_runW rfl (.bool true) (by simp [go_sem]) ?_
  simp only [Act.put, List.setIfInBounds_toArray, List.set_cons_zero, List.set_cons_succ]
  refine wpList_run rfl (.bool true) (by simp [go_sem]) ?_
  simp only [Act.put, List.setIfInBounds_toArray, List.set_cons_zero, List.set_cons_succ]
  refine wpList_run rfl (.bool true) (by simp [go_sem]) ?_
  simp only [Act.put, List.setIfInBounds_toArray, List.set_cons_zero, List.set_cons_succ]
  clear ca cb
  go_wp2
  go_ret
  exact ⟨rfl, _, _, _, _, _, _, _, rfl, q1.out, q2.out⟩
set_option maxRecDepth 20000 in
set_option maxHeartbeats 8000000 in
theorem does_3_b {F G : Nat → Prop} {p x : Nat} {s : DSt} {C : Nat} {M : DM} {stp : Bool} {cl : Int} {R : RM} {W : World} (h : Tw F G p x s C M stp cl R W) (V : World) (hV : Ext V W) (hFV : ∀ i, F i → V.heap.size ≤ i) (hGV : ∀ i, G i → V.heap.size ≤ i) (m : Int) (hm : okI m) (uo : Option Addr) (l uc : Nat) (f : Nat → BitVec 8) (hu : PV (.slice uo l uc) l f V) (hl : l ≤ 140737488355328) (qo : Option Addr) (kk qc : Nat) (kb kw : Nat → Int) (hq : KP (.slice qo kk qc) kk kb kw V) (hkk : kk * 16 ≤ 140737488355328) (hok : ∀ i, i < kk → okI (kb i) ∧ okI (kw i)) (hC : C ≤ 4398046511000) : Calls Try.prog 14 #[.pointer (some ⟨p, 0, none⟩), .pointer (some ⟨x, 0, none⟩), .agg #[.int .i64 3, .int .i64 m, .slice uo l uc, .bool true, .slice qo kk qc]] W (DoP F G p x s C W) := by
  have hH1 := opRow W 3 m (.slice uo l uc) true (.slice qo kk qc)
  have hE1 : Ext W (W.alloc (.cells #[.int .i64 3, .int .i64 m, .slice uo l uc, .bool true, .slice qo kk qc] 34)) := (Below.refl _ _).alloc (Nat.le_refl _) _
  have hz1 : (W.alloc (.cells #[.int .i64 3, .int .i64 m, .slice uo l uc, .bool true, .slice qo kk qc] 34)).heap.size = W.heap.size + 1 := by simp
  have hlF : Hid (∀ i, F i → i < W.heap.size) := h.d.lt
  have hlG : Hid (∀ i, G i → i < W.heap.size) := h.r.lt
  have hun := And.intro hkk hC
  clear hun
  replace h := hideit h
  replace hu := hideit hu
  replace hq := hideit hq
  replace hok := hideit hok
  replace hFV := hideit hFV
  replace hGV := hideit hGV
  replace hV := hideit hV
  replace hm := hideit hm
  go_enter Try.func14, Try.ntmps14
  go_upto_region 0 with (fail)
  refine wp_region_lit ?_
  refine wpList_to rfl (.pointer (some ⟨W.heap.size, 0, none⟩)) (W.alloc (.cells #[.int .i64 3, .int .i64 m, .slice uo l uc, .bool true, .slice qo kk qc] 34)) (by simp [go_sem]) ?_
  simp only [Act.put, List.setIfInBounds_toArray, List.set_cons_zero, List.set_cons_succ]
  refine wpList_run rfl (.bool false) (by simp [go_sem]) ?_
  simp only [Act.put, List.setIfInBounds_toArray, List.set_cons_zero, List.set_cons_succ]
  generalize W.alloc (.cells #[.int .i64 3, .int .i64 m, .slice uo l uc, .bool true, .slice qo kk qc] 34) = w1 at *
  obtain ⟨c, hc⟩ : ∃ c, c = W.heap.size := ⟨_, rfl⟩
  rw [← hc] at hH1 ⊢
  replace hc := hideit hc
  replace hE1 := hideit hE1
  replace hz1 := hideit hz1
  have e2 : w1.cell? ⟨c, 2, none⟩ = some (.slice uo l uc) := hH1.1 2 (by decide)
  have e3 : w1.cell? ⟨c, 3, none⟩ = some (.bool true) := hH1.1 3 (by decide)
  replace hH1 := hideit hH1
  go_upto_region 1 with (fail)
  refine wp_region_lit ?_
  refine wpList_run rfl (.pointer (some ⟨c, 2, none⟩)) (by simp [go_sem]) ?_
  simp only [Act.put, List.setIfInBounds_toArray, List.set_cons_zero, List.set_cons_succ]
  refine wpList_run rfl (.slice uo l uc) (by simp [go_sem, e2]) ?_
  simp only [Act.put, List.setIfInBounds_toArray, List.set_cons_zero, List.set_cons_succ]
  refine wpList_run rfl (.slice uo l uc) (by simp [go_sem]) ?_
  simp only [Act.put, List.setIfInBounds_toArray, List.set_cons_zero, List.set_cons_succ]
  go_upto_region 2 with (fail)
  refine wp_region_lit ?_
  refine wpList_run rfl (.pointer (some ⟨c, 3, none⟩)) (by simp [go_sem]) ?_
  simp only [Act.put, List.setIfInBounds_toArray, List.set_cons_zero, List.set_cons_succ]
  refine wpList_run rfl (.bool true) (by simp [go_sem, e3]) ?_
  simp only [Act.put, List.setIfInBounds_toArray, List.set_cons_zero, List.set_cons_succ]
  refine wpList_run rfl (.bool false) (by simp [go_sem]) ?_
  simp only [Act.put, List.setIfInBounds_toArray, List.set_cons_zero, List.set_cons_succ]
  have hA : Hid (RowAt c 5 (opc 3 m (.slice uo l uc) true (.slice qo kk qc)) w1) := hH1.out
  have EA : Hid (Ext W w1) := hE1.out
  have hP : Hid (PV (.slice uo l uc) l f w1) := hu.out.ext (Ext.trans hV.out hE1.out)
  have hpb : Hid (∀ a, 0 < l → uo = some a → (∀ i, F i → i ≠ a.block) ∧ a.block < w1.heap.size) := fun a h0 ea => ⟨fun i hi e => by have := hu.out.lt a h0 ea; have := hFV.out i hi; omega, Nat.lt_of_lt_of_le (hu.out.lt a h0 ea) (Below.size (Ext.trans hV.out hE1.out))⟩
  have hcA : Hid (c < w1.heap.size) := by show c < w1.heap.size; rw [hz1.out, hc.out]; omega
  have hbl : l ≤ 140737488355328 := hl
  clear hH1 hE1 hz1 e2 e3
  have e0 : w1.cell? ⟨c, 0, none⟩ = some (.int .i64 3) := hA.out.1 0 (by decide)
  go_upto_region 4 with (fail)
  refine wp_region_lit ?_
  refine wpList_run rfl (.pointer (some ⟨c, 0, none⟩)) (by simp [go_sem]) ?_
  simp only [Act.put, List.setIfInBounds_toArray, List.set_cons_zero, List.set_cons_succ]
  refine wpList_run rfl (.int .i64 3) (by simp [go_sem, e0]) ?_
  simp only [Act.put, List.setIfInBounds_toArray, List.set_cons_zero, List.set_cons_succ]
  clear e0
  go_upto_region 5 with (fail)
  refine wp_region_lit ?_
  refine wpList_run rfl (.bool false) (by simp [go_sem]) ?_
  simp only [Act.put, List.setIfInBounds_toArray, List.set_cons_zero, List.set_cons_succ]
  refine wpList_run rfl (.bool false) (by simp [go_sem]) ?_
  simp only [Act.put, List.setIfInBounds_toArray, List.set_cons_zero, List.set_cons_succ]
  go_upto_region 13 with (fail)
  refine wp_region_lit ?_
  refine wpList_run rfl (.bool false) (by simp [go_sem]) ?_
  simp only [Act.put, List.setIfInBounds_toArray, List.set_cons_zero, List.set_cons_succ]
  refine wpList_run rfl (.bool false) (by simp [go_sem]) ?_
  simp only [Act.put, List.setIfInBounds_toArray, List.set_cons_zero, List.set_cons_succ]
  go_upto_region 17 with (fail)
  refine wp_region_lit ?_
  refine wpList_run rfl (.bool true) (by simp [go_sem]) ?_
  simp only [Act.put, List.setIfInBounds_toArray, List.set_cons_zero, List.set_cons_succ]
  refine wpList_run rfl (.bool true) (by simp [go_sem]) ?_
  simp only [Act.put, List.setIfInBounds_toArray, List.set_cons_zero, List.set_cons_succ]
  have kd := hideit (fluD (h.out.d.ext EA.out) (by omega))
  go_upto_region 18 with (fail)
  refine wp_region_lit ?_
  refine wpList_run rfl (.pointer (some ⟨p, 0, none⟩)) (by simp [go_sem]) ?_
  simp only [Act.put, List.setIfInBounds_toArray, List.set_cons_zero, List.set_cons_succ]
  refine wpList_call rfl (by simp [go_sem]) ((kd.out).mono ?_)
  rintro e w7 ⟨rfl, M7, hd7, hk7⟩
  refine ⟨_, rfl, ?_⟩
  simp only [Act.put, List.setIfInBounds_toArray, List.set_cons_zero, List.set_cons_succ]
  refine wpList_run rfl (.pointer (some ⟨x, 0, none⟩)) (by simp [go_sem]) ?_
  simp only [Act.put, List.setIfInBounds_toArray, List.set_cons_zero, List.set_cons_succ]
  have hK7 : Keeps F W w7 := (Keeps.of_ext EA.out).trans (F' := F) hk7 fun i hi => .inl hi
  have hr := h.out.r.keep hK7 fun i hi hf => h.out.ap i hf hi
  have kr := hideit (fluR hr h.out.off (fun h0 => h.out.pos h0))
  refine wpList_call rfl (by simp [go_sem]) ((kr.out).mono ?_)
  rintro e w8 ⟨rfl, R8, hbb, hr8, hk8⟩
  refine ⟨_, rfl, ?_⟩
  simp only [Act.put, List.setIfInBounds_toArray, List.set_cons_zero, List.set_cons_succ]
  refine wpList_run rfl (.bool true) (by simp [go_sem]) ?_
  simp only [Act.put, List.setIfInBounds_toArray, List.set_cons_zero, List.set_cons_succ]
  refine wpList_run rfl (.bool true) (by simp [go_sem]) ?_
  simp only [Act.put, List.setIfInBounds_toArray, List.set_cons_zero, List.set_cons_succ]
  obtain ⟨q1, q2⟩ := h.out.step (Ext.refl _) hd7 hK7 (Ext.refl _) (fun i hi => .inl hi) hr8 hk8 (fun i hi => .inl hi) (fl_on h.out) (fl_no h.out)
  have hN : Hid ((fS s).N = s.N) := by show (fS s).N = s.N; unfold fS; split <;> rfl
  replace q1 := hideit (q1.mono (Nat.le_succ C))
  replace q2 := hideit q2
  clear kd kr hd7 hk7 hK7 hr hr8 hk8 hbb
  go_wp2
  go_ret
  exact ⟨rfl, _, _, _, _, _, _, _, hN.out, q1.out, q2.out⟩
set_option maxRecDepth 20000 in
set_option maxHeartbeats 8000000 in
theorem does_3_g {F G : Nat → Prop} {p x : Nat} {s : DSt} {C : Nat} {M : DM} {stp : Bool} {cl : Int} {R : RM} {W : World} (h : Tw F G p x s C M stp cl R W) (V : World) (hV : Ext V W) (hFV : ∀ i, F i → V.heap.size ≤ i) (hGV : ∀ i, G i → V.heap.size ≤ i) (m : Int) (hm : okI m) (uo : Option Addr) (l uc : Nat) (f : Nat → BitVec 8) (hu : PV (.slice uo l uc) l f V) (hl : l ≤ 140737488355328) (qo : Option Addr) (kk qc : Nat) (kb kw : Nat → Int) (hq : KP (.slice qo kk qc) kk kb kw V) (hkk : kk * 16 ≤ 140737488355328) (hok : ∀ i, i < kk → okI (kb i) ∧ okI (kw i)) (hC : C ≤ 4398046511000) : Calls Try.prog 14 #[.pointer (some ⟨p, 0, none⟩), .pointer (some ⟨x, 0, none⟩), .agg #[.int .i64 3, .int .i64 m, .slice uo l uc, .bool false, .slice qo kk qc]] W (DoP F G p x s C W) := by
  have hH1 := opRow W 3 m (.slice uo l uc) false (.slice qo kk qc)
  have hE1 : Ext W (W.alloc (.cells #[.int .i64 3, .int .i64 m, .slice uo l uc, .bool false, .slice qo kk qc] 34)) := (Below.refl _ _).alloc (Nat.le_refl _) _
  have hz1 : (W.alloc (.cells #[.int .i64 3, .int .i64 m, .slice uo l uc, .bool false, .slice qo kk qc] 34)).heap.size = W.heap.size + 1 := by simp
  have hlF : Hid (∀ i, F i → i < W.heap.size) := h.d.lt
  have hlG : Hid (∀ i, G i → i < W.heap.size) := h.r.lt
  have hun := And.intro hkk hC
  clear hun
  replace h := hideit h
  replace hu := hideit hu
  replace hq := hideit hq
  replace hok := hideit hok
  replace hFV := hideit hFV
  replace hGV := hideit hGV
  replace hV := hideit hV
  replace hm := hideit hm
  go_enter Try.func14, Try.ntmps14
  go_upto_region 0 with (fail)
  refine wp_region_lit ?_
  refine wpList_to rfl (.pointer (some ⟨W.heap.size, 0, none⟩)) (W.alloc (.cells #[.int .i64 3, .int .i64 m, .slice uo l uc, .bool false, .slice qo kk qc] 34)) (by simp [go_sem]) ?_
  simp only [Act.put, List.setIfInBounds_toArray, List.set_cons_zero, List.set_cons_succ]
  refine wpList_run rfl (.bool false) (by simp [go_sem]) ?_
  simp only [Act.put, List.setIfInBounds_toArray, List.set_cons_zero, List.set_cons_succ]
  generalize W.alloc (.cells #[.int .i64 3, .int .i64 m, .slice uo l uc, .bool false, .slice qo kk qc] 34) = w1 at *
  obtain ⟨c, hc⟩ : ∃ c, c = W.heap.size := ⟨_, rfl⟩
  rw [← hc] at hH1 ⊢
  replace hc := hideit hc
  replace hE1 := hideit hE1
  replace hz1 := hideit hz1
  have e2 : w1.cell? ⟨c, 2, none⟩ = some (.slice uo l uc) := hH1.1 2 (by decide)
  have e3 : w1.cell? ⟨c, 3, none⟩ = some (.bool false) := hH1.1 3 (by decide)
  replace hH1 := hideit hH1
  go_upto_region 1 with (fail)
  refine wp_region_lit ?_
  refine wpList_run rfl (.pointer (some ⟨c, 2, none⟩)) (by simp [go_sem]) ?_
  simp only [Act.put, List.setIfInBounds_toArray, List.set_cons_zero, List.set_cons_succ]
  refine wpList_run rfl (.slice uo l uc) (by simp [go_sem, e2]) ?_
  simp only [Act.put, List.setIfInBounds_toArray, List.set_cons_zero, List.set_cons_succ]
  refine wpList_run rfl (.slice uo l uc) (by simp [go_sem]) ?_
  simp only [Act.put, List.setIfInBounds_toArray, List.set_cons_zero, List.set_cons_succ]
  go_upto_region 2 with (fail)
  refine wp_region_lit ?_
  refine wpList_run rfl (.pointer (some ⟨c, 3, none⟩)) (by simp [go_sem]) ?_
  simp only [Act.put, List.setIfInBounds_toArray, List.set_cons_zero, List.set_cons_succ]
  refine wpList_run rfl (.bool false) (by simp [go_sem, e3]) ?_
  simp only [Act.put, List.setIfInBounds_toArray, List.set_cons_zero, List.set_cons_succ]
  refine wpList_run rfl (.bool true) (by simp [go_sem]) ?_
  simp only [Act.put, List.setIfInBounds_toArray, List.set_cons_zero, List.set_cons_succ]
  have kb4 := hideit (block_pv (.slice uo l uc) l f w1 (hu.out.ext (Ext.trans hV.out hE1.out)) (by unfold maxLen; omega))
  go_upto_region 3 with (fail)
  refine wp_region_lit ?_
  refine wpList_run rfl (.pointer (some ⟨c, 2, none⟩)) (by simp [go_sem]) ?_
  simp only [Act.put, List.setIfInBounds_toArray, List.set_cons_zero, List.set_cons_succ]
  refine wpList_run rfl (.slice uo l uc) (by simp [go_sem, e2]) ?_
  simp only [Act.put, List.setIfInBounds_toArray, List.set_cons_zero, List.set_cons_succ]
  refine wpList_call rfl (by simp [go_sem]) ((kb4.out).mono ?_)
  rintro e w4 ⟨v4, rfl, hO4, hX4⟩
  refine ⟨_, rfl, ?_⟩
  simp only [Act.put, List.setIfInBounds_toArray, List.set_cons_zero, List.set_cons_succ]
  obtain ⟨o4, c4, rfl⟩ := b512 hO4
  refine wpList_run rfl (.slice o4 512 c4) (by simp [go_sem]) ?_
  simp only [Act.put, List.setIfInBounds_toArray, List.set_cons_zero, List.set_cons_succ]
  have hA : Hid (RowAt c 5 (opc 3 m (.slice uo l uc) false (.slice qo kk qc)) w4) := hH1.out.carry hX4
  have EA : Hid (Ext W w4) := Ext.trans hE1.out hX4
  have hP : Hid (PV (.slice o4 512 c4) 512 (blkF l f) w4) := hO4.bv.pv
  have hpb : Hid (∀ a, 0 < 512 → o4 = some a → (∀ i, F i → i ≠ a.block) ∧ a.block < w4.heap.size) := fun a _ ea => by
    have hb := hO4.lt a.block (by rw [ea]; rfl)
    exact ⟨fun i hi e => by have := hlF.out i hi; have := hz1.out; omega, hb.2⟩
  have hcA : Hid (c < w4.heap.size) := by show c < w4.heap.size; have := Below.size hX4; have := hz1.out; rw [hc.out]; omega
  have hbl : 512 ≤ 140737488355328 := by decide
  clear hH1 hE1 hz1 e2 e3 kb4 hO4 hX4
  have e0 : w4.cell? ⟨c, 0, none⟩ = some (.int .i64 3) := hA.out.1 0 (by decide)
  go_upto_region 4 with (fail)
  refine wp_region_lit ?_
  refine wpList_run rfl (.pointer (some ⟨c, 0, none⟩)) (by simp [go_sem]) ?_
  simp only [Act.put, List.setIfInBounds_toArray, List.set_cons_zero, List.set_cons_succ]
  refine wpList_run rfl (.int .i64 3) (by simp [go_sem, e0]) ?_
  simp only [Act.put, List.setIfInBounds_toArray, List.set_cons_zero, List.set_cons_succ]
  clear e0
  go_upto_region 5 with (fail)
  refine wp_region_lit ?_
  refine wpList_run rfl (.bool false) (by simp [go_sem]) ?_
  simp only [Act.put, List.setIfInBounds_toArray, List.set_cons_zero, List.set_cons_succ]
  refine wpList_run rfl (.bool false) (by simp [go_sem]) ?_
  simp only [Act.put, List.setIfInBounds_toArray, List.set_cons_zero, List.set_cons_succ]
  go_upto_region 13 with (fail)
  refine wp_region_lit ?_
  refine wpList_run rfl (.bool false) (by simp [go_sem]) ?_
  simp only [Act.put, List.setIfInBounds_toArray, List.set_cons_zero, List.set_cons_succ]
  refine wpList_run rfl (.bool false) (by simp [go_sem]) ?_
  simp only [Act.put, List.setIfInBounds_toArray, List.set_cons_zero, List.set_cons_succ]
  go_upto_region 17 with (fail)
  refine wp_region_lit ?_
  refine wpList_run rfl (.bool true) (by simp [go_sem]) ?_
  simp only [Act.put, List.setIfInBounds_toArray, List.set_cons_zero, List.set_cons_succ]
  refine wpList_run rfl (.bool true) (by simp [go_sem]) ?_
  simp only [Act.put, List.setIfInBounds_toArray, List.set_cons_zero, List.set_cons_succ]
  have kd := hideit (fluD (h.out.d.ext EA.out) (by omega))
  go_upto_region 18 with (fail)
  refine wp_region_lit ?_
  refine wpList_run rfl (.pointer (some ⟨p, 0, none⟩)) (by simp [go_sem]) ?_
  simp only [Act.put, List.setIfInBounds_toArray, List.set_cons_zero, List.set_cons_succ]
  refine wpList_call rfl (by simp [go_sem]) ((kd.out).mono ?_)
  rintro e w7 ⟨rfl, M7, hd7, hk7⟩
  refine ⟨_, rfl, ?_⟩
  simp only [Act.put, List.setIfInBounds_toArray, List.set_cons_zero, List.set_cons_succ]
  refine wpList_run rfl (.pointer (some ⟨x, 0, none⟩)) (by simp [go_sem]) ?_
  simp only [Act.put, List.setIfInBounds_toArray, List.set_cons_zero, List.set_cons_succ]
  have hK7 : Keeps F W w7 := (Keeps.of_ext EA.out).trans (F' := F) hk7 fun i hi => .inl hi
  have hr := h.out.r.keep hK7 fun i hi hf => h.out.ap i hf hi
  have kr := hideit (fluR hr h.out.off (fun h0 => h.out.pos h0))
  refine wpList_call rfl (by simp [go_sem]) ((kr.out).mono ?_)
  rintro e w8 ⟨rfl, R8, hbb, hr8, hk8⟩
  refine ⟨_, rfl, ?_⟩
  simp only [Act.put, List.setIfInBounds_toArray, List.set_cons_zero, List.set_cons_succ]
  refine wpList_run rfl (.bool true) (by simp [go_sem]) ?_
  simp only [Act.put, List.setIfInBounds_toArray, List.set_cons_zero, List.set_cons_succ]
  refine wpList_run rfl (.bool true) (by simp [go_sem]) ?_
  simp only [Act.put, List.setIfInBounds_toArray, List.set_cons_zero, List.set_cons_succ]
  obtain ⟨q1, q2⟩ := h.out.step (Ext.refl _) hd7 hK7 (Ext.refl _) (fun i hi => .inl hi) hr8 hk8 (fun i hi => .inl hi) (fl_on h.out) (fl_no h.out)
  have hN : Hid ((fS s).N = s.N) := by show (fS s).N = s.N; unfold fS; split <;> rfl
  replace q1 := hideit (q1.mono (Nat.le_succ C))
  replace q2 := hideit q2
  clear kd kr hd7 hk7 hK7 hr hr8 hk8 hbb
  go_wp2
  go_ret
  exact ⟨rfl, _, _, _, _, _, _, _, hN.out, q1.out, q2.out⟩
end Go.Proofs.Ytfaeieaelfjlpaa
