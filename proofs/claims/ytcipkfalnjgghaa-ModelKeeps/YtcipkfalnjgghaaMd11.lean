/-
  New.
-/
import Derived.Test.YtcipkfalnjgghaaMd10
namespace Go.Proofs.Ytcipkfalnjgghaa
open Go.RowKit Go.BigFrame Go.Maps
set_option linter.unusedVariables false
theorem notB_new (w : World) (C : Array Value) (t : TypeId) (ht : t ≠ 5) : ¬ IsB w.heap.size (w.alloc (.cells C t)) := by
  rintro ⟨cur, fz, h⟩
  have h2 : (w.alloc (.cells C t)).heap[w.heap.size]? = some (.cells C t (0, 0)) := by
    show (w.heap.push _)[w.heap.size]? = _
    simp
  rw [h2] at h
  injection h with h
  injection h with _ h _
  exact ht h
theorem buildM (h : Hd) (sb pb : Nat) (w : World) : (Instr.build 68 #[(0, .agg (row 24 (hdv h)).toArray), (1, .map (some sb)), (2, .map (some pb)), (3, .int .i64 1)]).run Try.prog w = .ok (.agg (row 64 (mdV h sb pb 1 rt0 false 0)).toArray) w := by kernel_rfl
/-- a new model -/
def newS (h : Hd) (l : Nat) (f : Nat → BitVec 8) : MSt := ⟨h, fun _ => none, fun x => if x = 0 then some (l, f) else none, 1, rt0, false, 0⟩
def NewQ (h : Hd) (l : Nat) (f : Nat → BitVec 8) (w : World) (e : Ending) (w' : World) : Prop := ∃ (F : Nat → Prop) (p : Nat) (M : MLoc), e = .returned (.tuple #[.pointer (some ⟨p, 0, none⟩), .int .i64 0]) ∧ MdM F p (newS h l f) 1 M w' ∧ (∀ i, F i → w.heap.size ≤ i) ∧ Ext w w'
theorem wpList_st9 {P : Program} {w : World} {ops : Array Oper} {rest : List Oper} {o : Oper} {a : Act} {Q : Exit → Act → World → Prop} (hg : o.guard = none) (w' : World) (hr : (execOp a.eval o).run P w = .ok .skip w') (h : wpList P ops Q rest (a.put o.dst undef) w') : wpList P ops Q (o :: rest) a w := xst hg w' hr h
theorem exec_mins {P : Program} {o : Oper} {a : Act} {w w' : World} {t : TypeId} {m k v : Value} (x y z : Operand) (ho : o.op = .insert t x y z) (hx : a.eval x = m) (hy : a.eval y = k) (hz : a.eval z = v)
    (hr : (Instr.mapUpdate t m k v).run P w = .ok () w') : (execOp a.eval o).run P w = .ok .skip w' := by
  generalize a.eval = ρ at hx hy hz ⊢
  simp [execOp, ho, hx, hy, hz, hr, Result.andThen]
set_option maxRecDepth 20000 in
set_option maxHeartbeats 4000000 in
theorem new_head (h : Hd) (o : Option Addr) (l k : Nat) (w : World) (hk : ¬ okH h) : Calls Try.prog 19 #[.agg (row 24 (hdv h)).toArray, .slice o l k] w fun e w' => e = .returned (.tuple #[.pointer none, .int .i64 1]) ∧ Ext w w' := by
  replace hk := hideit hk
  have hE := hideit (Ext.refl w)
  go_enter Try.func19, Try.ntmps19
  go_upto_region 0 with (fail)
  refine wp_region_lit ?_
  have A0 := hideit (RowAt.new w 24 (hdv h) 37)
  have XB : Ext w (w.alloc (.cells (row 24 (hdv h)).toArray 37)) := (Below.refl _ _).alloc (Nat.le_refl _) _
  have AE := hideit (Ext.trans hE.out (XB))
  have AB := hideit (hE.out.size)
  clear XB
  refine wpList_to rfl (.pointer (some ⟨w.heap.size, 0, none⟩)) (w.alloc (.cells (row 24 (hdv h)).toArray 37)) (by simp [go_sem]) ?_
  simp only [Act.put, List.setIfInBounds_toArray, List.set_cons_zero, List.set_cons_succ]
  generalize w.alloc (.cells (row 24 (hdv h)).toArray 37) = x2 at A0 AE ⊢
  obtain ⟨z1, ez1⟩ : ∃ b, b = w.heap.size := ⟨_, rfl⟩
  have ABz1 : Hid (w.heap.size ≤ z1) := by rw [ez1]; exact AB.out
  clear AB
  rw [← ez1] at A0  ⊢
  clear ez1
  have Hz1 := A0
  clear A0
  replace hE := AE
  clear AE
  refine xm [some (.pointer none), some (.int .i64 0)] (by kernel_rfl) (by simp [xr, go_sem]) ?_
  simp only [xw, p0, p1, p2, p3]
  go_upto_region 1 with (fail)
  refine wp_region_lit ?_
  refine wpList_run rfl (.agg (row 24 (hdv h)).toArray) (xload 37 (.tmp 2) rfl z1 0 24 _ rfl Hz1.out.range Try.underlying37 rfl infoH) ?_
  simp only [Act.put, List.setIfInBounds_toArray, List.set_cons_zero, List.set_cons_succ]
  refine wpList_call rfl (by simp [go_sem]) ((check_no h x2 hk.out).mono ?_)
  rintro e y3 ⟨rfl, hX4⟩
  refine ⟨_, rfl, ?_⟩
  simp only [Act.put, List.setIfInBounds_toArray, List.set_cons_zero, List.set_cons_succ]
  replace Hz1 := hideit (Hz1.out.carry hX4)
  replace hE := hideit (Ext.trans hE.out (hX4))

  clear hX4
  refine xm [some (.bool true), some (.bool true), none, none, some (.bool true)] (by kernel_rfl) (by simp [xr, go_sem]) ?_
  simp only [xw, p0, p1, p2, p3]
  go_upto_region 2 with (fail)
  refine wp_region_lit ?_
  refine xm [some (.pointer none), some (.int .i64 1)] (by kernel_rfl) (by simp [xr, go_sem]) ?_
  simp only [xw, p0, p1, p2, p3]
  go_wp2
  refine bodyPost_ret (res2 rfl _ _ _) rfl ?_
  exact ⟨rfl, hE.out⟩
set_option maxRecDepth 20000 in
set_option maxHeartbeats 4000000 in
theorem new_long (h : Hd) (o : Option Addr) (l k : Nat) (w : World) (hk : okH h) (hl : (512 : Int) < (l : Int)) : Calls Try.prog 19 #[.agg (row 24 (hdv h)).toArray, .slice o l k] w fun e w' => e = .returned (.tuple #[.pointer none, .int .i64 1]) ∧ Ext w w' := by
  replace hk := hideit hk
  replace hl := hideit hl
  have hE := hideit (Ext.refl w)
  go_enter Try.func19, Try.ntmps19
  go_upto_region 0 with (fail)
  refine wp_region_lit ?_
  have A0 := hideit (RowAt.new w 24 (hdv h) 37)
  have XB : Ext w (w.alloc (.cells (row 24 (hdv h)).toArray 37)) := (Below.refl _ _).alloc (Nat.le_refl _) _
  have AE := hideit (Ext.trans hE.out (XB))
  have AB := hideit (hE.out.size)
  clear XB
  refine wpList_to rfl (.pointer (some ⟨w.heap.size, 0, none⟩)) (w.alloc (.cells (row 24 (hdv h)).toArray 37)) (by simp [go_sem]) ?_
  simp only [Act.put, List.setIfInBounds_toArray, List.set_cons_zero, List.set_cons_succ]
  generalize w.alloc (.cells (row 24 (hdv h)).toArray 37) = x2 at A0 AE ⊢
  obtain ⟨z1, ez1⟩ : ∃ b, b = w.heap.size := ⟨_, rfl⟩
  have ABz1 : Hid (w.heap.size ≤ z1) := by rw [ez1]; exact AB.out
  clear AB
  rw [← ez1] at A0  ⊢
  clear ez1
  have Hz1 := A0
  clear A0
  replace hE := AE
  clear AE
  refine xm [some (.pointer none), some (.int .i64 0)] (by kernel_rfl) (by simp [xr, go_sem]) ?_
  simp only [xw, p0, p1, p2, p3]
  go_upto_region 1 with (fail)
  refine wp_region_lit ?_
  refine wpList_run rfl (.agg (row 24 (hdv h)).toArray) (xload 37 (.tmp 2) rfl z1 0 24 _ rfl Hz1.out.range Try.underlying37 rfl infoH) ?_
  simp only [Act.put, List.setIfInBounds_toArray, List.set_cons_zero, List.set_cons_succ]
  refine wpList_call rfl (by simp [go_sem]) ((check_ok h x2 hk.out).mono ?_)
  rintro e y3 ⟨rfl, hX4⟩
  refine ⟨_, rfl, ?_⟩
  simp only [Act.put, List.setIfInBounds_toArray, List.set_cons_zero, List.set_cons_succ]
  replace Hz1 := hideit (Hz1.out.carry hX4)
  replace hE := hideit (Ext.trans hE.out (hX4))

  clear hX4
  refine xm [some (.bool false), some (.bool false), some (.slice o l k)] (by kernel_rfl) (by simp [xr, go_sem]) ?_
  simp only [xw, p0, p1, p2, p3]
  refine wpList_callW rfl (by simp [go_sem]) (((long_any o l k y3).mono (by rw [decide_eq_true hl.out]; exact fun _ _ h => h)).mono ?_)
  rintro e yy ⟨rfl, hyy⟩
  refine ⟨_, rfl, ?_⟩
  simp only [Act.put, List.setIfInBounds_toArray, List.set_cons_zero, List.set_cons_succ]
  replace hyy := hyy.symm
  subst hyy
  refine xm [some (.bool true)] (by kernel_rfl) (by simp [xr, go_sem]) ?_
  simp only [xw, p0, p1, p2, p3]
  go_upto_region 2 with (fail)
  refine wp_region_lit ?_
  refine xm [some (.pointer none), some (.int .i64 1)] (by kernel_rfl) (by simp [xr, go_sem]) ?_
  simp only [xw, p0, p1, p2, p3]
  go_wp2
  refine bodyPost_ret (res2 rfl _ _ _) rfl ?_
  exact ⟨rfl, hE.out⟩
set_option maxRecDepth 20000 in
set_option maxHeartbeats 4000000 in
theorem new_ok (h : Hd) (o : Option Addr) (l k : Nat) (w : World) (f : Nat → BitVec 8) (hV : BV (.slice o l k) l f w) (hk : okH h) (hl : ¬ (512 : Int) < (l : Int)) : Calls Try.prog 19 #[.agg (row 24 (hdv h)).toArray, .slice o l k] w fun e w' => NewQ h l f w e w' := by
  replace hk := hideit hk
  replace hl := hideit hl
  replace hV := hideit hV
  have hE := hideit (Ext.refl w)
  go_enter Try.func19, Try.ntmps19
  go_upto_region 0 with (fail)
  refine wp_region_lit ?_
  have A0 := hideit (RowAt.new w 24 (hdv h) 37)
  have XB : Ext w (w.alloc (.cells (row 24 (hdv h)).toArray 37)) := (Below.refl _ _).alloc (Nat.le_refl _) _
  have L0 := hideit (hV.out.ext XB)
  have AE := hideit (Ext.trans hE.out (XB))
  have AB := hideit (hE.out.size)
  clear XB
  refine wpList_to rfl (.pointer (some ⟨w.heap.size, 0, none⟩)) (w.alloc (.cells (row 24 (hdv h)).toArray 37)) (by simp [go_sem]) ?_
  simp only [Act.put, List.setIfInBounds_toArray, List.set_cons_zero, List.set_cons_succ]
  generalize w.alloc (.cells (row 24 (hdv h)).toArray 37) = x2 at A0 L0 AE ⊢
  obtain ⟨z1, ez1⟩ : ∃ b, b = w.heap.size := ⟨_, rfl⟩
  have ABz1 : Hid (w.heap.size ≤ z1) := by rw [ez1]; exact AB.out
  clear AB
  rw [← ez1] at A0  ⊢
  clear ez1
  have Hz1 := A0
  clear A0
  replace hV := L0
  clear L0
  replace hE := AE
  clear AE
  refine xm [some (.pointer none), some (.int .i64 0)] (by kernel_rfl) (by simp [xr, go_sem]) ?_
  simp only [xw, p0, p1, p2, p3]
  go_upto_region 1 with (fail)
  refine wp_region_lit ?_
  refine wpList_run rfl (.agg (row 24 (hdv h)).toArray) (xload 37 (.tmp 2) rfl z1 0 24 _ rfl Hz1.out.range Try.underlying37 rfl infoH) ?_
  simp only [Act.put, List.setIfInBounds_toArray, List.set_cons_zero, List.set_cons_succ]
  refine wpList_call rfl (by simp [go_sem]) ((check_ok h x2 hk.out).mono ?_)
  rintro e y3 ⟨rfl, hX4⟩
  refine ⟨_, rfl, ?_⟩
  simp only [Act.put, List.setIfInBounds_toArray, List.set_cons_zero, List.set_cons_succ]
  replace Hz1 := hideit (Hz1.out.carry hX4)
  replace hV := hideit (hV.out.ext hX4)
  replace hE := hideit (Ext.trans hE.out (hX4))

  clear hX4
  refine xm [some (.bool false), some (.bool false), some (.slice o l k)] (by kernel_rfl) (by simp [xr, go_sem]) ?_
  simp only [xw, p0, p1, p2, p3]
  refine wpList_callW rfl (by simp [go_sem]) (((long_any o l k y3).mono (by rw [decide_eq_false hl.out]; exact fun _ _ h => h)).mono ?_)
  rintro e yy ⟨rfl, hyy⟩
  refine ⟨_, rfl, ?_⟩
  simp only [Act.put, List.setIfInBounds_toArray, List.set_cons_zero, List.set_cons_succ]
  replace hyy := hyy.symm
  subst hyy
  refine xm [some (.bool false)] (by kernel_rfl) (by simp [xr, go_sem]) ?_
  simp only [xw, p0, p1, p2, p3]
  go_upto_region 3 with (fail)
  refine wp_region_lit ?_
  have A0 := hideit (map_made (P := Try.prog) (k := 3) y3)
  have XB : Ext y3 (y3.alloc (.map #[] 0)) := (Below.refl _ _).alloc (Nat.le_refl _) _
  have AB := hideit hE.out.size
  have D0 : Hid (z1 ≠ y3.heap.size) := Nat.ne_of_lt Hz1.out.2.2
  replace Hz1 := hideit (Hz1.out.carry XB)
  replace hV := hideit (hV.out.ext XB)
  replace hE := hideit (Ext.trans hE.out XB)
  clear XB
  refine wpList_to rfl (.map (some y3.heap.size)) (y3.alloc (.map #[] 0)) (by have hmm := @run_makeMap Try.prog; simp [go_sem, hmm]) ?_
  simp only [Act.put, List.setIfInBounds_toArray, List.set_cons_zero, List.set_cons_succ]
  generalize y3.alloc (.map #[] 0) = x5 at Hz1 hV hE A0 ⊢
  obtain ⟨pb, epb⟩ : ∃ b, b = y3.heap.size := ⟨_, rfl⟩
  have ABpb : Hid (w.heap.size ≤ pb) := by rw [epb]; exact AB.out
  clear AB
  rw [← epb] at A0 D0  ⊢
  clear epb
  have hP := A0
  clear A0
  have Dpb_0 := D0
  clear D0
  refine xm [some (.slice o l k)] (by kernel_rfl) (by simp [xr, go_sem]) ?_
  simp only [xw, p0, p1, p2, p3]
  refine wpList_call rfl (by simp [go_sem]) ((clone_any (.slice o l k) l f x5 hV.out (by have := hl.out; omega)).mono ?_)
  rintro e y5 ⟨v5, rfl, hO5, hX5⟩
  refine ⟨_, rfl, ?_⟩
  simp only [Act.put, List.setIfInBounds_toArray, List.set_cons_zero, List.set_cons_succ]
  replace Hz1 := hideit (Hz1.out.carry hX5)
  replace hV := hideit (hV.out.ext hX5)
  replace hP := hideit (hP.out.ext hX5)
  replace hE := hideit (Ext.trans hE.out (hX5))
  have hBB := hideit hO5.bb
  clear hX5 hO5
  obtain ⟨vo, vk, rfl⟩ := hBB.out.1.form
  obtain ⟨vl, hvl⟩ : ∃ q, q = l := ⟨_, rfl⟩
  rw [← hvl] at hBB ⊢
  replace hvl := hideit hvl
  obtain ⟨w4, hr4, hM4, hG4, hz4⟩ := MapAt.put (t := 63) (e := 22) hP.out Try.underlying3 Try.underlying63 (by decide) (x := 0) (WalkArith.wf_i64 (by decide)) (.slice vo vl vk)
  have hK4 : Keeps (fun i => i = pb) y5 w4 := Keeps.of_grown hG4 (.inl rfl) fun e => (hM4.notB e).elim
  refine wpList_st9 rfl w4 (exec_mins (.tmp 14) (.const (.int .i64 0)) (.tmp 16) rfl rfl rfl rfl hr4) ?_
  simp only [Act.put]
  replace hBB := hideit (hBB.out.keep hK4 fun i e => by rw [e]; exact hP.out.notB)
  replace Hz1 := hideit (Hz1.out.keep hK4 (Dpb_0.out))
  replace hE := hideit (Ext.keeps hE.out hK4 fun i e => by rw [e]; exact ABpb.out)
  clear hP hr4 hG4 hz4 hK4
  have hP := hideit hM4
  clear hM4 hV
  refine xm [some (.map (some pb)), some (.map (some pb))] (by kernel_rfl) (by simp [xr, go_sem]) ?_
  simp only [xw, p0, p1, p2, p3]
  go_upto_region 4 with (fail)
  refine wp_region_lit ?_
  refine wpList_run rfl (.agg (row 24 (hdv h)).toArray) (xload 37 (.tmp 2) rfl z1 0 24 _ rfl Hz1.out.range Try.underlying37 rfl infoH) ?_
  simp only [Act.put, List.setIfInBounds_toArray, List.set_cons_zero, List.set_cons_succ]
  have A0 := hideit (map_made (P := Try.prog) (k := 3) w4)
  have XB : Ext w4 (w4.alloc (.map #[] 0)) := (Below.refl _ _).alloc (Nat.le_refl _) _
  have AB := hideit hE.out.size
  have D0 : Hid (z1 ≠ w4.heap.size) := Nat.ne_of_lt Hz1.out.2.2
  replace Hz1 := hideit (Hz1.out.carry XB)
  have DM0 : Hid (pb ≠ w4.heap.size) := Nat.ne_of_lt hP.out.lt
  replace hP := hideit (hP.out.ext XB)
  replace hBB := hideit (hBB.out.ext XB)
  replace hE := hideit (Ext.trans hE.out XB)
  clear XB
  refine wpList_to rfl (.map (some w4.heap.size)) (w4.alloc (.map #[] 0)) (by have hmm := @run_makeMap Try.prog; simp [go_sem, hmm]) ?_
  simp only [Act.put, List.setIfInBounds_toArray, List.set_cons_zero, List.set_cons_succ]
  generalize w4.alloc (.map #[] 0) = x6 at Hz1 hP hBB hE A0 ⊢
  obtain ⟨sb, esb⟩ : ∃ b, b = w4.heap.size := ⟨_, rfl⟩
  have ABsb : Hid (w.heap.size ≤ sb) := by rw [esb]; exact AB.out
  clear AB
  rw [← esb] at A0 D0 DM0 ⊢
  clear esb
  have hS := A0
  clear A0
  have Dsb_0 := D0
  clear D0
  have Dsb_pb := DM0
  clear DM0
  refine xm [some (.map (some pb))] (by kernel_rfl) (by simp [xr, go_sem]) ?_
  simp only [xw, p0, p1, p2, p3]
  refine wpList_run rfl (.agg (row 64 (mdV h sb pb 1 rt0 false 0)).toArray) (xbuild 68 [(0, .tmp 18), (1, .tmp 19), (2, .tmp 20), (3, .const (.int .i64 1))] rfl _ (buildM h sb pb _)) ?_
  simp only [Act.put, List.setIfInBounds_toArray, List.set_cons_zero, List.set_cons_succ]
  have hnB := hideit (notB_new x6 (row 64 (mdV h sb pb 1 rt0 false 0)).toArray 68 (by decide))
  have A0 := hideit (RowAt.new x6 64 (mdV h sb pb 1 rt0 false 0) 68)
  have DP : Hid (pb ≠ x6.heap.size) := Nat.ne_of_lt hP.out.lt
  have DS : Hid (sb ≠ x6.heap.size) := Nat.ne_of_lt hS.out.lt
  have XB : Ext x6 (x6.alloc (.cells (row 64 (mdV h sb pb 1 rt0 false 0)).toArray 68)) := (Below.refl _ _).alloc (Nat.le_refl _) _
  have A1 := hideit (Hz1.out.carry XB)
  have L0 := hideit (hP.out.ext XB)
  have L1 := hideit (hBB.out.ext XB)
  have L2 := hideit (hS.out.ext XB)
  have AE := hideit (Ext.trans hE.out (XB))
  have AB := hideit (hE.out.size)
  have D0 : Hid (z1 ≠ x6.heap.size) := Nat.ne_of_lt Hz1.out.2.2
  clear XB
  refine wpList_to rfl (.pointer (some ⟨x6.heap.size, 0, none⟩)) (x6.alloc (.cells (row 64 (mdV h sb pb 1 rt0 false 0)).toArray 68)) (by simp [go_sem]) ?_
  simp only [Act.put, List.setIfInBounds_toArray, List.set_cons_zero, List.set_cons_succ]
  generalize x6.alloc (.cells (row 64 (mdV h sb pb 1 rt0 false 0)).toArray 68) = x7 at A0 A1 L0 L1 L2 AE hnB ⊢
  obtain ⟨p, ep⟩ : ∃ b, b = x6.heap.size := ⟨_, rfl⟩
  have ABp : Hid (w.heap.size ≤ p) := by rw [ep]; exact AB.out
  clear AB
  rw [← ep] at A0 D0 DP DS hnB ⊢
  clear ep
  have Hp := A0
  clear A0
  replace Hz1 := A1
  clear A1
  replace hP := L0
  clear L0
  replace hBB := L1
  clear L1
  replace hS := L2
  clear L2
  replace hE := AE
  clear AE
  have Dp_0 := D0
  clear D0
  refine xm [some (.pointer (some ⟨p, 0, none⟩)), some (.int .i64 0)] (by kernel_rfl) (by simp [xr, go_sem]) ?_
  simp only [xw, p0, p1, p2, p3]
  go_wp2
  refine bodyPost_ret (res2 rfl _ _ _) rfl ?_
  have hl0 := hvl.out
  subst hl0
  refine ⟨fun i => i = p ∨ i = sb ∨ i = pb, p, ⟨sb, pb, mset (fun _ => none) 0 (some (.slice vo vl vk))⟩, rfl, ?_, fun i hi => ?_, hE.out⟩
  · exact {
      st := Hp.out
      okh := hk.out
      eps := ⟨show (1 : Int) ≤ 1 by decide, show (1 : Int) ≤ 4294967295 by decide⟩
      mpS := hS.out.mono (by decide)
      mpP := hP.out.mono (by decide)
      hasP := fun x => by
        show (if x = 0 then some (Value.slice vo vl vk) else none).isSome = (if x = 0 then some (vl, f) else none).isSome
        by_cases e : x = 0
        · rw [if_pos e, if_pos e]; rfl
        · rw [if_neg e, if_neg e]; rfl
      cont := fun x v e => by
        have e : (if x = 0 then some (Value.slice vo vl vk) else none) = some v := e
        by_cases e0 : x = 0
        · rw [if_pos e0] at e
          injection e with e
          subst e
          exact ⟨vl, f, if_pos e0, by have := hl.out; omega, hBB.out⟩
        · rw [if_neg e0] at e; cases e
      kS := fun x e => absurd rfl e
      kP := fun x e => by
        have e : (if x = 0 then some (vl, f) else none) ≠ none := e
        by_cases e0 : x = 0
        · have := hk.out.1.2.2.1
          show 0 ≤ x ∧ x < h.sl
          omega
        · rw [if_neg e0] at e; exact absurd rfl e
      fp := .inl rfl
      fs := .inr (.inl rfl)
      fm := .inr (.inr rfl)
      nb := fun i hi => by
        rcases hi with rfl | rfl | rfl
        · exact hnB.out
        · exact hS.out.notB
        · exact hP.out.notB
      lt := fun i hi => by
        rcases hi with rfl | rfl | rfl
        · exact Hp.out.2.2
        · exact hS.out.lt
        · exact hP.out.lt
      ps := fun e => DS.out e.symm
      pm := fun e => DP.out e.symm
      sm := fun e => Dsb_pb.out e.symm }
  · rcases hi with rfl | rfl | rfl
    · exact ABp.out
    · exact ABsb.out
    · exact ABpb.out
end Go.Proofs.Ytcipkfalnjgghaa
