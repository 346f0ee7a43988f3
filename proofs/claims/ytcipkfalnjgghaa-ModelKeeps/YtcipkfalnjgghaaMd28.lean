/-
  Bytes whose block may lie nowhere where they are none.
-/
import Derived.Test.YtcipkfalnjgghaaMd27
import Derived.Test.YtcipkfalnjgghaaMdO
import Derived.Test.YtcipkfalnjgghaaMd19
import Derived.Test.YtcipkfalnjgghaaMd20
import Derived.Test.YtcipkfalnjgghaaMd21
import Derived.Test.YtcipkfalnjgghaaMd23
namespace Go.Proofs.Ytcipkfalnjgghaa
open Go.RowKit Go.BigFrame Go.Maps
set_option linter.unusedVariables false
theorem PV.bv {u : Value} {l : Nat} {b : Nat → BitVec 8} {w : World} (h : PV u l b w) (h0 : 0 < l) : BV u l b w := by
  rcases h with h | ⟨a, cap, h1, h2, h3⟩
  · exact .inl h
  · exact .inr ⟨a, cap, h1, h2, h3, by have := World.block_lt_of_cell? w _ (h3 0 h0); rwa [show (a.add 0).block = a.block by unfold Addr.add; split <;> rfl] at this⟩
theorem BV.pv {u : Value} {l : Nat} {b : Nat → BitVec 8} {w : World} (h : BV u l b w) : PV u l b w := by
  rcases h with h | ⟨a, cap, h1, h2, h3⟩
  · exact .inl h
  · exact .inr ⟨a, cap, h1, h2, h3.1⟩
theorem exec_app {P : Program} {o : Oper} {a : Act} {w w' : World} {t : TypeId} {v u v' : Value} (sl x : Operand) (ho : o.op = .call { callee := .builtin .append, args := #[sl, x], argTypes := #[t, t] }) (hs : a.eval sl = v) (hx : a.eval x = u)
    (hr : (Builtin.append_ #[t, t] o.type #[v, u]).run P w = .ok v' w') : (execOp a.eval o).run P w = .ok (.value v') w' := by
  simp [execOp, ho, resolve, invoke, builtin, hs, hx, hr, Result.andThen]
set_option maxRecDepth 20000 in
set_option maxHeartbeats 4000000 in
theorem clone_pv (v : Value) (l : Nat) (b : Nat → BitVec 8) (w : World) (h : PV v l b w) (hl : l ≤ 140737488355328) :
    Calls Try.prog 45 #[v] w fun e w' => ∃ v', e = .returned v' ∧ OwnB w.heap.size 5 v' l (yv b) w' ∧ Ext w w' := by
  by_cases h0 : 0 < l
  · exact clone_any v l b w (h.bv h0) hl
  · obtain rfl : l = 0 := by omega
    rcases h with ⟨rfl, _⟩ | ⟨a, cap, rfl, h2, h3⟩
    · exact clone_any _ 0 b w (.inl ⟨rfl, rfl⟩) hl
    · have hE : Hid (Ext w (w.alloc (.cells #[] 5))) := (Below.refl _ _).alloc (Nat.le_refl _) _
      have hO := hideit (own_empty w w.heap.size 5 (yv b) (Nat.le_refl _))
      have hq := fun X : World => Go.Lib.run_eql_slice_some_nil (P := Try.prog) X a 0 cap Try.underlying22
      clear h3
      go_enter Try.func45, Try.ntmps45
      go_upto_region 3 with (fail)
      refine wp_region_lit ?_
      refine wpList_to rfl (.slice (some ⟨w.heap.size, 0, none⟩) 0 0) (w.alloc (.cells #[] 5)) (by simp [go_sem]) ?_
      simp only [Act.put, List.setIfInBounds_toArray, List.set_cons_zero, List.set_cons_succ]
      refine wpList_run rfl (.slice (some a) 0 cap) (by simp [go_sem]) ?_
      simp only [Act.put, List.setIfInBounds_toArray, List.set_cons_zero, List.set_cons_succ]
      refine wpList_run rfl (.slice (some ⟨w.heap.size, 0, none⟩) 0 0) (exec_app (.tmp 5) (.tmp 6) rfl rfl rfl (by simp [Builtin.append_, go_sem]; done)) ?_
      simp only [Act.put, List.setIfInBounds_toArray, List.set_cons_zero, List.set_cons_succ]
      go_wp2
      go_ret
      exact ⟨_, rfl, hO.out, hE.out⟩
set_option maxRecDepth 20000 in
set_option maxHeartbeats 4000000 in
theorem a5_anyP (h : Hd) (sb pb : Nat) (ep : Int) (r : Rt) (op : Bool) (sl : Int) (p bm bn bb C : Nat) (m : Int → Option Value) (n : Int) (o : Option Addr) (l k : Nat) (f : Nat → BitVec 8) (w : World) (hS : RowAt p 64 (mdV h sb pb ep r op sl) w) (hm : RowAt bm 1 (fun _ => .pointer (some ⟨p, 0, none⟩)) w) (hn : RowAt bn 1 (fun _ => .int .i64 n) w) (hb : RowAt bb 1 (fun _ => .slice o l k) w) (hV : PV (.slice o l k) l f w) (hP : MapAt Try.prog 3 pb C m w) (hok : okI n) (hC : C < maxLen) (hl : l ≤ 512) :
    Calls Try.prog 44 #[.pointer (some ⟨bb, 0, none⟩), .pointer (some ⟨bm, 0, none⟩), .pointer (some ⟨bn, 0, none⟩)] w fun e w' => e = .returned (.int .i64 0) ∧ ∃ vo vk, MapAt Try.prog 3 pb (C + 1) (mset m n (some (.slice vo l vk))) w' ∧ BB (.slice vo l vk) l f w' ∧ Keeps (fun i => i = pb) w w' := by
  replace hS := hideit hS
  replace hm := hideit hm
  replace hn := hideit hn
  replace hb := hideit hb
  replace hV := hideit hV
  replace hP := hideit hP
  replace hok := hideit hok
  replace hC := hideit hC
  replace hl := hideit hl
  have hE := hideit (Ext.refl w)
  go_enter Try.func44, Try.ntmps44
  go_upto_region 1 with (fail)
  replace hS := hideit hS.out.drew
  replace hm := hideit hm.out.drew
  replace hn := hideit hn.out.drew
  replace hb := hideit hb.out.drew
  replace hV := hideit (hV.out.ext (Ext.draw (Ext.refl w)))
  replace hP := hideit (hP.out.ext (Ext.draw (Ext.refl w)))
  replace hE := hideit (Ext.draw hE.out)
  refine wp_region_ladz (fun X => Ext w.drew X) [7] [(false, 0), (false, 1), (false, 2), (false, 3), (false, 4), (false, 5), (true, 6), (true, 7)] (by kernel_rfl) (by kernel_rfl) (by decide +kernel) (by decide +kernel) (by decide +kernel) (by decide +kernel) (Ext.refl _) ?_
  refine wpZ_f _ (.pointer (some ⟨p, 0, none⟩)) rfl rfl (fun X hX => by have m1 : X.cell? ⟨bm, 0, none⟩ = some (.pointer (some ⟨p, 0, none⟩)) := (hm.out.carry hX).1 0 (by decide); simp [go_sem, m1]) ?_
  simp only [List.getElem_toArray, List.getElem_cons_zero, Act.put, List.setIfInBounds_toArray, List.set_cons_zero, List.set_cons_succ]
  refine wpZ_f _ (.pointer (some ⟨p, 0, none⟩)) rfl rfl (fun X _ => by simp [go_sem]) ?_
  simp only [List.getElem_toArray, List.getElem_cons_zero, List.getElem_cons_succ, Act.put, List.setIfInBounds_toArray, List.set_cons_zero, List.set_cons_succ]
  refine wpZ_f _ (.pointer (some ⟨p, 25, none⟩)) rfl rfl (fun X _ => by simp [go_sem]) ?_
  simp only [List.getElem_toArray, List.getElem_cons_zero, List.getElem_cons_succ, Act.put, List.setIfInBounds_toArray, List.set_cons_zero, List.set_cons_succ]
  refine wpZ_f _ (.map (some pb)) rfl rfl (fun X hX => by have m2 : X.cell? ⟨p, 25, none⟩ = some (.map (some pb)) := (hS.out.carry hX).1 25 (by decide); simp [go_sem, m2]) ?_
  simp only [List.getElem_toArray, List.getElem_cons_zero, List.getElem_cons_succ, Act.put, List.setIfInBounds_toArray, List.set_cons_zero, List.set_cons_succ]
  refine wpZ_f _ (.int .i64 (n)) rfl rfl (fun X hX => by have m3 : X.cell? ⟨bn, 0, none⟩ = some (.int .i64 (n)) := (hn.out.carry hX).1 0 (by decide); simp [go_sem, m3]) ?_
  simp only [List.getElem_toArray, List.getElem_cons_zero, List.getElem_cons_succ, Act.put, List.setIfInBounds_toArray, List.set_cons_zero, List.set_cons_succ]
  refine wpZ_f _ (.slice o l k) rfl rfl (fun X hX => by have m4 : X.cell? ⟨bb, 0, none⟩ = some (.slice o l k) := (hb.out.carry hX).1 0 (by decide); simp [go_sem, m4]) ?_
  simp only [List.getElem_toArray, List.getElem_cons_zero, List.getElem_cons_succ, Act.put, List.setIfInBounds_toArray, List.set_cons_zero, List.set_cons_succ]
  refine wpZ_call _ rfl rfl (by simp [go_sem]) ((clone_pv (.slice o l k) l f w.drew hV.out (by have := hl.out; omega)).mono ?_)
  rintro e y5 ⟨v5, rfl, hO5, hX5⟩
  refine ⟨_, rfl, fun X => Ext y5 X, .inr (fun X hX => Ext.trans hX5 hX), Ext.refl _, ?_⟩
  simp only [List.getElem_toArray, List.getElem_cons_zero, List.getElem_cons_succ, Act.put, List.setIfInBounds_toArray, List.set_cons_zero, List.set_cons_succ]
  replace hS := hideit (hS.out.carry hX5)
  replace hm := hideit (hm.out.carry hX5)
  replace hn := hideit (hn.out.carry hX5)
  replace hb := hideit (hb.out.carry hX5)
  replace hV := hideit (hV.out.ext hX5)
  replace hP := hideit (hP.out.ext hX5)
  replace hE := hideit (Ext.trans hE.out (hX5))
  have hBB := hideit hO5.bb
  clear hX5 hO5
  obtain ⟨vo, vk, rfl⟩ := hBB.out.1.form
  obtain ⟨vl, hvl⟩ : ∃ q, q = l := ⟨_, rfl⟩
  rw [← hvl] at hBB ⊢
  replace hvl := hideit hvl
  obtain ⟨w4, hr4, hM4, hG4, hz4⟩ := MapAt.put hP.out Try.underlying3 Try.underlying63 hC.out hok.out (.slice vo vl vk)
  refine wpZ_st _ w4 rfl rfl (exec_mput (.tmp 7) (.tmp 8) (.tmp 10) rfl rfl rfl rfl hr4) (fun _ => True) (.inl (by simp)) trivial ?_
  simp only [List.getElem_toArray, List.getElem_cons_zero, List.getElem_cons_succ, Act.put]
  refine wpZ_nil ?_
  have hKp : Keeps (fun i => i = pb) y5 w4 := Keeps.of_grown hG4 (.inl rfl) fun e => (hM4.notB e).elim
  have hF := hideit ((Keeps.of_ext (F := fun i => i = pb) hE.out).trans (F' := fun i => i = pb) hKp fun i hi => .inl hi)
  have hB9 := hideit (hBB.out.keep hKp fun i e => by rw [e]; exact hP.out.notB)
  replace hM4 := hideit hM4
  have hl0 := hvl.out
  clear hr4 hG4 hKp hBB hP hS hm hn hb hV hE
  subst hl0
  go_wp2
  go_ret
  exact ⟨rfl, vo, vk, hM4.out, hB9.out, hF.out⟩
set_option maxRecDepth 20000 in
set_option maxHeartbeats 4000000 in
theorem add_doP {F : Nat → Prop} {p C : Nat} {M : MLoc} {x : World} (h : Hd) (S : Int → Option (Nat → BitVec 8)) (P : Int → Option (Nat × (Nat → BitVec 8))) (ep : Int) (r : Rt) (sl : Int) (hM : MdM F p ⟨h, S, P, ep, r, true, sl⟩ C M x) (bm bn bb bs : Nat) (n : Int) (o : Option Addr) (l k : Nat) (f : Nat → BitVec 8)
    (hm : RowAt bm 1 (fun _ => .pointer (some ⟨p, 0, none⟩)) x) (hn : RowAt bn 1 (fun _ => .int .i64 n) x) (hb : RowAt bb 1 (fun _ => .slice o l k) x) (hV : PV (.slice o l k) l f x) (hB : RowAt bs 6 (fnV (fun i => [39, 40, 41, 43, 44, 38].getD i 0) (fun i => [#[], #[.pointer (some ⟨p, 0, none⟩)], #[], #[], #[], #[.pointer (some ⟨p, 0, none⟩)]].getD i #[]) (fun i => [#[.pointer (some ⟨bb, 0, none⟩)], #[], #[.pointer (some ⟨bm, 0, none⟩), .pointer (some ⟨bn, 0, none⟩)], #[.pointer (some ⟨bm, 0, none⟩), .pointer (some ⟨bn, 0, none⟩)], #[.pointer (some ⟨bb, 0, none⟩), .pointer (some ⟨bm, 0, none⟩), .pointer (some ⟨bn, 0, none⟩)], #[]].getD i #[])) x) (nF : ¬ F bs) (hok : okI n) (hC : C < maxLen) (E : Int) (s' : MSt) (hEs : E = adE ⟨h, S, P, ep, r, true, sl⟩ n l ∧ s' = if adE ⟨h, S, P, ep, r, true, sl⟩ n l = 0 then adS ⟨h, S, P, ep, r, true, sl⟩ n l f else ⟨h, S, P, ep, r, true, sl⟩) :
    Calls Try.prog 33 #[.pointer (some ⟨p, 0, none⟩), .slice (some ⟨bs, 0, none⟩) 6 6] x fun e w' => e = .returned (.int .i64 E) ∧ (∃ M', MdM F p s' (C + 1) M' w') ∧ Keeps F x w' := by
  obtain ⟨rfl, rfl⟩ := hEs
  have hS := hM.st
  have hw2 := rrek_any h M.sb M.pb ep r true sl p x hS
  have hw3 := a3_any h M.sb M.pb ep r true sl p bm bn n x hS hm hn
  unfold adE
  by_cases hl : 512 < l
  · rw [if_pos hl, if_neg (show ¬ (1 : Int) = 0 by decide)]
    refine (do_refuse h M.sb M.pb ep r sl p bs 6 0 1 (fun i => [39, 40, 41, 43, 44, 38].getD i 0) (fun i => [#[], #[.pointer (some ⟨p, 0, none⟩)], #[], #[], #[], #[.pointer (some ⟨p, 0, none⟩)]].getD i #[]) (fun i => [#[.pointer (some ⟨bb, 0, none⟩)], #[], #[.pointer (some ⟨bm, 0, none⟩), .pointer (some ⟨bn, 0, none⟩)], #[.pointer (some ⟨bm, 0, none⟩), .pointer (some ⟨bn, 0, none⟩)], #[.pointer (some ⟨bb, 0, none⟩), .pointer (some ⟨bm, 0, none⟩), .pointer (some ⟨bn, 0, none⟩)], #[]].getD i #[]) x hS (by decide) hB (by decide) (by decide) (fun i hi args X => by rcases (by omega : i = 0 ∨ i = 1 ∨ i = 2 ∨ i = 3 ∨ i = 4 ∨ i = 5) with rfl | rfl | rfl | rfl | rfl | rfl <;> simp [go_sem]) (fun i hi => ?_) ?_).mono ?_
    · exact absurd hi (Nat.not_lt_zero _)
    · exact a1_no bb o l k x hb hl
    · rintro e w' ⟨q1, rfl⟩
      exact ⟨q1, ⟨M, hM.mono (Nat.le_succ C)⟩, Keeps.refl _ _⟩
  · rw [if_neg hl]
    have hw1 := a1_ok bb o l k x hb hl
    by_cases hr : r.rk = true
    · rw [if_pos hr] at hw2
      rw [if_pos (show (⟨h, S, P, ep, r, true, sl⟩ : MSt).r.rk = true from hr), if_neg (show ¬ (230 : Int) = 0 by decide)]
      refine (do_refuse h M.sb M.pb ep r sl p bs 6 1 230 (fun i => [39, 40, 41, 43, 44, 38].getD i 0) (fun i => [#[], #[.pointer (some ⟨p, 0, none⟩)], #[], #[], #[], #[.pointer (some ⟨p, 0, none⟩)]].getD i #[]) (fun i => [#[.pointer (some ⟨bb, 0, none⟩)], #[], #[.pointer (some ⟨bm, 0, none⟩), .pointer (some ⟨bn, 0, none⟩)], #[.pointer (some ⟨bm, 0, none⟩), .pointer (some ⟨bn, 0, none⟩)], #[.pointer (some ⟨bb, 0, none⟩), .pointer (some ⟨bm, 0, none⟩), .pointer (some ⟨bn, 0, none⟩)], #[]].getD i #[]) x hS (by decide) hB (by decide) (by decide) (fun i hi args X => by rcases (by omega : i = 0 ∨ i = 1 ∨ i = 2 ∨ i = 3 ∨ i = 4 ∨ i = 5) with rfl | rfl | rfl | rfl | rfl | rfl <;> simp [go_sem]) (fun i hi => ?_) ?_).mono ?_
      · obtain rfl : i = 0 := by omega
        exact hw1
      · exact hw2
      · rintro e w' ⟨q1, rfl⟩
        exact ⟨q1, ⟨M, hM.mono (Nat.le_succ C)⟩, Keeps.refl _ _⟩
    · rw [if_neg hr] at hw2
      rw [if_neg (show ¬ (⟨h, S, P, ep, r, true, sl⟩ : MSt).r.rk = true from hr)]
      by_cases hg : 0 ≤ n ∧ n < h.sl
      · rw [if_pos hg] at hw3
        rw [if_pos hg]
        cases hp : (P n).isSome with
        | true =>
          have hm2 : (M.m n).isSome = true := (hM.hasP n).trans hp
          have hw4 := a4_has h M.sb M.pb ep r true sl p bm bn C M.m n x hS hm hn hM.mpP hok hm2
          rw [if_pos rfl, if_neg (show ¬ (5 : Int) = 0 by decide)]
          refine (do_refuse h M.sb M.pb ep r sl p bs 6 3 5 (fun i => [39, 40, 41, 43, 44, 38].getD i 0) (fun i => [#[], #[.pointer (some ⟨p, 0, none⟩)], #[], #[], #[], #[.pointer (some ⟨p, 0, none⟩)]].getD i #[]) (fun i => [#[.pointer (some ⟨bb, 0, none⟩)], #[], #[.pointer (some ⟨bm, 0, none⟩), .pointer (some ⟨bn, 0, none⟩)], #[.pointer (some ⟨bm, 0, none⟩), .pointer (some ⟨bn, 0, none⟩)], #[.pointer (some ⟨bb, 0, none⟩), .pointer (some ⟨bm, 0, none⟩), .pointer (some ⟨bn, 0, none⟩)], #[]].getD i #[]) x hS (by decide) hB (by decide) (by decide) (fun i hi args X => by rcases (by omega : i = 0 ∨ i = 1 ∨ i = 2 ∨ i = 3 ∨ i = 4 ∨ i = 5) with rfl | rfl | rfl | rfl | rfl | rfl <;> simp [go_sem]) (fun i hi => ?_) ?_).mono ?_
          · rcases (by omega : i = 0 ∨ i = 1 ∨ i = 2) with rfl | rfl | rfl
            · exact hw1
            · exact hw2
            · exact hw3
          · exact hw4
          · rintro e w' ⟨q1, rfl⟩
            exact ⟨q1, ⟨M, hM.mono (Nat.le_succ C)⟩, Keeps.refl _ _⟩
        | false =>
          have hm2 : (M.m n).isSome = false := (hM.hasP n).trans hp
          have hw4 := a4_hasnt h M.sb M.pb ep r true sl p bm bn C M.m n x hS hm hn hM.mpP hok hm2
          rw [if_neg (by decide), if_pos rfl]
          have hS2 : ∀ W, Keeps (fun i => i = M.pb) x W → RowAt p 64 (mdV h M.sb M.pb ep r true sl) W := fun W hK => hS.keep hK hM.pm
          refine (do_pass h M.sb M.pb ep r sl p bs 6 4 (fun i => [39, 40, 41, 43, 44, 38].getD i 0) (fun i => [#[], #[.pointer (some ⟨p, 0, none⟩)], #[], #[], #[], #[.pointer (some ⟨p, 0, none⟩)]].getD i #[]) (fun i => [#[.pointer (some ⟨bb, 0, none⟩)], #[], #[.pointer (some ⟨bm, 0, none⟩), .pointer (some ⟨bn, 0, none⟩)], #[.pointer (some ⟨bm, 0, none⟩), .pointer (some ⟨bn, 0, none⟩)], #[.pointer (some ⟨bb, 0, none⟩), .pointer (some ⟨bm, 0, none⟩), .pointer (some ⟨bn, 0, none⟩)], #[]].getD i #[]) x hS (by decide) hB rfl (fun W => ∃ vo vk, MapAt Try.prog 3 M.pb (C + 1) (mset M.m n (some (.slice vo l vk))) W ∧ BB (.slice vo l vk) l f W ∧ Keeps (fun i => i = M.pb) x W)
            (fun W => (∃ vo vk, MapAt Try.prog 3 M.pb (C + 1) (mset M.m n (some (.slice vo l vk))) W ∧ BB (.slice vo l vk) l f W ∧ Keeps (fun i => i = M.pb ∨ i = p) x W) ∧ RowAt p 64 (mdV h M.sb M.pb ep { r with ct := r.ct + 1#64 } true sl) W)
            (fun W ⟨_, _, _, _, hK⟩ => hB.keep hK fun e => nF (by rw [e]; exact hM.fm)) (fun W ⟨⟨_, _, _, _, hK⟩, _⟩ => hB.keep hK fun e => nF (by rcases e with e | e <;> rw [e]; exact hM.fm; exact hM.fp))
            (fun i hi args X => by rcases (by omega : i = 0 ∨ i = 1 ∨ i = 2 ∨ i = 3 ∨ i = 4 ∨ i = 5) with rfl | rfl | rfl | rfl | rfl | rfl <;> simp [go_sem]) (fun i hi => ?_) ?_ (fun W hW => ?_)).mono ?_
          · rcases (by omega : i = 0 ∨ i = 1 ∨ i = 2 ∨ i = 3) with rfl | rfl | rfl | rfl
            · exact hw1
            · exact hw2
            · exact hw3
            · exact hw4
          · exact a5_anyP h M.sb M.pb ep r true sl p bm bn bb C M.m n o l k f x hS hm hn hb hV hM.mpP hok hC (by omega)
          · obtain ⟨vo, vk, h1, h2, h3⟩ := hW
            exact (count_any h M.sb M.pb ep r true sl p W (hS2 W h3)).mono fun e w' ⟨q1, q2, q3⟩ => ⟨q1, ⟨vo, vk, h1.keep q2 fun e => hM.pm e.symm, h2.keep q2 fun i hi hb => by rw [hi] at hb; exact hM.nb p hM.fp (h3.bk p (hM.lt p hM.fp) hb), (h3.mono fun i hi => .inl hi).trans q2 fun i hi => .inl (.inr hi)⟩, q3⟩
          · rintro e w' ⟨q1, ⟨vo, vk, q2, q3, q4⟩, q5⟩
            have hGF : ∀ i, (i = M.pb ∨ i = p) → F i := fun i hi => by rcases hi with rfl | rfl; exact hM.fm; exact hM.fp
            refine ⟨q1, ⟨_, hM.stepP q4 hGF (adS ⟨h, S, P, ep, r, true, sl⟩ n l f) rfl rfl hM.eps _ q5 q2 (Nat.le_succ C) (fun x => ?_) (fun x v hx => ?_) (fun x hx => ?_) (fun e => by rcases e with e | e; exact hM.sm e; exact hM.ps e.symm)⟩, q4.mono hGF⟩
            · show (if x = n then _ else M.m x).isSome = (if x = n then some (l, f) else P x).isSome
              by_cases e : x = n
              · rw [if_pos e, if_pos e]; rfl
              · rw [if_neg e, if_neg e]; exact hM.hasP x
            · have hx : (if x = n then some (Value.slice vo l vk) else M.m x) = some v := hx
              by_cases e : x = n
              · rw [if_pos e] at hx
                injection hx with hx
                subst hx
                exact ⟨l, f, if_pos e, by omega, q3⟩
              · rw [if_neg e] at hx
                obtain ⟨l', f', a1, a2, a3⟩ := hM.cont x v hx
                exact ⟨l', f', (if_neg e).trans a1, a2, a3.keep q4 fun i hi => hM.nb i (hGF i hi)⟩
            · have hx : (if x = n then some (l, f) else P x) ≠ none := hx
              by_cases e : x = n
              · subst e; exact hg
              · rw [if_neg e] at hx; exact hM.kP x hx
      · rw [if_neg hg] at hw3
        rw [if_neg hg, if_neg (show ¬ (100 : Int) = 0 by decide)]
        refine (do_refuse h M.sb M.pb ep r sl p bs 6 2 100 (fun i => [39, 40, 41, 43, 44, 38].getD i 0) (fun i => [#[], #[.pointer (some ⟨p, 0, none⟩)], #[], #[], #[], #[.pointer (some ⟨p, 0, none⟩)]].getD i #[]) (fun i => [#[.pointer (some ⟨bb, 0, none⟩)], #[], #[.pointer (some ⟨bm, 0, none⟩), .pointer (some ⟨bn, 0, none⟩)], #[.pointer (some ⟨bm, 0, none⟩), .pointer (some ⟨bn, 0, none⟩)], #[.pointer (some ⟨bb, 0, none⟩), .pointer (some ⟨bm, 0, none⟩), .pointer (some ⟨bn, 0, none⟩)], #[]].getD i #[]) x hS (by decide) hB (by decide) (by decide) (fun i hi args X => by rcases (by omega : i = 0 ∨ i = 1 ∨ i = 2 ∨ i = 3 ∨ i = 4 ∨ i = 5) with rfl | rfl | rfl | rfl | rfl | rfl <;> simp [go_sem]) (fun i hi => ?_) ?_).mono ?_
        · rcases (by omega : i = 0 ∨ i = 1) with rfl | rfl
          · exact hw1
          · exact hw2
        · exact hw3
        · rintro e w' ⟨q1, rfl⟩
          exact ⟨q1, ⟨M, hM.mono (Nat.le_succ C)⟩, Keeps.refl _ _⟩
set_option maxRecDepth 20000 in
set_option maxHeartbeats 4000000 in
theorem add_openP {F : Nat → Prop} {p C : Nat} {M : MLoc} {w : World} (h : Hd) (S : Int → Option (Nat → BitVec 8)) (P : Int → Option (Nat × (Nat → BitVec 8))) (ep : Int) (r : Rt) (sl : Int) (hM : MdM F p ⟨h, S, P, ep, r, true, sl⟩ C M w) (n : Int) (o : Option Addr) (l k : Nat) (f : Nat → BitVec 8) (hV : PV (.slice o l k) l f w) (hok : okI n) (hC : C < maxLen) (E : Int) (s' : MSt) (hEs : E = adE ⟨h, S, P, ep, r, true, sl⟩ n l ∧ s' = if adE ⟨h, S, P, ep, r, true, sl⟩ n l = 0 then adS ⟨h, S, P, ep, r, true, sl⟩ n l f else ⟨h, S, P, ep, r, true, sl⟩) :
    Calls Try.prog 13 #[.pointer (some ⟨p, 0, none⟩), .int .i64 n, .slice o l k] w fun e w' => e = .returned (.int .i64 E) ∧ (∃ M', MdM F p s' (C + 1) M' w') ∧ Keeps F w w' := by
  have hlt := hideit hM.lt
  replace hM := hideit hM
  replace hV := hideit hV
  replace hok := hideit hok
  replace hC := hideit hC
  replace hEs := hideit hEs
  have hE := hideit (Ext.refl w)
  go_enter Try.func13, Try.ntmps13
  go_upto_region 0 with (fail)
  refine wp_region_lit ?_
  have A0 := hideit (row1_new w (.pointer (some ⟨p, 0, none⟩)) 26)
  have XB : Ext w (w.alloc (.cells #[.pointer (some ⟨p, 0, none⟩)] 26)) := (Below.refl _ _).alloc (Nat.le_refl _) _
  have L0 := hideit (hM.out.ext XB)
  have L1 := hideit (hV.out.ext XB)
  have AE := hideit (Ext.trans hE.out (XB))
  have AB := hideit (hE.out.size)
  clear XB
  refine wpList_to rfl (.pointer (some ⟨w.heap.size, 0, none⟩)) (w.alloc (.cells #[.pointer (some ⟨p, 0, none⟩)] 26)) (by simp [go_sem]) ?_
  simp only [Act.put, List.setIfInBounds_toArray, List.set_cons_zero, List.set_cons_succ]
  generalize w.alloc (.cells #[.pointer (some ⟨p, 0, none⟩)] 26) = x2 at A0 L0 L1 AE ⊢
  obtain ⟨z1, ez1⟩ : ∃ b, b = w.heap.size := ⟨_, rfl⟩
  have ABz1 : Hid (w.heap.size ≤ z1) := by rw [ez1]; exact AB.out
  clear AB
  rw [← ez1] at A0  ⊢
  clear ez1
  have Hz1 := A0
  clear A0
  replace hM := L0
  clear L0
  replace hV := L1
  clear L1
  replace hE := AE
  clear AE
  have A0 := hideit (row1_new x2 (.int .i64 (n)) 3)
  have XB : Ext x2 (x2.alloc (.cells #[.int .i64 (n)] 3)) := (Below.refl _ _).alloc (Nat.le_refl _) _
  have A1 := hideit (Hz1.out.carry XB)
  have L0 := hideit (hM.out.ext XB)
  have L1 := hideit (hV.out.ext XB)
  have AE := hideit (Ext.trans hE.out (XB))
  have AB := hideit (hE.out.size)
  have D0 : Hid (z1 ≠ x2.heap.size) := Nat.ne_of_lt Hz1.out.2.2
  clear XB
  refine wpList_to rfl (.pointer (some ⟨x2.heap.size, 0, none⟩)) (x2.alloc (.cells #[.int .i64 (n)] 3)) (by simp [go_sem]) ?_
  simp only [Act.put, List.setIfInBounds_toArray, List.set_cons_zero, List.set_cons_succ]
  generalize x2.alloc (.cells #[.int .i64 (n)] 3) = x4 at A0 A1 L0 L1 AE ⊢
  obtain ⟨z3, ez3⟩ : ∃ b, b = x2.heap.size := ⟨_, rfl⟩
  have ABz3 : Hid (w.heap.size ≤ z3) := by rw [ez3]; exact AB.out
  clear AB
  rw [← ez3] at A0 D0 ⊢
  clear ez3
  have Hz3 := A0
  clear A0
  replace Hz1 := A1
  clear A1
  replace hM := L0
  clear L0
  replace hV := L1
  clear L1
  replace hE := AE
  clear AE
  have Dz3_0 := D0
  clear D0
  have A0 := hideit (row1_new x4 (.slice o l k) 22)
  have XB : Ext x4 (x4.alloc (.cells #[.slice o l k] 22)) := (Below.refl _ _).alloc (Nat.le_refl _) _
  have A1 := hideit (Hz1.out.carry XB)
  have A2 := hideit (Hz3.out.carry XB)
  have L0 := hideit (hM.out.ext XB)
  have L1 := hideit (hV.out.ext XB)
  have AE := hideit (Ext.trans hE.out (XB))
  have AB := hideit (hE.out.size)
  have D0 : Hid (z1 ≠ x4.heap.size) := Nat.ne_of_lt Hz1.out.2.2
  have D1 : Hid (z3 ≠ x4.heap.size) := Nat.ne_of_lt Hz3.out.2.2
  clear XB
  refine wpList_to rfl (.pointer (some ⟨x4.heap.size, 0, none⟩)) (x4.alloc (.cells #[.slice o l k] 22)) (by simp [go_sem]) ?_
  simp only [Act.put, List.setIfInBounds_toArray, List.set_cons_zero, List.set_cons_succ]
  generalize x4.alloc (.cells #[.slice o l k] 22) = x6 at A0 A1 A2 L0 L1 AE ⊢
  obtain ⟨z5, ez5⟩ : ∃ b, b = x4.heap.size := ⟨_, rfl⟩
  have ABz5 : Hid (w.heap.size ≤ z5) := by rw [ez5]; exact AB.out
  clear AB
  rw [← ez5] at A0 D0 D1 ⊢
  clear ez5
  have Hz5 := A0
  clear A0
  replace Hz1 := A1
  clear A1
  replace Hz3 := A2
  clear A2
  replace hM := L0
  clear L0
  replace hV := L1
  clear L1
  replace hE := AE
  clear AE
  have Dz5_0 := D0
  clear D0
  have Dz5_1 := D1
  clear D1
  refine xm [some (.int .i64 0)] (by kernel_rfl) (by simp [xr, go_sem]) ?_
  simp only [xw, p0, p1, p2, p3]
  go_upto_region 1 with (fail)
  refine wp_region_lit ?_
  have m7 : x6.cell? ⟨z1, 0, none⟩ = some (.pointer (some ⟨p, 0, none⟩)) := Hz1.out.1 0 (by decide)
  refine xm [some (.pointer (some ⟨p, 0, none⟩)), some (.func (.func 39) #[] #[.pointer (some ⟨z5, 0, none⟩)]), some (.pointer (some ⟨p, 0, none⟩)), some (.func (.func 40) #[.pointer (some ⟨p, 0, none⟩)] #[]), some (.func (.func 41) #[] #[.pointer (some ⟨z1, 0, none⟩), .pointer (some ⟨z3, 0, none⟩)]), some (.func (.func 43) #[] #[.pointer (some ⟨z1, 0, none⟩), .pointer (some ⟨z3, 0, none⟩)]), some (.func (.func 44) #[] #[.pointer (some ⟨z5, 0, none⟩), .pointer (some ⟨z1, 0, none⟩), .pointer (some ⟨z3, 0, none⟩)]), some (.pointer (some ⟨p, 0, none⟩)), some (.func (.func 38) #[.pointer (some ⟨p, 0, none⟩)] #[])] (by kernel_rfl) (by simp [xr, go_sem, m7]) ?_
  simp only [xw, p0, p1, p2, p3]
  clear m7
  have A0 := hideit (RowAt.newOf x6 6 (fnV (fun i => [39, 40, 41, 43, 44, 38].getD i 0) (fun i => [#[], #[.pointer (some ⟨p, 0, none⟩)], #[], #[], #[], #[.pointer (some ⟨p, 0, none⟩)]].getD i #[]) (fun i => [#[.pointer (some ⟨z5, 0, none⟩)], #[], #[.pointer (some ⟨z1, 0, none⟩), .pointer (some ⟨z3, 0, none⟩)], #[.pointer (some ⟨z1, 0, none⟩), .pointer (some ⟨z3, 0, none⟩)], #[.pointer (some ⟨z5, 0, none⟩), .pointer (some ⟨z1, 0, none⟩), .pointer (some ⟨z3, 0, none⟩)], #[]].getD i #[])) 47 #[.func (.func 39) #[] #[.pointer (some ⟨z5, 0, none⟩)], .func (.func 40) #[.pointer (some ⟨p, 0, none⟩)] #[], .func (.func 41) #[] #[.pointer (some ⟨z1, 0, none⟩), .pointer (some ⟨z3, 0, none⟩)], .func (.func 43) #[] #[.pointer (some ⟨z1, 0, none⟩), .pointer (some ⟨z3, 0, none⟩)], .func (.func 44) #[] #[.pointer (some ⟨z5, 0, none⟩), .pointer (some ⟨z1, 0, none⟩), .pointer (some ⟨z3, 0, none⟩)], .func (.func 38) #[.pointer (some ⟨p, 0, none⟩)] #[]] (fun j hj => by rcases (by omega : j = 0 ∨ j = 1 ∨ j = 2 ∨ j = 3 ∨ j = 4 ∨ j = 5) with rfl | rfl | rfl | rfl | rfl | rfl <;> rfl))
  have XB : Ext x6 (x6.alloc (.cells #[.func (.func 39) #[] #[.pointer (some ⟨z5, 0, none⟩)], .func (.func 40) #[.pointer (some ⟨p, 0, none⟩)] #[], .func (.func 41) #[] #[.pointer (some ⟨z1, 0, none⟩), .pointer (some ⟨z3, 0, none⟩)], .func (.func 43) #[] #[.pointer (some ⟨z1, 0, none⟩), .pointer (some ⟨z3, 0, none⟩)], .func (.func 44) #[] #[.pointer (some ⟨z5, 0, none⟩), .pointer (some ⟨z1, 0, none⟩), .pointer (some ⟨z3, 0, none⟩)], .func (.func 38) #[.pointer (some ⟨p, 0, none⟩)] #[]] 47)) := (Below.refl _ _).alloc (Nat.le_refl _) _
  have A1 := hideit (Hz1.out.carry XB)
  have A2 := hideit (Hz3.out.carry XB)
  have A3 := hideit (Hz5.out.carry XB)
  have L0 := hideit (hM.out.ext XB)
  have L1 := hideit (hV.out.ext XB)
  have AE := hideit (Ext.trans hE.out (XB))
  have AB := hideit (hE.out.size)
  have D0 : Hid (z1 ≠ x6.heap.size) := Nat.ne_of_lt Hz1.out.2.2
  have D1 : Hid (z3 ≠ x6.heap.size) := Nat.ne_of_lt Hz3.out.2.2
  have D2 : Hid (z5 ≠ x6.heap.size) := Nat.ne_of_lt Hz5.out.2.2
  clear XB
  refine wpList_to rfl (.slice (some ⟨x6.heap.size, 0, none⟩) 6 6) (x6.alloc (.cells #[.func (.func 39) #[] #[.pointer (some ⟨z5, 0, none⟩)], .func (.func 40) #[.pointer (some ⟨p, 0, none⟩)] #[], .func (.func 41) #[] #[.pointer (some ⟨z1, 0, none⟩), .pointer (some ⟨z3, 0, none⟩)], .func (.func 43) #[] #[.pointer (some ⟨z1, 0, none⟩), .pointer (some ⟨z3, 0, none⟩)], .func (.func 44) #[] #[.pointer (some ⟨z5, 0, none⟩), .pointer (some ⟨z1, 0, none⟩), .pointer (some ⟨z3, 0, none⟩)], .func (.func 38) #[.pointer (some ⟨p, 0, none⟩)] #[]] 47)) (by simp [go_sem]) ?_
  simp only [Act.put, List.setIfInBounds_toArray, List.set_cons_zero, List.set_cons_succ]
  generalize x6.alloc (.cells #[.func (.func 39) #[] #[.pointer (some ⟨z5, 0, none⟩)], .func (.func 40) #[.pointer (some ⟨p, 0, none⟩)] #[], .func (.func 41) #[] #[.pointer (some ⟨z1, 0, none⟩), .pointer (some ⟨z3, 0, none⟩)], .func (.func 43) #[] #[.pointer (some ⟨z1, 0, none⟩), .pointer (some ⟨z3, 0, none⟩)], .func (.func 44) #[] #[.pointer (some ⟨z5, 0, none⟩), .pointer (some ⟨z1, 0, none⟩), .pointer (some ⟨z3, 0, none⟩)], .func (.func 38) #[.pointer (some ⟨p, 0, none⟩)] #[]] 47) = x11 at A0 A1 A2 A3 L0 L1 AE ⊢
  obtain ⟨z10, ez10⟩ : ∃ b, b = x6.heap.size := ⟨_, rfl⟩
  have ABz10 : Hid (w.heap.size ≤ z10) := by rw [ez10]; exact AB.out
  clear AB
  rw [← ez10] at A0 D0 D1 D2 ⊢
  clear ez10
  have Hz10 := A0
  clear A0
  replace Hz1 := A1
  clear A1
  replace Hz3 := A2
  clear A2
  replace Hz5 := A3
  clear A3
  replace hM := L0
  clear L0
  replace hV := L1
  clear L1
  replace hE := AE
  clear AE
  have Dz10_0 := D0
  clear D0
  have Dz10_1 := D1
  clear D1
  have Dz10_2 := D2
  clear D2
  have nF : ¬ F z10 := fun e => by have := hlt.out z10 e; have := ABz10.out; omega
  have kd := hideit (add_doP h S P ep r sl hM.out z1 z3 z5 z10 n o l k f Hz1.out Hz3.out Hz5.out hV.out Hz10.out nF hok.out hC.out E s' hEs.out)
  refine wpList_call rfl (by simp [go_sem]) ((kd.out).mono ?_)
  rintro e y9 ⟨rfl, hM9, hK9⟩
  refine ⟨_, rfl, ?_⟩
  simp only [Act.put, List.setIfInBounds_toArray, List.set_cons_zero, List.set_cons_succ]
  replace hM9 := hideit hM9
  replace hK9 := hideit ((Keeps.of_ext hE.out).trans hK9 fun i hi => .inl hi)
  clear kd hM nF
  refine xm [some (.int .i64 (E))] (by kernel_rfl) (by simp [xr, go_sem]) ?_
  simp only [xw, p0, p1, p2, p3]
  go_wp2
  go_ret
  exact ⟨rfl, hM9.out, hK9.out⟩
set_option maxRecDepth 20000 in
set_option maxHeartbeats 4000000 in
theorem write_doP {F : Nat → Prop} {p C : Nat} {M : MLoc} {x : World} (h : Hd) (S : Int → Option (Nat → BitVec 8)) (P : Int → Option (Nat × (Nat → BitVec 8))) (ep : Int) (r : Rt) (sl : Int) (hM : MdM F p ⟨h, S, P, ep, r, true, sl⟩ C M x) (bm bn bb bs : Nat) (n : Int) (o : Option Addr) (l k : Nat) (f : Nat → BitVec 8)
    (hm : RowAt bm 1 (fun _ => .pointer (some ⟨p, 0, none⟩)) x) (hn : RowAt bn 1 (fun _ => .int .i64 n) x) (hb : RowAt bb 1 (fun _ => .slice o l k) x) (hV : PV (.slice o l k) l f x) (hB : RowAt bs 4 (fnV (fun i => [34, 35, 37, 38].getD i 0) (fun i => [#[], #[], #[], #[.pointer (some ⟨p, 0, none⟩)]].getD i #[]) (fun i => [#[.pointer (some ⟨bm, 0, none⟩), .pointer (some ⟨bn, 0, none⟩)], #[.pointer (some ⟨bb, 0, none⟩)], #[.pointer (some ⟨bb, 0, none⟩), .pointer (some ⟨bm, 0, none⟩), .pointer (some ⟨bn, 0, none⟩)], #[]].getD i #[])) x) (nF : ¬ F bs) (hok : okI n) (hC : C < maxLen) (E : Int) (s' : MSt) (hEs : E = wrE ⟨h, S, P, ep, r, true, sl⟩ n l ∧ s' = (if wrE ⟨h, S, P, ep, r, true, sl⟩ n l = 0 then wrS ⟨h, S, P, ep, r, true, sl⟩ n f else ⟨h, S, P, ep, r, true, sl⟩)) :
    Calls Try.prog 33 #[.pointer (some ⟨p, 0, none⟩), .slice (some ⟨bs, 0, none⟩) 4 4] x fun e w' => e = .returned (.int .i64 E) ∧ MdM F p s' (C + 1) M w' ∧ Keeps F x w' := by
  obtain ⟨rfl, rfl⟩ := hEs
  have hS := hM.st
  have hw1 := w1_any h M.sb M.pb ep r true sl p bm bn n x hS hm hn
  unfold wrE
  by_cases hr : 0 ≤ n ∧ n < h.se
  · rw [if_pos hr] at hw1
    rw [if_pos hr]
    by_cases hl : l = 512
    · rw [if_pos hl, if_pos rfl]
      subst hl
      obtain ⟨a, rfl⟩ : ∃ a, o = some a := by
        rcases hV with ⟨_, h0⟩ | ⟨a, c, h1, _⟩
        · omega
        · injection h1 with h1; exact ⟨a, h1⟩
      have hS2 : ∀ W, Keeps (fun i => i = M.sb) x W → RowAt p 64 (mdV h M.sb M.pb ep r true sl) W := fun W hK => hS.keep hK hM.ps
      refine (do_pass h M.sb M.pb ep r sl p bs 4 2 (fun i => [34, 35, 37, 38].getD i 0) (fun i => [#[], #[], #[], #[.pointer (some ⟨p, 0, none⟩)]].getD i #[]) (fun i => [#[.pointer (some ⟨bm, 0, none⟩), .pointer (some ⟨bn, 0, none⟩)], #[.pointer (some ⟨bb, 0, none⟩)], #[.pointer (some ⟨bb, 0, none⟩), .pointer (some ⟨bm, 0, none⟩), .pointer (some ⟨bn, 0, none⟩)], #[]].getD i #[]) x hS (by decide) hB rfl (fun W => MapAt Try.prog 3 M.sb (C + 1) (mset (fun x => (S x).map secV) n (some (secV f))) W ∧ Keeps (fun i => i = M.sb) x W)
        (fun W => (MapAt Try.prog 3 M.sb (C + 1) (mset (fun x => (S x).map secV) n (some (secV f))) W ∧ Keeps (fun i => i = M.sb ∨ i = p) x W) ∧ RowAt p 64 (mdV h M.sb M.pb ep { r with ct := r.ct + 1#64 } true sl) W)
        (fun W hW => hB.keep hW.2 fun e => nF (by rw [e]; exact hM.fs)) (fun W hW => hB.keep hW.1.2 fun e => nF (by rcases e with e | e <;> rw [e]; exact hM.fs; exact hM.fp))
        (fun i hi args X => by rcases (by omega : i = 0 ∨ i = 1 ∨ i = 2 ∨ i = 3) with rfl | rfl | rfl | rfl <;> simp [go_sem]) (fun i hi => ?_) ?_ (fun W hW => ?_)).mono ?_
      · rcases (by omega : i = 0 ∨ i = 1) with rfl | rfl
        · exact hw1
        · exact w2_ok bb (some a) 512 k x hb rfl
      · exact (w3_any h M.sb M.pb ep r true sl p bm bn bb C _ n a k f x hS hm hn hb (hV.bv (by decide)) hM.mpS hok hC).mono fun e w' ⟨q1, q2, q3⟩ => ⟨q1, q2, q3⟩
      · exact (count_any h M.sb M.pb ep r true sl p W (hS2 W hW.2)).mono fun e w' ⟨q1, q2, q3⟩ => ⟨q1, ⟨hW.1.keep q2 fun e => hM.ps e.symm, (hW.2.mono fun i hi => .inl hi).trans q2 fun i hi => .inl (.inr hi)⟩, q3⟩
      · rintro e w' ⟨q1, ⟨q2, q3⟩, q4⟩
        refine ⟨q1, hM.step q3 (fun i hi => by rcases hi with rfl | rfl; exact hM.fs; exact hM.fp) (wrS ⟨h, S, P, ep, r, true, sl⟩ n f) rfl rfl hM.eps q4 (q2.congr fun x hx => ?_) (Nat.le_succ C) (fun x hx => ?_) (fun e => by rcases e with e | e; exact hM.sm e.symm; exact hM.pm e.symm), q3.mono fun i hi => by rcases hi with rfl | rfl; exact hM.fs; exact hM.fp⟩
        · show (if x = n then _ else _) = Option.map secV (if x = n then _ else _)
          by_cases e : x = n
          · rw [if_pos e, if_pos e]; rfl
          · rw [if_neg e, if_neg e]
        · have hx : (if x = n then some f else S x) ≠ none := hx
          by_cases e : x = n
          · subst e; exact hr
          · rw [if_neg e] at hx; exact hM.kS x hx
    · rw [if_neg hl, if_neg (show ¬ (101 : Int) = 0 by decide)]
      refine (do_refuse h M.sb M.pb ep r sl p bs 4 1 101 (fun i => [34, 35, 37, 38].getD i 0) (fun i => [#[], #[], #[], #[.pointer (some ⟨p, 0, none⟩)]].getD i #[]) (fun i => [#[.pointer (some ⟨bm, 0, none⟩), .pointer (some ⟨bn, 0, none⟩)], #[.pointer (some ⟨bb, 0, none⟩)], #[.pointer (some ⟨bb, 0, none⟩), .pointer (some ⟨bm, 0, none⟩), .pointer (some ⟨bn, 0, none⟩)], #[]].getD i #[]) x hS (by decide) hB (by decide) (by decide) (fun i hi args X => by rcases (by omega : i = 0 ∨ i = 1 ∨ i = 2 ∨ i = 3) with rfl | rfl | rfl | rfl <;> simp [go_sem]) (fun i hi => ?_) ?_).mono ?_
      · obtain rfl : i = 0 := by omega
        exact hw1
      · exact w2_no bb o l k x hb hl
      · rintro e w' ⟨q1, rfl⟩
        exact ⟨q1, hM.mono (Nat.le_succ C), Keeps.refl _ _⟩
  · rw [if_neg hr] at hw1
    rw [if_neg hr, if_neg (show ¬ (100 : Int) = 0 by decide)]
    refine (do_refuse h M.sb M.pb ep r sl p bs 4 0 100 (fun i => [34, 35, 37, 38].getD i 0) (fun i => [#[], #[], #[], #[.pointer (some ⟨p, 0, none⟩)]].getD i #[]) (fun i => [#[.pointer (some ⟨bm, 0, none⟩), .pointer (some ⟨bn, 0, none⟩)], #[.pointer (some ⟨bb, 0, none⟩)], #[.pointer (some ⟨bb, 0, none⟩), .pointer (some ⟨bm, 0, none⟩), .pointer (some ⟨bn, 0, none⟩)], #[]].getD i #[]) x hS (by decide) hB (by decide) (by decide) (fun i hi args X => by rcases (by omega : i = 0 ∨ i = 1 ∨ i = 2 ∨ i = 3) with rfl | rfl | rfl | rfl <;> simp [go_sem]) (fun i hi => absurd hi (Nat.not_lt_zero _)) ?_).mono ?_
    · exact hw1
    rintro e w' ⟨q1, rfl⟩
    exact ⟨q1, hM.mono (Nat.le_succ C), Keeps.refl _ _⟩
set_option maxRecDepth 20000 in
set_option maxHeartbeats 4000000 in
theorem write_openP {F : Nat → Prop} {p C : Nat} {M : MLoc} {w : World} (h : Hd) (S : Int → Option (Nat → BitVec 8)) (P : Int → Option (Nat × (Nat → BitVec 8))) (ep : Int) (r : Rt) (sl : Int) (hM : MdM F p ⟨h, S, P, ep, r, true, sl⟩ C M w) (n : Int) (o : Option Addr) (l k : Nat) (f : Nat → BitVec 8) (hV : PV (.slice o l k) l f w) (hok : okI n) (hC : C < maxLen) (E : Int) (s' : MSt) (hEs : E = wrE ⟨h, S, P, ep, r, true, sl⟩ n l ∧ s' = if wrE ⟨h, S, P, ep, r, true, sl⟩ n l = 0 then wrS ⟨h, S, P, ep, r, true, sl⟩ n f else ⟨h, S, P, ep, r, true, sl⟩) :
    Calls Try.prog 11 #[.pointer (some ⟨p, 0, none⟩), .int .i64 n, .slice o l k] w fun e w' => e = .returned (.int .i64 E) ∧ MdM F p s' (C + 1) M w' ∧ Keeps F w w' := by
  have hlt := hideit hM.lt
  replace hM := hideit hM
  replace hV := hideit hV
  replace hok := hideit hok
  replace hC := hideit hC
  replace hEs := hideit hEs
  have hE := hideit (Ext.refl w)
  go_enter Try.func11, Try.ntmps11
  go_upto_region 0 with (fail)
  refine wp_region_lit ?_
  have A0 := hideit (row1_new w (.pointer (some ⟨p, 0, none⟩)) 26)
  have XB : Ext w (w.alloc (.cells #[.pointer (some ⟨p, 0, none⟩)] 26)) := (Below.refl _ _).alloc (Nat.le_refl _) _
  have L0 := hideit (hM.out.ext XB)
  have L1 := hideit (hV.out.ext XB)
  have AE := hideit (Ext.trans hE.out (XB))
  have AB := hideit (hE.out.size)
  clear XB
  refine wpList_to rfl (.pointer (some ⟨w.heap.size, 0, none⟩)) (w.alloc (.cells #[.pointer (some ⟨p, 0, none⟩)] 26)) (by simp [go_sem]) ?_
  simp only [Act.put, List.setIfInBounds_toArray, List.set_cons_zero, List.set_cons_succ]
  generalize w.alloc (.cells #[.pointer (some ⟨p, 0, none⟩)] 26) = x2 at A0 L0 L1 AE ⊢
  obtain ⟨z1, ez1⟩ : ∃ b, b = w.heap.size := ⟨_, rfl⟩
  have ABz1 : Hid (w.heap.size ≤ z1) := by rw [ez1]; exact AB.out
  clear AB
  rw [← ez1] at A0  ⊢
  clear ez1
  have Hz1 := A0
  clear A0
  replace hM := L0
  clear L0
  replace hV := L1
  clear L1
  replace hE := AE
  clear AE
  have A0 := hideit (row1_new x2 (.int .i64 (n)) 3)
  have XB : Ext x2 (x2.alloc (.cells #[.int .i64 (n)] 3)) := (Below.refl _ _).alloc (Nat.le_refl _) _
  have A1 := hideit (Hz1.out.carry XB)
  have L0 := hideit (hM.out.ext XB)
  have L1 := hideit (hV.out.ext XB)
  have AE := hideit (Ext.trans hE.out (XB))
  have AB := hideit (hE.out.size)
  have D0 : Hid (z1 ≠ x2.heap.size) := Nat.ne_of_lt Hz1.out.2.2
  clear XB
  refine wpList_to rfl (.pointer (some ⟨x2.heap.size, 0, none⟩)) (x2.alloc (.cells #[.int .i64 (n)] 3)) (by simp [go_sem]) ?_
  simp only [Act.put, List.setIfInBounds_toArray, List.set_cons_zero, List.set_cons_succ]
  generalize x2.alloc (.cells #[.int .i64 (n)] 3) = x4 at A0 A1 L0 L1 AE ⊢
  obtain ⟨z3, ez3⟩ : ∃ b, b = x2.heap.size := ⟨_, rfl⟩
  have ABz3 : Hid (w.heap.size ≤ z3) := by rw [ez3]; exact AB.out
  clear AB
  rw [← ez3] at A0 D0 ⊢
  clear ez3
  have Hz3 := A0
  clear A0
  replace Hz1 := A1
  clear A1
  replace hM := L0
  clear L0
  replace hV := L1
  clear L1
  replace hE := AE
  clear AE
  have Dz3_0 := D0
  clear D0
  have A0 := hideit (row1_new x4 (.slice o l k) 22)
  have XB : Ext x4 (x4.alloc (.cells #[.slice o l k] 22)) := (Below.refl _ _).alloc (Nat.le_refl _) _
  have A1 := hideit (Hz1.out.carry XB)
  have A2 := hideit (Hz3.out.carry XB)
  have L0 := hideit (hM.out.ext XB)
  have L1 := hideit (hV.out.ext XB)
  have AE := hideit (Ext.trans hE.out (XB))
  have AB := hideit (hE.out.size)
  have D0 : Hid (z1 ≠ x4.heap.size) := Nat.ne_of_lt Hz1.out.2.2
  have D1 : Hid (z3 ≠ x4.heap.size) := Nat.ne_of_lt Hz3.out.2.2
  clear XB
  refine wpList_to rfl (.pointer (some ⟨x4.heap.size, 0, none⟩)) (x4.alloc (.cells #[.slice o l k] 22)) (by simp [go_sem]) ?_
  simp only [Act.put, List.setIfInBounds_toArray, List.set_cons_zero, List.set_cons_succ]
  generalize x4.alloc (.cells #[.slice o l k] 22) = x6 at A0 A1 A2 L0 L1 AE ⊢
  obtain ⟨z5, ez5⟩ : ∃ b, b = x4.heap.size := ⟨_, rfl⟩
  have ABz5 : Hid (w.heap.size ≤ z5) := by rw [ez5]; exact AB.out
  clear AB
  rw [← ez5] at A0 D0 D1 ⊢
  clear ez5
  have Hz5 := A0
  clear A0
  replace Hz1 := A1
  clear A1
  replace Hz3 := A2
  clear A2
  replace hM := L0
  clear L0
  replace hV := L1
  clear L1
  replace hE := AE
  clear AE
  have Dz5_0 := D0
  clear D0
  have Dz5_1 := D1
  clear D1
  refine xm [some (.int .i64 0)] (by kernel_rfl) (by simp [xr, go_sem]) ?_
  simp only [xw, p0, p1, p2, p3]
  go_upto_region 1 with (fail)
  refine wp_region_lit ?_
  have m7 : x6.cell? ⟨z1, 0, none⟩ = some (.pointer (some ⟨p, 0, none⟩)) := Hz1.out.1 0 (by decide)
  refine xm [some (.pointer (some ⟨p, 0, none⟩)), some (.func (.func 34) #[] #[.pointer (some ⟨z1, 0, none⟩), .pointer (some ⟨z3, 0, none⟩)]), some (.func (.func 35) #[] #[.pointer (some ⟨z5, 0, none⟩)]), some (.func (.func 37) #[] #[.pointer (some ⟨z5, 0, none⟩), .pointer (some ⟨z1, 0, none⟩), .pointer (some ⟨z3, 0, none⟩)]), some (.pointer (some ⟨p, 0, none⟩)), some (.func (.func 38) #[.pointer (some ⟨p, 0, none⟩)] #[])] (by kernel_rfl) (by simp [xr, go_sem, m7]) ?_
  simp only [xw, p0, p1, p2, p3]
  clear m7
  have A0 := hideit (RowAt.newOf x6 4 (fnV (fun i => [34, 35, 37, 38].getD i 0) (fun i => [#[], #[], #[], #[.pointer (some ⟨p, 0, none⟩)]].getD i #[]) (fun i => [#[.pointer (some ⟨z1, 0, none⟩), .pointer (some ⟨z3, 0, none⟩)], #[.pointer (some ⟨z5, 0, none⟩)], #[.pointer (some ⟨z5, 0, none⟩), .pointer (some ⟨z1, 0, none⟩), .pointer (some ⟨z3, 0, none⟩)], #[]].getD i #[])) 47 #[.func (.func 34) #[] #[.pointer (some ⟨z1, 0, none⟩), .pointer (some ⟨z3, 0, none⟩)], .func (.func 35) #[] #[.pointer (some ⟨z5, 0, none⟩)], .func (.func 37) #[] #[.pointer (some ⟨z5, 0, none⟩), .pointer (some ⟨z1, 0, none⟩), .pointer (some ⟨z3, 0, none⟩)], .func (.func 38) #[.pointer (some ⟨p, 0, none⟩)] #[]] (fun j hj => by rcases (by omega : j = 0 ∨ j = 1 ∨ j = 2 ∨ j = 3) with rfl | rfl | rfl | rfl <;> rfl))
  have XB : Ext x6 (x6.alloc (.cells #[.func (.func 34) #[] #[.pointer (some ⟨z1, 0, none⟩), .pointer (some ⟨z3, 0, none⟩)], .func (.func 35) #[] #[.pointer (some ⟨z5, 0, none⟩)], .func (.func 37) #[] #[.pointer (some ⟨z5, 0, none⟩), .pointer (some ⟨z1, 0, none⟩), .pointer (some ⟨z3, 0, none⟩)], .func (.func 38) #[.pointer (some ⟨p, 0, none⟩)] #[]] 47)) := (Below.refl _ _).alloc (Nat.le_refl _) _
  have A1 := hideit (Hz1.out.carry XB)
  have A2 := hideit (Hz3.out.carry XB)
  have A3 := hideit (Hz5.out.carry XB)
  have L0 := hideit (hM.out.ext XB)
  have L1 := hideit (hV.out.ext XB)
  have AE := hideit (Ext.trans hE.out (XB))
  have AB := hideit (hE.out.size)
  have D0 : Hid (z1 ≠ x6.heap.size) := Nat.ne_of_lt Hz1.out.2.2
  have D1 : Hid (z3 ≠ x6.heap.size) := Nat.ne_of_lt Hz3.out.2.2
  have D2 : Hid (z5 ≠ x6.heap.size) := Nat.ne_of_lt Hz5.out.2.2
  clear XB
  refine wpList_to rfl (.slice (some ⟨x6.heap.size, 0, none⟩) 4 4) (x6.alloc (.cells #[.func (.func 34) #[] #[.pointer (some ⟨z1, 0, none⟩), .pointer (some ⟨z3, 0, none⟩)], .func (.func 35) #[] #[.pointer (some ⟨z5, 0, none⟩)], .func (.func 37) #[] #[.pointer (some ⟨z5, 0, none⟩), .pointer (some ⟨z1, 0, none⟩), .pointer (some ⟨z3, 0, none⟩)], .func (.func 38) #[.pointer (some ⟨p, 0, none⟩)] #[]] 47)) (by simp [go_sem]) ?_
  simp only [Act.put, List.setIfInBounds_toArray, List.set_cons_zero, List.set_cons_succ]
  generalize x6.alloc (.cells #[.func (.func 34) #[] #[.pointer (some ⟨z1, 0, none⟩), .pointer (some ⟨z3, 0, none⟩)], .func (.func 35) #[] #[.pointer (some ⟨z5, 0, none⟩)], .func (.func 37) #[] #[.pointer (some ⟨z5, 0, none⟩), .pointer (some ⟨z1, 0, none⟩), .pointer (some ⟨z3, 0, none⟩)], .func (.func 38) #[.pointer (some ⟨p, 0, none⟩)] #[]] 47) = x10 at A0 A1 A2 A3 L0 L1 AE ⊢
  obtain ⟨z9, ez9⟩ : ∃ b, b = x6.heap.size := ⟨_, rfl⟩
  have ABz9 : Hid (w.heap.size ≤ z9) := by rw [ez9]; exact AB.out
  clear AB
  rw [← ez9] at A0 D0 D1 D2 ⊢
  clear ez9
  have Hz9 := A0
  clear A0
  replace Hz1 := A1
  clear A1
  replace Hz3 := A2
  clear A2
  replace Hz5 := A3
  clear A3
  replace hM := L0
  clear L0
  replace hV := L1
  clear L1
  replace hE := AE
  clear AE
  have Dz9_0 := D0
  clear D0
  have Dz9_1 := D1
  clear D1
  have Dz9_2 := D2
  clear D2
  have nF : ¬ F z9 := fun e => by have := hlt.out z9 e; have := ABz9.out; omega
  have kd := hideit (write_doP h S P ep r sl hM.out z1 z3 z5 z9 n o l k f Hz1.out Hz3.out Hz5.out hV.out Hz9.out nF hok.out hC.out E s' hEs.out)
  refine wpList_call rfl (by simp [go_sem]) ((kd.out).mono ?_)
  rintro e y9 ⟨rfl, hM9, hK9⟩
  refine ⟨_, rfl, ?_⟩
  simp only [Act.put, List.setIfInBounds_toArray, List.set_cons_zero, List.set_cons_succ]
  replace hM9 := hideit hM9
  replace hK9 := hideit ((Keeps.of_ext hE.out).trans hK9 fun i hi => .inl hi)
  clear kd hM nF
  refine xm [some (.int .i64 (E))] (by kernel_rfl) (by simp [xr, go_sem]) ?_
  simp only [xw, p0, p1, p2, p3]
  go_wp2
  go_ret
  exact ⟨rfl, hM9.out, hK9.out⟩
set_option maxRecDepth 20000 in
set_option maxHeartbeats 4000000 in
theorem block_zero (o : Option Addr) (l k : Nat) (f : Nat → BitVec 8) (w : World) (hl : l = 0) : Calls Try.prog 21 #[.slice o l k] w fun e w' => ∃ z, e = .returned (.slice (some ⟨z, 0, none⟩) 512 512) ∧ w.heap.size ≤ z ∧ RowAt z 512 (yv (blkF l f)) w' ∧ Ext w w' := by
  replace hl := hideit hl
  have hE := hideit (Ext.refl w)
  go_enter Try.func21, Try.ntmps21
  go_upto_region 1 with (fail)
  refine wp_region_lit ?_
  refine wpList_made w Try.underlying22 (by kernel_rfl) rfl _ _ rfl 512 rfl rfl (by decide) ?_
  intro x1 hO1 hX1
  have Hz := hideit ((own_row512 hO1).congr (g' := yv (blkP l f 0)) fun j hj => by unfold yv blkP; rw [if_neg (by omega)])
  replace hE := hideit (Ext.trans hE.out hX1)
  simp only [Act.put, List.setIfInBounds_toArray, List.set_cons_zero, List.set_cons_succ]
  clear hO1 hX1
  obtain ⟨z, ez⟩ : ∃ b, b = w.heap.size := ⟨_, rfl⟩
  have ABz : Hid (w.heap.size ≤ z) := by rw [ez]; exact Nat.le_refl _
  rw [← ez] at Hz ⊢
  clear ez
  refine xm [some (.slice (some ⟨z, 0, none⟩) 512 512)] (by kernel_rfl) (by simp [xr, go_sem]) ?_
  simp only [xw, p0, p1, p2, p3]
  go_wp2
  go_loopw [4] (fun t X => t = .int .i64 0 ∧ RowAt z 512 (yv (blkP l f 0)) X ∧ Ext w X) (fun t _ => 0)
  case atStart => exact ⟨rfl, Hz.out, hE.out⟩
  case round =>
    obtain ⟨rfl, r0, rE⟩ := hrel
    clear Hz hE
    replace rE := hideit rE
    have r9 := hideit (r0.congr (g' := yv (blkF l f)) fun j hj => by have := hl.out; unfold yv blkP blkF; rw [if_pos this]; split <;> rfl)
    have hl0 : Hid (¬ 0 < l) := by have := hl.out; show ¬ 0 < l; omega
    clear r0 hl
    go_upto_region 3 with (fail)
    refine wp_region_lit ?_
    refine xm [some (.int .i64 (0)), some (.bool true), some (.bool true), some (.slice o l k), some (.int .i64 (l : Int)), some (.bool false), some (.bool false)] (by kernel_rfl) (by simp [xr, go_sem, hl0.out]) ?_
    simp only [xw, p0, p1, p2, p3]
    go_upto_region 6 with (fail)
    refine wp_region_lit ?_
    refine xm [some (.slice (some ⟨z, 0, none⟩) 512 512), some (.slice (some ⟨z, 0, none⟩) 512 512)] (by kernel_rfl) (by simp [xr, go_sem]) ?_
    simp only [xw, p0, p1, p2, p3]
    go_wp2
    go_ret
    exact ⟨z, rfl, ABz.out, r9.out, rE.out⟩
theorem block_pv (o : Option Addr) (l k : Nat) (f : Nat → BitVec 8) (w : World) (hV : PV (.slice o l k) l f w) (hl : l ≤ 140737488355328) : Calls Try.prog 21 #[.slice o l k] w fun e w' => ∃ z, e = .returned (.slice (some ⟨z, 0, none⟩) 512 512) ∧ w.heap.size ≤ z ∧ RowAt z 512 (yv (blkF l f)) w' ∧ Ext w w' := by
  by_cases h0 : l = 0
  · exact block_zero o l k f w h0
  · exact block_any o l k f w (hV.bv (by omega)) hl
end Go.Proofs.Ytcipkfalnjgghaa
