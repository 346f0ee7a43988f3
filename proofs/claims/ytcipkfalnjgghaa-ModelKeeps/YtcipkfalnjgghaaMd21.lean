/-
  Md20, Md21 in one.
-/
import Derived.Test.YtcipkfalnjgghaaMd19
import Derived.Lib.SlKeysI
namespace Go.Proofs.Ytcipkfalnjgghaa
open Go.RowKit Go.BigFrame Go.Maps
set_option linter.unusedVariables false
theorem exec_lenM {P : Program} {o : Oper} {a : Act} {w : World} {t : TypeId} {v u : Value} (x : Operand) (ho : o.op = .call { callee := .builtin .len, args := #[x], argTypes := #[t] }) (hx : a.eval x = v) (hr : (Builtin.len_ #[t] o.type #[v]).run P w = .ok u w) : (execOp a.eval o).run P w = .ok (.value u) w := by
  generalize a.eval = ρ at hx ⊢
  simp [execOp, ho, resolve, invoke, builtin, hx, hr, Result.andThen]
theorem exec_delM {P : Program} {o : Oper} {a : Act} {w w' : World} {t k : TypeId} {v u : Value} (x y : Operand) (ho : o.op = .call { callee := .builtin .delete, args := #[x, y], argTypes := #[t, k] }) (hx : a.eval x = v) (hy : a.eval y = u) (hr : (Builtin.delete_ #[t, k] o.type #[v, u]).run P w = .ok (.tuple #[]) w') : (execOp a.eval o).run P w = .ok (.value (.tuple #[])) w' := by
  generalize a.eval = ρ at hx hy ⊢
  simp [execOp, ho, resolve, invoke, builtin, hx, hy, hr, Result.andThen]
/-- is slot n the only one? -/
def lastS (s : MSt) (n : Int) : Prop := ∀ x, s.P x ≠ none → x = n
theorem size_one {b C : Nat} {m : Int → Option Value} {D : DataW Value} {w : World} (h1 : w.ownsMap Try.prog 3 RV b C D) (h2 : Tells D m) {n : Int} (hn : okI n) (hm : (m n).isSome = true) : Maps.size D = 1 ↔ ∀ x, okI x → (m x).isSome = true → x = n := by
  have K : Keyed Try.prog 3 := int_keyed Try.underlying3
  obtain ⟨es, hD, hpw, _⟩ := h1.entries K
  obtain ⟨es', hD', hko⟩ := h1.keysOf
  obtain rfl : es = es' := by rw [hD] at hD'; simpa using hD'
  subst hD
  have mem : ∀ x, okI x → (m x).isSome = true → ∃ q, q ∈ es ∧ q.1 = .int .i64 x := fun x hx hs => by
    have := (h2 x hx).1
    rw [hs, Maps.has_eq, List.any_eq_true] at this
    obtain ⟨q, hq, he⟩ := this
    exact ⟨q, hq, WideAt.sameKey_eq he⟩
  have key : ∀ q, q ∈ es → ∃ y, q.1 = .int .i64 y ∧ okI y ∧ (m y).isSome = true := fun q hq => by
    obtain ⟨v, hv⟩ := hko q hq
    obtain ⟨y, _, hy, hl⟩ := Maps.keyOf_i64 Try.underlying3 hv
    refine ⟨y, hy, hl, ?_⟩
    rw [← (h2 y hl).1, Maps.has_eq, List.any_eq_true]
    exact ⟨q, hq, by rw [hy]; exact WideAt.sameKey_self (isKeyI _)⟩
  show es.length = 1 ↔ _
  constructor
  · intro hl x hx hs
    obtain ⟨q, hq, e1⟩ := mem x hx hs
    obtain ⟨q', hq', e2⟩ := mem n hn hm
    match es, hl with
    | [q0], _ =>
      have a1 : q = q0 := by simpa using hq
      have a2 : q' = q0 := by simpa using hq'
      rw [a1] at e1
      rw [a2, e1] at e2
      injection e2
  · intro hall
    obtain ⟨q', hq', _⟩ := mem n hn hm
    match es, hpw, hq', key with
    | [q0], _, _, _ => rfl
    | q0 :: q1 :: t, hpw, _, key =>
      obtain ⟨y0, a1, a2, a3⟩ := key q0 (by simp)
      obtain ⟨y1, b1, b2, b3⟩ := key q1 (by simp)
      have := (List.pairwise_cons.1 hpw).1 q1 (by simp)
      rw [a1, b1, hall y0 a2 a3, hall y1 b2 b3] at this
      exact absurd rfl this
theorem last_len {F : Nat → Prop} {p C : Nat} {M : MLoc} {w : World} {s : MSt} (hM : MdM F p s C M w) {n : Int} (hn : okI n) (hp : s.P n ≠ none) : ∃ D, w.ownsMap Try.prog 3 RV M.pb C D ∧ (Maps.size D = 1 ↔ lastS s n) := by
  obtain ⟨D, h1, h2⟩ := hM.mpP
  refine ⟨D, h1, ?_⟩
  have hm : (M.m n).isSome = true := by rw [hM.hasP]; cases e : s.P n with | none => exact absurd e hp | some _ => rfl
  rw [size_one h1 h2 hn hm]
  constructor
  · intro h x hx
    have := hM.kP x hx
    have := hM.okh.1.2.2.1
    exact h x (WalkArith.wf_i64 (by omega)) (by rw [hM.hasP]; cases e : s.P x with | none => exact absurd e hx | some _ => rfl)
  · intro h x _ hs
    refine h x fun e => ?_
    rw [hM.hasP, e] at hs
    cases hs
set_option maxRecDepth 20000 in
set_option maxHeartbeats 4000000 in
theorem v4_last (h : Hd) (sb pb : Nat) (ep : Int) (r : Rt) (op : Bool) (sl : Int) (p bm C q : Nat) (D : DataW Value) (w : World) (hS : RowAt p 64 (mdV h sb pb ep r op sl) w) (hm : RowAt bm 1 (fun _ => .pointer (some ⟨p, 0, none⟩)) w) (hD : w.ownsMap Try.prog 3 RV pb C D) (hsz : Maps.size D = q) (hq : q = 1) : Calls Try.prog 48 #[.pointer (some ⟨bm, 0, none⟩)] w fun e w' => e = .returned (.int .i64 210) ∧ w' = w := by
  have hlen := hideit (hD.len Try.underlying63 3)
  rw [hsz] at hlen
  replace hS := hideit hS
  replace hm := hideit hm
  replace hq := hideit hq
  go_enter Try.func48, Try.ntmps48
  go_upto_region 1 with (fail)
  refine wp_region_lit ?_
  have m1 : w.cell? ⟨bm, 0, none⟩ = some (.pointer (some ⟨p, 0, none⟩)) := hm.out.1 0 (by decide)
  have m2 : w.cell? ⟨p, 25, none⟩ = some (.map (some pb)) := hS.out.1 25 (by decide)
  refine xm [some (.pointer (some ⟨p, 0, none⟩)), some (.pointer (some ⟨p, 0, none⟩)), some (.pointer (some ⟨p, 25, none⟩)), some (.map (some pb))] (by kernel_rfl) (by simp [xr, go_sem, m1, m2]) ?_
  simp only [xw, p0, p1, p2, p3]
  clear m1
  clear m2
  refine wpList_run rfl (.int .i64 (q : Int)) (exec_lenM (.tmp 5) rfl rfl hlen.out) ?_
  simp only [Act.put, List.setIfInBounds_toArray, List.set_cons_zero, List.set_cons_succ]
  refine xm [some (.bool true)] (by kernel_rfl) (by simp [xr, go_sem, hq.out]) ?_
  simp only [xw, p0, p1, p2, p3]
  refine wpList_call rfl (by simp [go_sem]) ((refuse_any true 210 w).mono ?_)
  rintro e yy ⟨rfl, hyy⟩
  refine ⟨_, rfl, ?_⟩
  simp only [Act.put, List.setIfInBounds_toArray, List.set_cons_zero, List.set_cons_succ]
  replace hyy := hyy.symm
  subst hyy
  refine xm [some (.int .i64 210)] (by kernel_rfl) (by simp [xr, go_sem]) ?_
  simp only [xw, p0, p1, p2, p3]
  go_wp2
  go_ret
  exact ⟨rfl, rfl⟩
set_option maxRecDepth 20000 in
set_option maxHeartbeats 4000000 in
theorem v4_more (h : Hd) (sb pb : Nat) (ep : Int) (r : Rt) (op : Bool) (sl : Int) (p bm C q : Nat) (D : DataW Value) (w : World) (hS : RowAt p 64 (mdV h sb pb ep r op sl) w) (hm : RowAt bm 1 (fun _ => .pointer (some ⟨p, 0, none⟩)) w) (hD : w.ownsMap Try.prog 3 RV pb C D) (hsz : Maps.size D = q) (hq : ¬ q = 1) : Calls Try.prog 48 #[.pointer (some ⟨bm, 0, none⟩)] w fun e w' => e = .returned (.int .i64 0) ∧ w' = w := by
  have hlen := hideit (hD.len Try.underlying63 3)
  rw [hsz] at hlen
  replace hq : ¬ (q : Int) = 1 := by omega
  replace hS := hideit hS
  replace hm := hideit hm
  replace hq := hideit hq
  go_enter Try.func48, Try.ntmps48
  go_upto_region 1 with (fail)
  refine wp_region_lit ?_
  have m1 : w.cell? ⟨bm, 0, none⟩ = some (.pointer (some ⟨p, 0, none⟩)) := hm.out.1 0 (by decide)
  have m2 : w.cell? ⟨p, 25, none⟩ = some (.map (some pb)) := hS.out.1 25 (by decide)
  refine xm [some (.pointer (some ⟨p, 0, none⟩)), some (.pointer (some ⟨p, 0, none⟩)), some (.pointer (some ⟨p, 25, none⟩)), some (.map (some pb))] (by kernel_rfl) (by simp [xr, go_sem, m1, m2]) ?_
  simp only [xw, p0, p1, p2, p3]
  clear m1
  clear m2
  refine wpList_run rfl (.int .i64 (q : Int)) (exec_lenM (.tmp 5) rfl rfl hlen.out) ?_
  simp only [Act.put, List.setIfInBounds_toArray, List.set_cons_zero, List.set_cons_succ]
  refine xm [some (.bool false)] (by kernel_rfl) (by simp [xr, go_sem, hq.out]) ?_
  simp only [xw, p0, p1, p2, p3]
  refine wpList_call rfl (by simp [go_sem]) ((refuse_any false 210 w).mono ?_)
  rintro e yy ⟨rfl, hyy⟩
  refine ⟨_, rfl, ?_⟩
  simp only [Act.put, List.setIfInBounds_toArray, List.set_cons_zero, List.set_cons_succ]
  replace hyy := hyy.symm
  subst hyy
  refine xm [some (.int .i64 0)] (by kernel_rfl) (by simp [xr, go_sem]) ?_
  simp only [xw, p0, p1, p2, p3]
  go_wp2
  go_ret
  exact ⟨rfl, rfl⟩
set_option maxRecDepth 20000 in
set_option maxHeartbeats 4000000 in
theorem v5_any (h : Hd) (sb pb : Nat) (ep : Int) (r : Rt) (op : Bool) (sl : Int) (p bm bn C : Nat) (m : Int → Option Value) (n : Int) (w : World) (hS : RowAt p 64 (mdV h sb pb ep r op sl) w) (hm : RowAt bm 1 (fun _ => .pointer (some ⟨p, 0, none⟩)) w) (hn : RowAt bn 1 (fun _ => .int .i64 n) w) (hP : MapAt Try.prog 3 pb C m w) (hok : okI n) :
    Calls Try.prog 49 #[.pointer (some ⟨bm, 0, none⟩), .pointer (some ⟨bn, 0, none⟩)] w fun e w' => e = .returned (.int .i64 0) ∧ MapAt Try.prog 3 pb C (mset m n none) w' ∧ Keeps (fun i => i = pb) w w' := by
  replace hS := hideit hS
  replace hm := hideit hm
  replace hn := hideit hn
  replace hP := hideit hP
  replace hok := hideit hok
  have hE := hideit (Ext.refl w)
  go_enter Try.func49, Try.ntmps49
  go_upto_region 1 with (fail)
  replace hS := hideit hS.out.drew
  replace hm := hideit hm.out.drew
  replace hn := hideit hn.out.drew
  replace hP := hideit (hP.out.ext (Ext.draw (Ext.refl w)))
  replace hE := hideit (Ext.draw hE.out)
  refine wp_region_ladz (fun X => Ext w.drew X) [5] [(false, 0), (false, 1), (false, 2), (false, 3), (false, 4), (true, 5)] (by kernel_rfl) (by kernel_rfl) (by decide +kernel) (by decide +kernel) (by decide +kernel) (by decide +kernel) (Ext.refl _) ?_
  refine wpZ_f _ (.pointer (some ⟨p, 0, none⟩)) rfl rfl (fun X hX => by have m1 : X.cell? ⟨bm, 0, none⟩ = some (.pointer (some ⟨p, 0, none⟩)) := (hm.out.carry hX).1 0 (by decide); simp [go_sem, m1]) ?_
  simp only [List.getElem_toArray, List.getElem_cons_zero, Act.put, List.setIfInBounds_toArray, List.set_cons_zero, List.set_cons_succ]
  refine wpZ_f _ (.pointer (some ⟨p, 0, none⟩)) rfl rfl (fun X _ => by simp [go_sem]) ?_
  simp only [List.getElem_toArray, List.getElem_cons_zero, List.getElem_cons_succ, Act.put, List.setIfInBounds_toArray, List.set_cons_zero, List.set_cons_succ]
  refine wpZ_f _ (.pointer (some ⟨p, 25, none⟩)) rfl rfl (fun X _ => by simp [go_sem]) ?_
  simp only [List.getElem_toArray, List.getElem_cons_zero, List.getElem_cons_succ, Act.put, List.setIfInBounds_toArray, List.set_cons_zero, List.set_cons_succ]
  refine wpZ_f _ (.map (some pb)) rfl rfl (fun X hX => by have m2 : X.cell? ⟨p, 25, none⟩ = some (.map (some pb)) := (hS.out.carry hX).1 25 (by decide); simp [go_sem, m2]) ?_
  simp only [List.getElem_toArray, List.getElem_cons_zero, List.getElem_cons_succ, Act.put, List.setIfInBounds_toArray, List.set_cons_zero, List.set_cons_succ]
  refine wpZ_f _ (.int .i64 (n)) rfl rfl (fun X hX => by have m3 : X.cell? ⟨bn, 0, none⟩ = some (.int .i64 (n)) := (hn.out.carry hX).1 0 (by decide); simp [go_sem, m3]) ?_
  simp only [List.getElem_toArray, List.getElem_cons_zero, List.getElem_cons_succ, Act.put, List.setIfInBounds_toArray, List.set_cons_zero, List.set_cons_succ]
  obtain ⟨w4, hr4, hM4, hG4, hz4⟩ := MapAt.strike hP.out Try.underlying3 Try.underlying63 hok.out 0
  refine wpZ_to _ (.tuple #[]) w4 rfl rfl (exec_delM (.tmp 6) (.tmp 7) rfl rfl rfl hr4) (fun _ => True) (.inl (by simp)) trivial ?_
  simp only [List.getElem_toArray, List.getElem_cons_zero, List.getElem_cons_succ, Act.put]
  refine wpZ_nil ?_
  have hKp : Keeps (fun i => i = pb) w.drew w4 := Keeps.of_grown hG4 (.inl rfl) fun e => (hM4.notB e).elim
  have hF := hideit ((Keeps.of_ext (F := fun i => i = pb) hE.out).trans (F' := fun i => i = pb) hKp fun i hi => .inl hi)
  replace hM4 := hideit hM4
  clear hr4 hG4 hKp hP hS hm hn hE
  go_wp2
  go_ret
  exact ⟨rfl, hM4.out, hF.out⟩
def rvS (s : MSt) (n : Int) : MSt := { s with P := fun x => if x = n then none else s.P x, r := { s.r with ct := s.r.ct + 1#64 } }
/-- SlotRevoke tells .. -/
def rvP (s s' : MSt) (n : Int) (c : Int) : Prop := (c = 230 ∧ s.r.rk = true ∧ s' = s) ∨ (c = 100 ∧ s.r.rk = false ∧ ¬ (0 ≤ n ∧ n < s.h.sl) ∧ s' = s) ∨ (c = 4 ∧ s.r.rk = false ∧ (0 ≤ n ∧ n < s.h.sl) ∧ s.P n = none ∧ s' = s) ∨
  (c = 210 ∧ s.r.rk = false ∧ (0 ≤ n ∧ n < s.h.sl) ∧ s.P n ≠ none ∧ lastS s n ∧ s' = s) ∨ (c = 0 ∧ s.r.rk = false ∧ (0 ≤ n ∧ n < s.h.sl) ∧ s.P n ≠ none ∧ ¬ lastS s n ∧ s' = rvS s n)
set_option maxRecDepth 20000 in
set_option maxHeartbeats 4000000 in
theorem rev_do {F : Nat → Prop} {p C : Nat} {M : MLoc} {x : World} (h : Hd) (S : Int → Option (Nat → BitVec 8)) (P : Int → Option (Nat × (Nat → BitVec 8))) (ep : Int) (r : Rt) (sl : Int) (hM : MdM F p ⟨h, S, P, ep, r, true, sl⟩ C M x) (bm bn bs : Nat) (n : Int)
    (hm : RowAt bm 1 (fun _ => .pointer (some ⟨p, 0, none⟩)) x) (hn : RowAt bn 1 (fun _ => .int .i64 n) x) (hB : RowAt bs 6 (fnV (fun i => [40, 46, 47, 48, 49, 38].getD i 0) (fun i => [#[.pointer (some ⟨p, 0, none⟩)], #[], #[], #[], #[], #[.pointer (some ⟨p, 0, none⟩)]].getD i #[]) (fun i => [#[], #[.pointer (some ⟨bm, 0, none⟩), .pointer (some ⟨bn, 0, none⟩)], #[.pointer (some ⟨bm, 0, none⟩), .pointer (some ⟨bn, 0, none⟩)], #[.pointer (some ⟨bm, 0, none⟩)], #[.pointer (some ⟨bm, 0, none⟩), .pointer (some ⟨bn, 0, none⟩)], #[]].getD i #[])) x) (nF : ¬ F bs) (hok : okI n) :
    Calls Try.prog 33 #[.pointer (some ⟨p, 0, none⟩), .slice (some ⟨bs, 0, none⟩) 6 6] x fun e w' => ∃ c s', e = .returned (.int .i64 c) ∧ rvP ⟨h, S, P, ep, r, true, sl⟩ s' n c ∧ (∃ M', MdM F p s' C M' w') ∧ Keeps F x w' := by
  have hS := hM.st
  have hw1 := rrek_any h M.sb M.pb ep r true sl p x hS
  have hw2 := v2_any h M.sb M.pb ep r true sl p bm bn n x hS hm hn
  cases hr : r.rk with
  | true =>
    rw [hr, if_pos rfl] at hw1
    refine (do_refuse h M.sb M.pb ep r sl p bs 6 0 230 (fun i => [40, 46, 47, 48, 49, 38].getD i 0) (fun i => [#[.pointer (some ⟨p, 0, none⟩)], #[], #[], #[], #[], #[.pointer (some ⟨p, 0, none⟩)]].getD i #[]) (fun i => [#[], #[.pointer (some ⟨bm, 0, none⟩), .pointer (some ⟨bn, 0, none⟩)], #[.pointer (some ⟨bm, 0, none⟩), .pointer (some ⟨bn, 0, none⟩)], #[.pointer (some ⟨bm, 0, none⟩)], #[.pointer (some ⟨bm, 0, none⟩), .pointer (some ⟨bn, 0, none⟩)], #[]].getD i #[]) x hS (by decide) hB (by decide) (by decide) (fun i hi args X => by rcases (by omega : i = 0 ∨ i = 1 ∨ i = 2 ∨ i = 3 ∨ i = 4 ∨ i = 5) with rfl | rfl | rfl | rfl | rfl | rfl <;> simp [go_sem]) (fun i hi => ?_) ?_).mono ?_
    · exact absurd hi (Nat.not_lt_zero _)
    · exact hw1
    · rintro e w' ⟨q1, rfl⟩
      exact ⟨230, ⟨h, S, P, ep, r, true, sl⟩, q1, .inl ⟨rfl, hr, rfl⟩, ⟨M, hM⟩, Keeps.refl _ _⟩
  | false =>
    rw [hr, if_neg (by decide)] at hw1
    by_cases hg : 0 ≤ n ∧ n < h.sl
    · rw [if_pos hg] at hw2
      by_cases hp : P n = none
      · have hm2 : (M.m n).isSome = false := by rw [hM.hasP]; show (P n).isSome = false; rw [hp]; rfl
        have hw3 := v3_hasnt h M.sb M.pb ep r true sl p bm bn C M.m n x hS hm hn hM.mpP hok hm2
        refine (do_refuse h M.sb M.pb ep r sl p bs 6 2 4 (fun i => [40, 46, 47, 48, 49, 38].getD i 0) (fun i => [#[.pointer (some ⟨p, 0, none⟩)], #[], #[], #[], #[], #[.pointer (some ⟨p, 0, none⟩)]].getD i #[]) (fun i => [#[], #[.pointer (some ⟨bm, 0, none⟩), .pointer (some ⟨bn, 0, none⟩)], #[.pointer (some ⟨bm, 0, none⟩), .pointer (some ⟨bn, 0, none⟩)], #[.pointer (some ⟨bm, 0, none⟩)], #[.pointer (some ⟨bm, 0, none⟩), .pointer (some ⟨bn, 0, none⟩)], #[]].getD i #[]) x hS (by decide) hB (by decide) (by decide) (fun i hi args X => by rcases (by omega : i = 0 ∨ i = 1 ∨ i = 2 ∨ i = 3 ∨ i = 4 ∨ i = 5) with rfl | rfl | rfl | rfl | rfl | rfl <;> simp [go_sem]) (fun i hi => ?_) ?_).mono ?_
        · rcases (by omega : i = 0 ∨ i = 1) with rfl | rfl
          · exact hw1
          · exact hw2
        · exact hw3
        · rintro e w' ⟨q1, rfl⟩
          exact ⟨4, ⟨h, S, P, ep, r, true, sl⟩, q1, .inr (.inr (.inl ⟨rfl, hr, hg, hp, rfl⟩)), ⟨M, hM⟩, Keeps.refl _ _⟩
      · have hm2 : (M.m n).isSome = true := by rw [hM.hasP]; show (P n).isSome = true; cases e : P n with | none => exact absurd e hp | some _ => rfl
        have hw3 := v3_has h M.sb M.pb ep r true sl p bm bn C M.m n x hS hm hn hM.mpP hok hm2
        obtain ⟨D, hD, hD2⟩ := last_len hM hok hp
        by_cases hq : Maps.size D = 1
        · have hw4 := v4_last h M.sb M.pb ep r true sl p bm C (Maps.size D) D x hS hm hD rfl hq
          refine (do_refuse h M.sb M.pb ep r sl p bs 6 3 210 (fun i => [40, 46, 47, 48, 49, 38].getD i 0) (fun i => [#[.pointer (some ⟨p, 0, none⟩)], #[], #[], #[], #[], #[.pointer (some ⟨p, 0, none⟩)]].getD i #[]) (fun i => [#[], #[.pointer (some ⟨bm, 0, none⟩), .pointer (some ⟨bn, 0, none⟩)], #[.pointer (some ⟨bm, 0, none⟩), .pointer (some ⟨bn, 0, none⟩)], #[.pointer (some ⟨bm, 0, none⟩)], #[.pointer (some ⟨bm, 0, none⟩), .pointer (some ⟨bn, 0, none⟩)], #[]].getD i #[]) x hS (by decide) hB (by decide) (by decide) (fun i hi args X => by rcases (by omega : i = 0 ∨ i = 1 ∨ i = 2 ∨ i = 3 ∨ i = 4 ∨ i = 5) with rfl | rfl | rfl | rfl | rfl | rfl <;> simp [go_sem]) (fun i hi => ?_) ?_).mono ?_
          · rcases (by omega : i = 0 ∨ i = 1 ∨ i = 2) with rfl | rfl | rfl
            · exact hw1
            · exact hw2
            · exact hw3
          · exact hw4
          · rintro e w' ⟨q1, rfl⟩
            exact ⟨210, ⟨h, S, P, ep, r, true, sl⟩, q1, .inr (.inr (.inr (.inl ⟨rfl, hr, hg, hp, hD2.1 hq, rfl⟩))), ⟨M, hM⟩, Keeps.refl _ _⟩
        · have hw4 := v4_more h M.sb M.pb ep r true sl p bm C (Maps.size D) D x hS hm hD rfl hq
          have hS2 : ∀ W, Keeps (fun i => i = M.pb) x W → RowAt p 64 (mdV h M.sb M.pb ep r true sl) W := fun W hK => hS.keep hK hM.pm
          refine (do_pass h M.sb M.pb ep r sl p bs 6 4 (fun i => [40, 46, 47, 48, 49, 38].getD i 0) (fun i => [#[.pointer (some ⟨p, 0, none⟩)], #[], #[], #[], #[], #[.pointer (some ⟨p, 0, none⟩)]].getD i #[]) (fun i => [#[], #[.pointer (some ⟨bm, 0, none⟩), .pointer (some ⟨bn, 0, none⟩)], #[.pointer (some ⟨bm, 0, none⟩), .pointer (some ⟨bn, 0, none⟩)], #[.pointer (some ⟨bm, 0, none⟩)], #[.pointer (some ⟨bm, 0, none⟩), .pointer (some ⟨bn, 0, none⟩)], #[]].getD i #[]) x hS (by decide) hB rfl (fun W => MapAt Try.prog 3 M.pb C (mset M.m n none) W ∧ Keeps (fun i => i = M.pb) x W)
            (fun W => (MapAt Try.prog 3 M.pb C (mset M.m n none) W ∧ Keeps (fun i => i = M.pb ∨ i = p) x W) ∧ RowAt p 64 (mdV h M.sb M.pb ep { r with ct := r.ct + 1#64 } true sl) W)
            (fun W ⟨_, hK⟩ => hB.keep hK fun e => nF (by rw [e]; exact hM.fm)) (fun W ⟨⟨_, hK⟩, _⟩ => hB.keep hK fun e => nF (by rcases e with e | e <;> rw [e]; exact hM.fm; exact hM.fp))
            (fun i hi args X => by rcases (by omega : i = 0 ∨ i = 1 ∨ i = 2 ∨ i = 3 ∨ i = 4 ∨ i = 5) with rfl | rfl | rfl | rfl | rfl | rfl <;> simp [go_sem]) (fun i hi => ?_) ?_ (fun W hW => ?_)).mono ?_
          · rcases (by omega : i = 0 ∨ i = 1 ∨ i = 2 ∨ i = 3) with rfl | rfl | rfl | rfl
            · exact hw1
            · exact hw2
            · exact hw3
            · exact hw4
          · exact v5_any h M.sb M.pb ep r true sl p bm bn C M.m n x hS hm hn hM.mpP hok
          · obtain ⟨h1, h3⟩ := hW
            exact (count_any h M.sb M.pb ep r true sl p W (hS2 W h3)).mono fun e w' ⟨q1, q2, q3⟩ => ⟨q1, ⟨h1.keep q2 fun e => hM.pm e.symm, (h3.mono fun i hi => .inl hi).trans q2 fun i hi => .inl (.inr hi)⟩, q3⟩
          · rintro e w' ⟨q1, ⟨q2, q4⟩, q5⟩
            have hGF : ∀ i, (i = M.pb ∨ i = p) → F i := fun i hi => by rcases hi with rfl | rfl; exact hM.fm; exact hM.fp
            refine ⟨0, rvS ⟨h, S, P, ep, r, true, sl⟩ n, q1, .inr (.inr (.inr (.inr ⟨rfl, hr, hg, hp, fun e => hq (hD2.2 e), rfl⟩))), ⟨_, hM.stepP q4 hGF (rvS ⟨h, S, P, ep, r, true, sl⟩ n) rfl rfl hM.eps _ q5 q2 (Nat.le_refl C) (fun x => ?_) (fun x v hx => ?_) (fun x hx => ?_) (fun e => by rcases e with e | e; exact hM.sm e; exact hM.ps e.symm)⟩, q4.mono hGF⟩
            · show (if x = n then none else M.m x).isSome = (if x = n then none else P x).isSome
              by_cases e : x = n
              · rw [if_pos e, if_pos e]
                rfl
              · rw [if_neg e, if_neg e]; exact hM.hasP x
            · have hx : (if x = n then none else M.m x) = some v := hx
              by_cases e : x = n
              · rw [if_pos e] at hx; cases hx
              · rw [if_neg e] at hx
                obtain ⟨l', f', a1, a2, a3⟩ := hM.cont x v hx
                exact ⟨l', f', (if_neg e).trans a1, a2, a3.keep q4 fun i hi => hM.nb i (hGF i hi)⟩
            · have hx : (if x = n then none else P x) ≠ none := hx
              by_cases e : x = n
              · rw [if_pos e] at hx; exact absurd rfl hx
              · rw [if_neg e] at hx; exact hM.kP x hx
    · rw [if_neg hg] at hw2
      refine (do_refuse h M.sb M.pb ep r sl p bs 6 1 100 (fun i => [40, 46, 47, 48, 49, 38].getD i 0) (fun i => [#[.pointer (some ⟨p, 0, none⟩)], #[], #[], #[], #[], #[.pointer (some ⟨p, 0, none⟩)]].getD i #[]) (fun i => [#[], #[.pointer (some ⟨bm, 0, none⟩), .pointer (some ⟨bn, 0, none⟩)], #[.pointer (some ⟨bm, 0, none⟩), .pointer (some ⟨bn, 0, none⟩)], #[.pointer (some ⟨bm, 0, none⟩)], #[.pointer (some ⟨bm, 0, none⟩), .pointer (some ⟨bn, 0, none⟩)], #[]].getD i #[]) x hS (by decide) hB (by decide) (by decide) (fun i hi args X => by rcases (by omega : i = 0 ∨ i = 1 ∨ i = 2 ∨ i = 3 ∨ i = 4 ∨ i = 5) with rfl | rfl | rfl | rfl | rfl | rfl <;> simp [go_sem]) (fun i hi => ?_) ?_).mono ?_
      · obtain rfl : i = 0 := by omega
        exact hw1
      · exact hw2
      · rintro e w' ⟨q1, rfl⟩
        exact ⟨100, ⟨h, S, P, ep, r, true, sl⟩, q1, .inr (.inl ⟨rfl, hr, hg, rfl⟩), ⟨M, hM⟩, Keeps.refl _ _⟩
set_option maxRecDepth 20000 in
set_option maxHeartbeats 4000000 in
theorem rev_open {F : Nat → Prop} {p C : Nat} {M : MLoc} {w : World} (h : Hd) (S : Int → Option (Nat → BitVec 8)) (P : Int → Option (Nat × (Nat → BitVec 8))) (ep : Int) (r : Rt) (sl : Int) (hM : MdM F p ⟨h, S, P, ep, r, true, sl⟩ C M w) (n : Int) (hok : okI n) :
    Calls Try.prog 14 #[.pointer (some ⟨p, 0, none⟩), .int .i64 n] w fun e w' => ∃ c, e = .returned (.int .i64 c) ∧ ∃ s', rvP ⟨h, S, P, ep, r, true, sl⟩ s' n c ∧ (∃ M', MdM F p s' C M' w') ∧ Keeps F w w' := by
  have hlt := hideit hM.lt
  replace hM := hideit hM
  replace hok := hideit hok
  have hE := hideit (Ext.refl w)
  go_enter Try.func14, Try.ntmps14
  go_upto_region 0 with (fail)
  refine wp_region_lit ?_
  have A0 := hideit (row1_new w (.pointer (some ⟨p, 0, none⟩)) 26)
  have XB : Ext w (w.alloc (.cells #[.pointer (some ⟨p, 0, none⟩)] 26)) := (Below.refl _ _).alloc (Nat.le_refl _) _
  have L0 := hideit (hM.out.ext XB)
  have AE := hideit (Ext.trans hE.out (XB))
  have AB := hideit (hE.out.size)
  clear XB
  refine wpList_to rfl (.pointer (some ⟨w.heap.size, 0, none⟩)) (w.alloc (.cells #[.pointer (some ⟨p, 0, none⟩)] 26)) (by simp [go_sem]) ?_
  simp only [Act.put, List.setIfInBounds_toArray, List.set_cons_zero, List.set_cons_succ]
  generalize w.alloc (.cells #[.pointer (some ⟨p, 0, none⟩)] 26) = x2 at A0 L0 AE ⊢
  obtain ⟨z1, ez1⟩ : ∃ b, b = w.heap.size := ⟨_, rfl⟩
  have ABz1 : Hid (w.heap.size ≤ z1) := by rw [ez1]; exact AB.out
  clear AB
  rw [← ez1] at A0  ⊢
  clear ez1
  have Hz1 := A0
  clear A0
  replace hM := L0
  clear L0
  replace hE := AE
  clear AE
  have A0 := hideit (row1_new x2 (.int .i64 (n)) 3)
  have XB : Ext x2 (x2.alloc (.cells #[.int .i64 (n)] 3)) := (Below.refl _ _).alloc (Nat.le_refl _) _
  have A1 := hideit (Hz1.out.carry XB)
  have L0 := hideit (hM.out.ext XB)
  have AE := hideit (Ext.trans hE.out (XB))
  have AB := hideit (hE.out.size)
  have D0 : Hid (z1 ≠ x2.heap.size) := Nat.ne_of_lt Hz1.out.2.2
  clear XB
  refine wpList_to rfl (.pointer (some ⟨x2.heap.size, 0, none⟩)) (x2.alloc (.cells #[.int .i64 (n)] 3)) (by simp [go_sem]) ?_
  simp only [Act.put, List.setIfInBounds_toArray, List.set_cons_zero, List.set_cons_succ]
  generalize x2.alloc (.cells #[.int .i64 (n)] 3) = x4 at A0 A1 L0 AE ⊢
  obtain ⟨z3, ez3⟩ : ∃ b, b = x2.heap.size := ⟨_, rfl⟩
  have ABz3 : Hid (w.heap.size ≤ z3) := by rw [ez3]; exact AB.out
  clear AB
  rw [← ez3] at A0 D0 ⊢
  clear ez3
  have Hz3 := A0
  clear A0
  replace Hz1 := A1
  clear A1
  replace hM := L0
  clear L0
  replace hE := AE
  clear AE
  have Dz3_0 := D0
  clear D0
  refine xm [some (.int .i64 0)] (by kernel_rfl) (by simp [xr, go_sem]) ?_
  simp only [xw, p0, p1, p2, p3]
  go_upto_region 1 with (fail)
  refine wp_region_lit ?_
  have m5 : x4.cell? ⟨z1, 0, none⟩ = some (.pointer (some ⟨p, 0, none⟩)) := Hz1.out.1 0 (by decide)
  refine xm [some (.pointer (some ⟨p, 0, none⟩)), some (.pointer (some ⟨p, 0, none⟩)), some (.func (.func 40) #[.pointer (some ⟨p, 0, none⟩)] #[]), some (.func (.func 46) #[] #[.pointer (some ⟨z1, 0, none⟩), .pointer (some ⟨z3, 0, none⟩)]), some (.func (.func 47) #[] #[.pointer (some ⟨z1, 0, none⟩), .pointer (some ⟨z3, 0, none⟩)]), some (.func (.func 48) #[] #[.pointer (some ⟨z1, 0, none⟩)]), some (.func (.func 49) #[] #[.pointer (some ⟨z1, 0, none⟩), .pointer (some ⟨z3, 0, none⟩)]), some (.pointer (some ⟨p, 0, none⟩)), some (.func (.func 38) #[.pointer (some ⟨p, 0, none⟩)] #[])] (by kernel_rfl) (by simp [xr, go_sem, m5]) ?_
  simp only [xw, p0, p1, p2, p3]
  clear m5
  have A0 := hideit (RowAt.newOf x4 6 (fnV (fun i => [40, 46, 47, 48, 49, 38].getD i 0) (fun i => [#[.pointer (some ⟨p, 0, none⟩)], #[], #[], #[], #[], #[.pointer (some ⟨p, 0, none⟩)]].getD i #[]) (fun i => [#[], #[.pointer (some ⟨z1, 0, none⟩), .pointer (some ⟨z3, 0, none⟩)], #[.pointer (some ⟨z1, 0, none⟩), .pointer (some ⟨z3, 0, none⟩)], #[.pointer (some ⟨z1, 0, none⟩)], #[.pointer (some ⟨z1, 0, none⟩), .pointer (some ⟨z3, 0, none⟩)], #[]].getD i #[])) 47 #[.func (.func 40) #[.pointer (some ⟨p, 0, none⟩)] #[], .func (.func 46) #[] #[.pointer (some ⟨z1, 0, none⟩), .pointer (some ⟨z3, 0, none⟩)], .func (.func 47) #[] #[.pointer (some ⟨z1, 0, none⟩), .pointer (some ⟨z3, 0, none⟩)], .func (.func 48) #[] #[.pointer (some ⟨z1, 0, none⟩)], .func (.func 49) #[] #[.pointer (some ⟨z1, 0, none⟩), .pointer (some ⟨z3, 0, none⟩)], .func (.func 38) #[.pointer (some ⟨p, 0, none⟩)] #[]] (fun j hj => by rcases (by omega : j = 0 ∨ j = 1 ∨ j = 2 ∨ j = 3 ∨ j = 4 ∨ j = 5) with rfl | rfl | rfl | rfl | rfl | rfl <;> rfl))
  have XB : Ext x4 (x4.alloc (.cells #[.func (.func 40) #[.pointer (some ⟨p, 0, none⟩)] #[], .func (.func 46) #[] #[.pointer (some ⟨z1, 0, none⟩), .pointer (some ⟨z3, 0, none⟩)], .func (.func 47) #[] #[.pointer (some ⟨z1, 0, none⟩), .pointer (some ⟨z3, 0, none⟩)], .func (.func 48) #[] #[.pointer (some ⟨z1, 0, none⟩)], .func (.func 49) #[] #[.pointer (some ⟨z1, 0, none⟩), .pointer (some ⟨z3, 0, none⟩)], .func (.func 38) #[.pointer (some ⟨p, 0, none⟩)] #[]] 47)) := (Below.refl _ _).alloc (Nat.le_refl _) _
  have A1 := hideit (Hz1.out.carry XB)
  have A2 := hideit (Hz3.out.carry XB)
  have L0 := hideit (hM.out.ext XB)
  have AE := hideit (Ext.trans hE.out (XB))
  have AB := hideit (hE.out.size)
  have D0 : Hid (z1 ≠ x4.heap.size) := Nat.ne_of_lt Hz1.out.2.2
  have D1 : Hid (z3 ≠ x4.heap.size) := Nat.ne_of_lt Hz3.out.2.2
  clear XB
  refine wpList_to rfl (.slice (some ⟨x4.heap.size, 0, none⟩) 6 6) (x4.alloc (.cells #[.func (.func 40) #[.pointer (some ⟨p, 0, none⟩)] #[], .func (.func 46) #[] #[.pointer (some ⟨z1, 0, none⟩), .pointer (some ⟨z3, 0, none⟩)], .func (.func 47) #[] #[.pointer (some ⟨z1, 0, none⟩), .pointer (some ⟨z3, 0, none⟩)], .func (.func 48) #[] #[.pointer (some ⟨z1, 0, none⟩)], .func (.func 49) #[] #[.pointer (some ⟨z1, 0, none⟩), .pointer (some ⟨z3, 0, none⟩)], .func (.func 38) #[.pointer (some ⟨p, 0, none⟩)] #[]] 47)) (by simp [go_sem]) ?_
  simp only [Act.put, List.setIfInBounds_toArray, List.set_cons_zero, List.set_cons_succ]
  generalize x4.alloc (.cells #[.func (.func 40) #[.pointer (some ⟨p, 0, none⟩)] #[], .func (.func 46) #[] #[.pointer (some ⟨z1, 0, none⟩), .pointer (some ⟨z3, 0, none⟩)], .func (.func 47) #[] #[.pointer (some ⟨z1, 0, none⟩), .pointer (some ⟨z3, 0, none⟩)], .func (.func 48) #[] #[.pointer (some ⟨z1, 0, none⟩)], .func (.func 49) #[] #[.pointer (some ⟨z1, 0, none⟩), .pointer (some ⟨z3, 0, none⟩)], .func (.func 38) #[.pointer (some ⟨p, 0, none⟩)] #[]] 47) = x9 at A0 A1 A2 L0 AE ⊢
  obtain ⟨z8, ez8⟩ : ∃ b, b = x4.heap.size := ⟨_, rfl⟩
  have ABz8 : Hid (w.heap.size ≤ z8) := by rw [ez8]; exact AB.out
  clear AB
  rw [← ez8] at A0 D0 D1 ⊢
  clear ez8
  have Hz8 := A0
  clear A0
  replace Hz1 := A1
  clear A1
  replace Hz3 := A2
  clear A2
  replace hM := L0
  clear L0
  replace hE := AE
  clear AE
  have Dz8_0 := D0
  clear D0
  have Dz8_1 := D1
  clear D1
  have nF : ¬ F z8 := fun e => by have := hlt.out z8 e; have := ABz8.out; omega
  have kd := hideit (rev_do h S P ep r sl hM.out z1 z3 z8 n Hz1.out Hz3.out Hz8.out nF hok.out)
  refine wpList_call rfl (by simp [go_sem]) ((kd.out).mono ?_)
  rintro e y9 ⟨c, s9, rfl, hv9, hM9, hK9⟩
  refine ⟨_, rfl, ?_⟩
  simp only [Act.put, List.setIfInBounds_toArray, List.set_cons_zero, List.set_cons_succ]
  replace hM9 := hideit hM9
  replace hv9 := hideit hv9
  replace hK9 := hideit ((Keeps.of_ext hE.out).trans hK9 fun i hi => .inl hi)
  clear kd hM nF
  refine xm [some (.int .i64 (c))] (by kernel_rfl) (by simp [xr, go_sem]) ?_
  simp only [xw, p0, p1, p2, p3]
  go_wp2
  go_ret
  exact ⟨c, rfl, s9, hv9.out, hM9.out, hK9.out⟩
set_option maxRecDepth 20000 in
set_option maxHeartbeats 4000000 in
theorem rev_shut {F : Nat → Prop} {p C : Nat} {M : MLoc} {w : World} (h : Hd) (S : Int → Option (Nat → BitVec 8)) (P : Int → Option (Nat × (Nat → BitVec 8))) (ep : Int) (r : Rt) (sl : Int) (hM : MdM F p ⟨h, S, P, ep, r, false, sl⟩ C M w) (n : Int) :
    Calls Try.prog 14 #[.pointer (some ⟨p, 0, none⟩), .int .i64 n] w fun e w' => e = .returned (.int .i64 6) ∧ Ext w w' := by
  replace hM := hideit hM
  have hE := hideit (Ext.refl w)
  go_enter Try.func14, Try.ntmps14
  go_upto_region 0 with (fail)
  refine wp_region_lit ?_
  have A0 := hideit (row1_new w (.pointer (some ⟨p, 0, none⟩)) 26)
  have XB : Ext w (w.alloc (.cells #[.pointer (some ⟨p, 0, none⟩)] 26)) := (Below.refl _ _).alloc (Nat.le_refl _) _
  have L0 := hideit (hM.out.ext XB)
  have AE := hideit (Ext.trans hE.out (XB))
  have AB := hideit (hE.out.size)
  clear XB
  refine wpList_to rfl (.pointer (some ⟨w.heap.size, 0, none⟩)) (w.alloc (.cells #[.pointer (some ⟨p, 0, none⟩)] 26)) (by simp [go_sem]) ?_
  simp only [Act.put, List.setIfInBounds_toArray, List.set_cons_zero, List.set_cons_succ]
  generalize w.alloc (.cells #[.pointer (some ⟨p, 0, none⟩)] 26) = x2 at A0 L0 AE ⊢
  obtain ⟨z1, ez1⟩ : ∃ b, b = w.heap.size := ⟨_, rfl⟩
  have ABz1 : Hid (w.heap.size ≤ z1) := by rw [ez1]; exact AB.out
  clear AB
  rw [← ez1] at A0  ⊢
  clear ez1
  have Hz1 := A0
  clear A0
  replace hM := L0
  clear L0
  replace hE := AE
  clear AE
  have A0 := hideit (row1_new x2 (.int .i64 (n)) 3)
  have XB : Ext x2 (x2.alloc (.cells #[.int .i64 (n)] 3)) := (Below.refl _ _).alloc (Nat.le_refl _) _
  have A1 := hideit (Hz1.out.carry XB)
  have L0 := hideit (hM.out.ext XB)
  have AE := hideit (Ext.trans hE.out (XB))
  have AB := hideit (hE.out.size)
  have D0 : Hid (z1 ≠ x2.heap.size) := Nat.ne_of_lt Hz1.out.2.2
  clear XB
  refine wpList_to rfl (.pointer (some ⟨x2.heap.size, 0, none⟩)) (x2.alloc (.cells #[.int .i64 (n)] 3)) (by simp [go_sem]) ?_
  simp only [Act.put, List.setIfInBounds_toArray, List.set_cons_zero, List.set_cons_succ]
  generalize x2.alloc (.cells #[.int .i64 (n)] 3) = x4 at A0 A1 L0 AE ⊢
  obtain ⟨z3, ez3⟩ : ∃ b, b = x2.heap.size := ⟨_, rfl⟩
  have ABz3 : Hid (w.heap.size ≤ z3) := by rw [ez3]; exact AB.out
  clear AB
  rw [← ez3] at A0 D0 ⊢
  clear ez3
  have Hz3 := A0
  clear A0
  replace Hz1 := A1
  clear A1
  replace hM := L0
  clear L0
  replace hE := AE
  clear AE
  have Dz3_0 := D0
  clear D0
  refine xm [some (.int .i64 0)] (by kernel_rfl) (by simp [xr, go_sem]) ?_
  simp only [xw, p0, p1, p2, p3]
  go_upto_region 1 with (fail)
  refine wp_region_lit ?_
  have m5 : x4.cell? ⟨z1, 0, none⟩ = some (.pointer (some ⟨p, 0, none⟩)) := Hz1.out.1 0 (by decide)
  refine xm [some (.pointer (some ⟨p, 0, none⟩)), some (.pointer (some ⟨p, 0, none⟩)), some (.func (.func 40) #[.pointer (some ⟨p, 0, none⟩)] #[]), some (.func (.func 46) #[] #[.pointer (some ⟨z1, 0, none⟩), .pointer (some ⟨z3, 0, none⟩)]), some (.func (.func 47) #[] #[.pointer (some ⟨z1, 0, none⟩), .pointer (some ⟨z3, 0, none⟩)]), some (.func (.func 48) #[] #[.pointer (some ⟨z1, 0, none⟩)]), some (.func (.func 49) #[] #[.pointer (some ⟨z1, 0, none⟩), .pointer (some ⟨z3, 0, none⟩)]), some (.pointer (some ⟨p, 0, none⟩)), some (.func (.func 38) #[.pointer (some ⟨p, 0, none⟩)] #[])] (by kernel_rfl) (by simp [xr, go_sem, m5]) ?_
  simp only [xw, p0, p1, p2, p3]
  clear m5
  have A0 := hideit (RowAt.newOf x4 6 (fnV (fun i => [40, 46, 47, 48, 49, 38].getD i 0) (fun i => [#[.pointer (some ⟨p, 0, none⟩)], #[], #[], #[], #[], #[.pointer (some ⟨p, 0, none⟩)]].getD i #[]) (fun i => [#[], #[.pointer (some ⟨z1, 0, none⟩), .pointer (some ⟨z3, 0, none⟩)], #[.pointer (some ⟨z1, 0, none⟩), .pointer (some ⟨z3, 0, none⟩)], #[.pointer (some ⟨z1, 0, none⟩)], #[.pointer (some ⟨z1, 0, none⟩), .pointer (some ⟨z3, 0, none⟩)], #[]].getD i #[])) 47 #[.func (.func 40) #[.pointer (some ⟨p, 0, none⟩)] #[], .func (.func 46) #[] #[.pointer (some ⟨z1, 0, none⟩), .pointer (some ⟨z3, 0, none⟩)], .func (.func 47) #[] #[.pointer (some ⟨z1, 0, none⟩), .pointer (some ⟨z3, 0, none⟩)], .func (.func 48) #[] #[.pointer (some ⟨z1, 0, none⟩)], .func (.func 49) #[] #[.pointer (some ⟨z1, 0, none⟩), .pointer (some ⟨z3, 0, none⟩)], .func (.func 38) #[.pointer (some ⟨p, 0, none⟩)] #[]] (fun j hj => by rcases (by omega : j = 0 ∨ j = 1 ∨ j = 2 ∨ j = 3 ∨ j = 4 ∨ j = 5) with rfl | rfl | rfl | rfl | rfl | rfl <;> rfl))
  have XB : Ext x4 (x4.alloc (.cells #[.func (.func 40) #[.pointer (some ⟨p, 0, none⟩)] #[], .func (.func 46) #[] #[.pointer (some ⟨z1, 0, none⟩), .pointer (some ⟨z3, 0, none⟩)], .func (.func 47) #[] #[.pointer (some ⟨z1, 0, none⟩), .pointer (some ⟨z3, 0, none⟩)], .func (.func 48) #[] #[.pointer (some ⟨z1, 0, none⟩)], .func (.func 49) #[] #[.pointer (some ⟨z1, 0, none⟩), .pointer (some ⟨z3, 0, none⟩)], .func (.func 38) #[.pointer (some ⟨p, 0, none⟩)] #[]] 47)) := (Below.refl _ _).alloc (Nat.le_refl _) _
  have A1 := hideit (Hz1.out.carry XB)
  have A2 := hideit (Hz3.out.carry XB)
  have L0 := hideit (hM.out.ext XB)
  have AE := hideit (Ext.trans hE.out (XB))
  have AB := hideit (hE.out.size)
  have D0 : Hid (z1 ≠ x4.heap.size) := Nat.ne_of_lt Hz1.out.2.2
  have D1 : Hid (z3 ≠ x4.heap.size) := Nat.ne_of_lt Hz3.out.2.2
  clear XB
  refine wpList_to rfl (.slice (some ⟨x4.heap.size, 0, none⟩) 6 6) (x4.alloc (.cells #[.func (.func 40) #[.pointer (some ⟨p, 0, none⟩)] #[], .func (.func 46) #[] #[.pointer (some ⟨z1, 0, none⟩), .pointer (some ⟨z3, 0, none⟩)], .func (.func 47) #[] #[.pointer (some ⟨z1, 0, none⟩), .pointer (some ⟨z3, 0, none⟩)], .func (.func 48) #[] #[.pointer (some ⟨z1, 0, none⟩)], .func (.func 49) #[] #[.pointer (some ⟨z1, 0, none⟩), .pointer (some ⟨z3, 0, none⟩)], .func (.func 38) #[.pointer (some ⟨p, 0, none⟩)] #[]] 47)) (by simp [go_sem]) ?_
  simp only [Act.put, List.setIfInBounds_toArray, List.set_cons_zero, List.set_cons_succ]
  generalize x4.alloc (.cells #[.func (.func 40) #[.pointer (some ⟨p, 0, none⟩)] #[], .func (.func 46) #[] #[.pointer (some ⟨z1, 0, none⟩), .pointer (some ⟨z3, 0, none⟩)], .func (.func 47) #[] #[.pointer (some ⟨z1, 0, none⟩), .pointer (some ⟨z3, 0, none⟩)], .func (.func 48) #[] #[.pointer (some ⟨z1, 0, none⟩)], .func (.func 49) #[] #[.pointer (some ⟨z1, 0, none⟩), .pointer (some ⟨z3, 0, none⟩)], .func (.func 38) #[.pointer (some ⟨p, 0, none⟩)] #[]] 47) = x9 at A0 A1 A2 L0 AE ⊢
  obtain ⟨z8, ez8⟩ : ∃ b, b = x4.heap.size := ⟨_, rfl⟩
  have ABz8 : Hid (w.heap.size ≤ z8) := by rw [ez8]; exact AB.out
  clear AB
  rw [← ez8] at A0 D0 D1 ⊢
  clear ez8
  have Hz8 := A0
  clear A0
  replace Hz1 := A1
  clear A1
  replace Hz3 := A2
  clear A2
  replace hM := L0
  clear L0
  replace hE := AE
  clear AE
  have Dz8_0 := D0
  clear D0
  have Dz8_1 := D1
  clear D1
  refine wpList_call rfl (by simp [go_sem]) ((do_shut h M.sb M.pb ep r sl p (.slice (some ⟨z8, 0, none⟩) 6 6) x9 hM.out.st).mono ?_)
  rintro e yy ⟨rfl, hyy⟩
  refine ⟨_, rfl, ?_⟩
  simp only [Act.put, List.setIfInBounds_toArray, List.set_cons_zero, List.set_cons_succ]
  replace hyy := hyy.symm
  subst hyy
  refine xm [some (.int .i64 6)] (by kernel_rfl) (by simp [xr, go_sem]) ?_
  simp only [xw, p0, p1, p2, p3]
  go_wp2
  go_ret
  exact ⟨rfl, hE.out⟩
end Go.Proofs.Ytcipkfalnjgghaa
namespace Go.Proofs.Ytcipkfalnjgghaa
open Go.RowKit Go.BigFrame Go.Maps
set_option linter.unusedVariables false
set_option maxRecDepth 20000 in
set_option maxHeartbeats 4000000 in
theorem s2_last (h : Hd) (sb pb : Nat) (ep : Int) (r : Rt) (op : Bool) (sl : Int) (p bm : Nat) (w : World) (hS : RowAt p 64 (mdV h sb pb ep r op sl) w) (hm : RowAt bm 1 (fun _ => .pointer (some ⟨p, 0, none⟩)) w) (he : 1 ≤ ep ∧ ep ≤ 4294967295) (hq : ep = 4294967295) : Calls Try.prog 50 #[.pointer (some ⟨bm, 0, none⟩)] w fun e w' => e = .returned (.int .i64 2) ∧ w' = w := by
  have hcv : Hid (IntKind.u64.wrap 4294967295 = 4294967295) := by show IntKind.u64.wrap 4294967295 = 4294967295; decide
  replace hS := hideit hS
  replace hm := hideit hm
  replace hq := hideit hq
  go_enter Try.func50, Try.ntmps50
  go_upto_region 1 with (fail)
  refine wp_region_lit ?_
  have m1 : w.cell? ⟨bm, 0, none⟩ = some (.pointer (some ⟨p, 0, none⟩)) := hm.out.1 0 (by decide)
  have m2 : w.cell? ⟨p, 26, none⟩ = some (.int .i64 (ep)) := hS.out.1 26 (by decide)
  refine xm [some (.pointer (some ⟨p, 0, none⟩)), some (.pointer (some ⟨p, 0, none⟩)), some (.pointer (some ⟨p, 26, none⟩)), some (.int .i64 (ep)), some (.int .u64 (ep)), some (.bool true)] (by kernel_rfl) (by simp [xr, go_sem, m1, m2, hcv.out, hq.out]) ?_
  simp only [xw, p0, p1, p2, p3]
  clear m1
  clear m2
  refine wpList_call rfl (by simp [go_sem]) ((refuse_any true 2 w).mono ?_)
  rintro e yy ⟨rfl, hyy⟩
  refine ⟨_, rfl, ?_⟩
  simp only [Act.put, List.setIfInBounds_toArray, List.set_cons_zero, List.set_cons_succ]
  replace hyy := hyy.symm
  subst hyy
  refine xm [some (.int .i64 2)] (by kernel_rfl) (by simp [xr, go_sem]) ?_
  simp only [xw, p0, p1, p2, p3]
  go_wp2
  go_ret
  exact ⟨rfl, rfl⟩
set_option maxRecDepth 20000 in
set_option maxHeartbeats 4000000 in
theorem s2_more (h : Hd) (sb pb : Nat) (ep : Int) (r : Rt) (op : Bool) (sl : Int) (p bm : Nat) (w : World) (hS : RowAt p 64 (mdV h sb pb ep r op sl) w) (hm : RowAt bm 1 (fun _ => .pointer (some ⟨p, 0, none⟩)) w) (he : 1 ≤ ep ∧ ep ≤ 4294967295) (hq : ¬ ep = 4294967295) : Calls Try.prog 50 #[.pointer (some ⟨bm, 0, none⟩)] w fun e w' => e = .returned (.int .i64 0) ∧ w' = w := by
  have hcv : Hid (IntKind.u64.wrap ep = ep) := by show IntKind.u64.wrap ep = ep; rw [IntKind.wrap_u64]; omega
  replace hS := hideit hS
  replace hm := hideit hm
  replace hq := hideit hq
  go_enter Try.func50, Try.ntmps50
  go_upto_region 1 with (fail)
  refine wp_region_lit ?_
  have m1 : w.cell? ⟨bm, 0, none⟩ = some (.pointer (some ⟨p, 0, none⟩)) := hm.out.1 0 (by decide)
  have m2 : w.cell? ⟨p, 26, none⟩ = some (.int .i64 (ep)) := hS.out.1 26 (by decide)
  refine xm [some (.pointer (some ⟨p, 0, none⟩)), some (.pointer (some ⟨p, 0, none⟩)), some (.pointer (some ⟨p, 26, none⟩)), some (.int .i64 (ep)), some (.int .u64 (ep)), some (.bool false)] (by kernel_rfl) (by simp [xr, go_sem, m1, m2, hcv.out, hq.out]) ?_
  simp only [xw, p0, p1, p2, p3]
  clear m1
  clear m2
  refine wpList_call rfl (by simp [go_sem]) ((refuse_any false 2 w).mono ?_)
  rintro e yy ⟨rfl, hyy⟩
  refine ⟨_, rfl, ?_⟩
  simp only [Act.put, List.setIfInBounds_toArray, List.set_cons_zero, List.set_cons_succ]
  replace hyy := hyy.symm
  subst hyy
  refine xm [some (.int .i64 0)] (by kernel_rfl) (by simp [xr, go_sem]) ?_
  simp only [xw, p0, p1, p2, p3]
  go_wp2
  go_ret
  exact ⟨rfl, rfl⟩
theorem md_start (h : Hd) (sb pb : Nat) (ep : Int) (r : Rt) (op : Bool) (sl : Int) (j : Nat) : (if j = 26 then Value.int .i64 (ep + 1) else (fun j => if j = 28 then Value.bool true else mdV h sb pb ep r op sl j) j) = mdV h sb pb (ep + 1) { r with rk := true } op sl j := by
  unfold mdV rtv
  by_cases h26 : j = 26
  · subst h26; rfl
  · by_cases h28 : j = 28
    · subst h28; rfl
    · rw [if_neg h26]
      simp only [if_neg h28]
      by_cases h1 : j < 24
      · simp [h1]
      · by_cases h2 : j < 62
        · have h3 : ¬ j - 27 = 1 := by omega
          by_cases h4 : j = 24
          · simp [h4]
          · by_cases h5 : j = 25
            · simp [h5]
            · simp [h1, h2, h26, h3, h4, h5]
        · have h4 : ¬ j = 24 := by omega
          have h5 : ¬ j = 25 := by omega
          simp [h1, h2, h26, h4, h5]
set_option maxRecDepth 20000 in
set_option maxHeartbeats 4000000 in
theorem s3_any (h : Hd) (sb pb : Nat) (ep : Int) (r : Rt) (op : Bool) (sl : Int) (p bm : Nat) (w : World) (hS : RowAt p 64 (mdV h sb pb ep r op sl) w) (hm : RowAt bm 1 (fun _ => .pointer (some ⟨p, 0, none⟩)) w) (nbm : bm ≠ p) (he : 1 ≤ ep ∧ ep ≤ 4294967295) : Calls Try.prog 51 #[.pointer (some ⟨bm, 0, none⟩)] w fun e w' => e = .returned (.int .i64 0) ∧ Keeps (fun i => i = p) w w' ∧ RowAt p 64 (mdV h sb pb (ep + 1) { r with rk := true } op sl) w' := by
  have ew : IntKind.i64.wrap (ep + 1) = ep + 1 := by rw [IntKind.wrap_i64]; omega
  replace hS := hideit hS
  replace hm := hideit hm
  replace nbm := hideit nbm
  have hE := hideit (Keeps.refl (fun i => i = p) w)
  go_enter Try.func51, Try.ntmps51
  go_upto_region 1 with (fail)
  refine wp_region_lit ?_
  have m1 : w.cell? ⟨bm, 0, none⟩ = some (.pointer (some ⟨p, 0, none⟩)) := hm.out.1 0 (by decide)
  refine xm [some (.pointer (some ⟨p, 0, none⟩)), some (.pointer (some ⟨p, 0, none⟩)), some (.pointer (some ⟨p, 27, none⟩)), some (.pointer (some ⟨p, 28, none⟩))] (by kernel_rfl) (by simp [xr, go_sem, m1]) ?_
  simp only [xw, p0, p1, p2, p3]
  clear m1
  have M0 : w.cell? ⟨p, 28, none⟩ = some (.bool r.rk) := hS.out.1 28 (by decide)
  have M1 : w.frozen? ⟨p, 28, none⟩ = false := hS.out.2.1 28 (by decide)
  have N0 := hideit (hS.out.set 28 (.bool true))
  have N1 := hideit (hm.out.other ⟨p, 28, none⟩ (.bool true) (Ne.symm (nbm.out)))
  have NE := hideit (hE.out.setCell (p := ⟨p, 28, none⟩) (.inl rfl) (.bool true))
  refine xst rfl (w.setCell ⟨p, 28, none⟩ (.bool true)) (by simp [go_sem, M0, M1]) ?_
  simp only [Act.put]
  generalize w.setCell ⟨p, 28, none⟩ (.bool true) = x2 at N0 N1 NE ⊢
  clear M0 M1
  replace hS := N0
  replace hm := N1
  replace hE := NE
  clear N0 N1 NE
  go_upto_region 2 with (fail)
  refine wp_region_lit ?_
  have m3 : x2.cell? ⟨bm, 0, none⟩ = some (.pointer (some ⟨p, 0, none⟩)) := hm.out.1 0 (by decide)
  have m4 : x2.cell? ⟨p, 26, none⟩ = some (.int .i64 (ep)) := hS.out.1 26 (by decide)
  refine xm [some (.pointer (some ⟨p, 0, none⟩)), some (.pointer (some ⟨p, 0, none⟩)), some (.pointer (some ⟨p, 26, none⟩)), some (.int .i64 (ep)), some (.int .i64 (ep + 1)), some (.pointer (some ⟨p, 0, none⟩)), some (.pointer (some ⟨p, 26, none⟩))] (by kernel_rfl) (by simp [xr, go_sem, m3, m4, ew]) ?_
  simp only [xw, p0, p1, p2, p3]
  clear m3
  clear m4
  have M0 : x2.cell? ⟨p, 26, none⟩ = some (.int .i64 (ep)) := hS.out.1 26 (by decide)
  have M1 : x2.frozen? ⟨p, 26, none⟩ = false := hS.out.2.1 26 (by decide)
  have N0 := hideit (hS.out.set 26 (.int .i64 (ep + 1)))
  have N1 := hideit (hm.out.other ⟨p, 26, none⟩ (.int .i64 (ep + 1)) (Ne.symm (nbm.out)))
  have NE := hideit (hE.out.setCell (p := ⟨p, 26, none⟩) (.inl rfl) (.int .i64 (ep + 1)))
  refine xst rfl (x2.setCell ⟨p, 26, none⟩ (.int .i64 (ep + 1))) (by simp [go_sem, M0, M1]) ?_
  simp only [Act.put]
  generalize x2.setCell ⟨p, 26, none⟩ (.int .i64 (ep + 1)) = x5 at N0 N1 NE ⊢
  clear M0 M1
  replace N0 := hideit (N0.out.congr (g' := mdV h sb pb (ep + 1) { r with rk := true } op sl) (fun j hj => md_start h sb pb ep r op sl j))
  replace hS := N0
  replace hm := N1
  replace hE := NE
  clear N0 N1 NE
  go_upto_region 3 with (fail)
  refine wp_region_lit ?_
  refine xm [some (.int .i64 0)] (by kernel_rfl) (by simp [xr, go_sem]) ?_
  simp only [xw, p0, p1, p2, p3]
  go_wp2
  go_ret
  exact ⟨rfl, hE.out, hS.out⟩
def stS (s : MSt) : MSt := { s with ep := s.ep + 1, r := { s.r with rk := true, ct := s.r.ct + 1#64 } }
/-- RekeyStart tells .. -/
def stP (s s' : MSt) (c : Int) : Prop := (c = 230 ∧ s.r.rk = true ∧ s' = s) ∨ (c = 2 ∧ s.r.rk = false ∧ s.ep = 4294967295 ∧ s' = s) ∨ (c = 0 ∧ s.r.rk = false ∧ ¬ s.ep = 4294967295 ∧ s' = stS s)
set_option maxRecDepth 20000 in
set_option maxHeartbeats 4000000 in
theorem start_do {F : Nat → Prop} {p C : Nat} {M : MLoc} {x : World} (h : Hd) (S : Int → Option (Nat → BitVec 8)) (P : Int → Option (Nat × (Nat → BitVec 8))) (ep : Int) (r : Rt) (sl : Int) (hM : MdM F p ⟨h, S, P, ep, r, true, sl⟩ C M x) (bm bs : Nat)
    (hm : RowAt bm 1 (fun _ => .pointer (some ⟨p, 0, none⟩)) x) (hB : RowAt bs 4 (fnV (fun i => [40, 50, 51, 38].getD i 0) (fun i => [#[.pointer (some ⟨p, 0, none⟩)], #[], #[], #[.pointer (some ⟨p, 0, none⟩)]].getD i #[]) (fun i => [#[], #[.pointer (some ⟨bm, 0, none⟩)], #[.pointer (some ⟨bm, 0, none⟩)], #[]].getD i #[])) x) (nF : ¬ F bs) (nm : ¬ F bm) :
    Calls Try.prog 33 #[.pointer (some ⟨p, 0, none⟩), .slice (some ⟨bs, 0, none⟩) 4 4] x fun e w' => ∃ c s', e = .returned (.int .i64 c) ∧ stP ⟨h, S, P, ep, r, true, sl⟩ s' c ∧ MdM F p s' C M w' ∧ Keeps F x w' := by
  have hS := hM.st
  have hep := hM.eps
  have hpf : ∀ i, i = p → F i := fun i hi => by rw [hi]; exact hM.fp
  have hw1 := rrek_any h M.sb M.pb ep r true sl p x hS
  cases hr : r.rk with
  | true =>
    rw [hr, if_pos rfl] at hw1
    refine (do_refuse h M.sb M.pb ep r sl p bs 4 0 230 (fun i => [40, 50, 51, 38].getD i 0) (fun i => [#[.pointer (some ⟨p, 0, none⟩)], #[], #[], #[.pointer (some ⟨p, 0, none⟩)]].getD i #[]) (fun i => [#[], #[.pointer (some ⟨bm, 0, none⟩)], #[.pointer (some ⟨bm, 0, none⟩)], #[]].getD i #[]) x hS (by decide) hB (by decide) (by decide) (fun i hi args X => by rcases (by omega : i = 0 ∨ i = 1 ∨ i = 2 ∨ i = 3) with rfl | rfl | rfl | rfl <;> simp [go_sem]) (fun i hi => ?_) ?_).mono ?_
    · exact absurd hi (Nat.not_lt_zero _)
    · exact hw1
    · rintro e w' ⟨q1, rfl⟩
      exact ⟨230, ⟨h, S, P, ep, r, true, sl⟩, q1, .inl ⟨rfl, hr, rfl⟩, hM, Keeps.refl _ _⟩
  | false =>
    rw [hr, if_neg (by decide)] at hw1
    by_cases hq : ep = 4294967295
    · have hw2 := s2_last h M.sb M.pb ep r true sl p bm x hS hm hep hq
      refine (do_refuse h M.sb M.pb ep r sl p bs 4 1 2 (fun i => [40, 50, 51, 38].getD i 0) (fun i => [#[.pointer (some ⟨p, 0, none⟩)], #[], #[], #[.pointer (some ⟨p, 0, none⟩)]].getD i #[]) (fun i => [#[], #[.pointer (some ⟨bm, 0, none⟩)], #[.pointer (some ⟨bm, 0, none⟩)], #[]].getD i #[]) x hS (by decide) hB (by decide) (by decide) (fun i hi args X => by rcases (by omega : i = 0 ∨ i = 1 ∨ i = 2 ∨ i = 3) with rfl | rfl | rfl | rfl <;> simp [go_sem]) (fun i hi => ?_) ?_).mono ?_
      · obtain rfl : i = 0 := by omega
        exact hw1
      · exact hw2
      · rintro e w' ⟨q1, rfl⟩
        exact ⟨2, ⟨h, S, P, ep, r, true, sl⟩, q1, .inr (.inl ⟨rfl, hr, hq, rfl⟩), hM, Keeps.refl _ _⟩
    · have hw2 := s2_more h M.sb M.pb ep r true sl p bm x hS hm hep hq
      refine (do_pass h M.sb M.pb ep r sl p bs 4 2 (fun i => [40, 50, 51, 38].getD i 0) (fun i => [#[.pointer (some ⟨p, 0, none⟩)], #[], #[], #[.pointer (some ⟨p, 0, none⟩)]].getD i #[]) (fun i => [#[], #[.pointer (some ⟨bm, 0, none⟩)], #[.pointer (some ⟨bm, 0, none⟩)], #[]].getD i #[]) x hS (by decide) hB rfl (fun W => Keeps (fun i => i = p) x W ∧ RowAt p 64 (mdV h M.sb M.pb (ep + 1) { r with rk := true } true sl) W)
        (fun W => Keeps (fun i => i = p) x W ∧ RowAt p 64 (mdV h M.sb M.pb (ep + 1) { r with rk := true, ct := r.ct + 1#64 } true sl) W)
        (fun W ⟨hK, _⟩ => hB.keep hK fun e => nF (hpf bs e)) (fun W ⟨hK, _⟩ => hB.keep hK fun e => nF (hpf bs e))
        (fun i hi args X => by rcases (by omega : i = 0 ∨ i = 1 ∨ i = 2 ∨ i = 3) with rfl | rfl | rfl | rfl <;> simp [go_sem]) (fun i hi => ?_) ?_ (fun W hW => ?_)).mono ?_
      · rcases (by omega : i = 0 ∨ i = 1) with rfl | rfl
        · exact hw1
        · exact hw2
      · exact (s3_any h M.sb M.pb ep r true sl p bm x hS hm (fun e => nm (hpf bm e)) hep).mono fun e w' ⟨q1, q2, q3⟩ => ⟨q1, q2, q3⟩
      · exact (count_any h M.sb M.pb (ep + 1) { r with rk := true } true sl p W hW.2).mono fun e w' ⟨q1, q2, q3⟩ => ⟨q1, hW.1.trans q2 fun i hi => .inl hi, q3⟩
      · rintro e w' ⟨q1, q4, q5⟩
        have hep1 : 1 ≤ ep ∧ ep ≤ 4294967295 := hep
        exact ⟨0, stS ⟨h, S, P, ep, r, true, sl⟩, q1, .inr (.inr ⟨rfl, hr, hq, rfl⟩), hM.step q4 hpf (stS ⟨h, S, P, ep, r, true, sl⟩) rfl rfl (show 1 ≤ ep + 1 ∧ ep + 1 ≤ 4294967295 by omega) q5 (hM.mpS.keep q4 fun e => hM.ps e.symm) (Nat.le_refl C) hM.kS (fun e => hM.pm e.symm), q4.mono hpf⟩
set_option maxRecDepth 20000 in
set_option maxHeartbeats 4000000 in
theorem start_open {F : Nat → Prop} {p C : Nat} {M : MLoc} {w : World} (h : Hd) (S : Int → Option (Nat → BitVec 8)) (P : Int → Option (Nat × (Nat → BitVec 8))) (ep : Int) (r : Rt) (sl : Int) (hM : MdM F p ⟨h, S, P, ep, r, true, sl⟩ C M w) :
    Calls Try.prog 15 #[.pointer (some ⟨p, 0, none⟩)] w fun e w' => ∃ c, e = .returned (.int .i64 c) ∧ ∃ s', stP ⟨h, S, P, ep, r, true, sl⟩ s' c ∧ MdM F p s' C M w' ∧ Keeps F w w' := by
  have hlt := hideit hM.lt
  replace hM := hideit hM
  have hE := hideit (Ext.refl w)
  go_enter Try.func15, Try.ntmps15
  go_upto_region 0 with (fail)
  refine wp_region_lit ?_
  have A0 := hideit (row1_new w (.pointer (some ⟨p, 0, none⟩)) 26)
  have XB : Ext w (w.alloc (.cells #[.pointer (some ⟨p, 0, none⟩)] 26)) := (Below.refl _ _).alloc (Nat.le_refl _) _
  have L0 := hideit (hM.out.ext XB)
  have AE := hideit (Ext.trans hE.out (XB))
  have AB := hideit (hE.out.size)
  clear XB
  refine wpList_to rfl (.pointer (some ⟨w.heap.size, 0, none⟩)) (w.alloc (.cells #[.pointer (some ⟨p, 0, none⟩)] 26)) (by simp [go_sem]) ?_
  simp only [Act.put, List.setIfInBounds_toArray, List.set_cons_zero, List.set_cons_succ]
  generalize w.alloc (.cells #[.pointer (some ⟨p, 0, none⟩)] 26) = x2 at A0 L0 AE ⊢
  obtain ⟨z1, ez1⟩ : ∃ b, b = w.heap.size := ⟨_, rfl⟩
  have ABz1 : Hid (w.heap.size ≤ z1) := by rw [ez1]; exact AB.out
  clear AB
  rw [← ez1] at A0  ⊢
  clear ez1
  have Hz1 := A0
  clear A0
  replace hM := L0
  clear L0
  replace hE := AE
  clear AE
  refine xm [some (.int .i64 0)] (by kernel_rfl) (by simp [xr, go_sem]) ?_
  simp only [xw, p0, p1, p2, p3]
  go_upto_region 1 with (fail)
  refine wp_region_lit ?_
  have m3 : x2.cell? ⟨z1, 0, none⟩ = some (.pointer (some ⟨p, 0, none⟩)) := Hz1.out.1 0 (by decide)
  refine xm [some (.pointer (some ⟨p, 0, none⟩)), some (.pointer (some ⟨p, 0, none⟩)), some (.func (.func 40) #[.pointer (some ⟨p, 0, none⟩)] #[]), some (.func (.func 50) #[] #[.pointer (some ⟨z1, 0, none⟩)]), some (.func (.func 51) #[] #[.pointer (some ⟨z1, 0, none⟩)]), some (.pointer (some ⟨p, 0, none⟩)), some (.func (.func 38) #[.pointer (some ⟨p, 0, none⟩)] #[])] (by kernel_rfl) (by simp [xr, go_sem, m3]) ?_
  simp only [xw, p0, p1, p2, p3]
  clear m3
  have A0 := hideit (RowAt.newOf x2 4 (fnV (fun i => [40, 50, 51, 38].getD i 0) (fun i => [#[.pointer (some ⟨p, 0, none⟩)], #[], #[], #[.pointer (some ⟨p, 0, none⟩)]].getD i #[]) (fun i => [#[], #[.pointer (some ⟨z1, 0, none⟩)], #[.pointer (some ⟨z1, 0, none⟩)], #[]].getD i #[])) 47 #[.func (.func 40) #[.pointer (some ⟨p, 0, none⟩)] #[], .func (.func 50) #[] #[.pointer (some ⟨z1, 0, none⟩)], .func (.func 51) #[] #[.pointer (some ⟨z1, 0, none⟩)], .func (.func 38) #[.pointer (some ⟨p, 0, none⟩)] #[]] (fun j hj => by rcases (by omega : j = 0 ∨ j = 1 ∨ j = 2 ∨ j = 3) with rfl | rfl | rfl | rfl <;> rfl))
  have XB : Ext x2 (x2.alloc (.cells #[.func (.func 40) #[.pointer (some ⟨p, 0, none⟩)] #[], .func (.func 50) #[] #[.pointer (some ⟨z1, 0, none⟩)], .func (.func 51) #[] #[.pointer (some ⟨z1, 0, none⟩)], .func (.func 38) #[.pointer (some ⟨p, 0, none⟩)] #[]] 47)) := (Below.refl _ _).alloc (Nat.le_refl _) _
  have A1 := hideit (Hz1.out.carry XB)
  have L0 := hideit (hM.out.ext XB)
  have AE := hideit (Ext.trans hE.out (XB))
  have AB := hideit (hE.out.size)
  have D0 : Hid (z1 ≠ x2.heap.size) := Nat.ne_of_lt Hz1.out.2.2
  clear XB
  refine wpList_to rfl (.slice (some ⟨x2.heap.size, 0, none⟩) 4 4) (x2.alloc (.cells #[.func (.func 40) #[.pointer (some ⟨p, 0, none⟩)] #[], .func (.func 50) #[] #[.pointer (some ⟨z1, 0, none⟩)], .func (.func 51) #[] #[.pointer (some ⟨z1, 0, none⟩)], .func (.func 38) #[.pointer (some ⟨p, 0, none⟩)] #[]] 47)) (by simp [go_sem]) ?_
  simp only [Act.put, List.setIfInBounds_toArray, List.set_cons_zero, List.set_cons_succ]
  generalize x2.alloc (.cells #[.func (.func 40) #[.pointer (some ⟨p, 0, none⟩)] #[], .func (.func 50) #[] #[.pointer (some ⟨z1, 0, none⟩)], .func (.func 51) #[] #[.pointer (some ⟨z1, 0, none⟩)], .func (.func 38) #[.pointer (some ⟨p, 0, none⟩)] #[]] 47) = x7 at A0 A1 L0 AE ⊢
  obtain ⟨z6, ez6⟩ : ∃ b, b = x2.heap.size := ⟨_, rfl⟩
  have ABz6 : Hid (w.heap.size ≤ z6) := by rw [ez6]; exact AB.out
  clear AB
  rw [← ez6] at A0 D0 ⊢
  clear ez6
  have Hz6 := A0
  clear A0
  replace Hz1 := A1
  clear A1
  replace hM := L0
  clear L0
  replace hE := AE
  clear AE
  have Dz6_0 := D0
  clear D0
  have nF : ¬ F z6 := fun e => by have := hlt.out z6 e; have := ABz6.out; omega
  have nM : ¬ F z1 := fun e => by have := hlt.out z1 e; have := ABz1.out; omega
  have kd := hideit (start_do h S P ep r sl hM.out z1 z6 Hz1.out Hz6.out nF nM)
  refine wpList_call rfl (by simp [go_sem]) ((kd.out).mono ?_)
  rintro e y9 ⟨c, s9, rfl, hv9, hM9, hK9⟩
  refine ⟨_, rfl, ?_⟩
  simp only [Act.put, List.setIfInBounds_toArray, List.set_cons_zero, List.set_cons_succ]
  replace hM9 := hideit hM9
  replace hv9 := hideit hv9
  replace hK9 := hideit ((Keeps.of_ext hE.out).trans hK9 fun i hi => .inl hi)
  clear kd hM nF nM
  refine xm [some (.int .i64 (c))] (by kernel_rfl) (by simp [xr, go_sem]) ?_
  simp only [xw, p0, p1, p2, p3]
  go_wp2
  go_ret
  exact ⟨c, rfl, s9, hv9.out, hM9.out, hK9.out⟩
set_option maxRecDepth 20000 in
set_option maxHeartbeats 4000000 in
theorem start_shut {F : Nat → Prop} {p C : Nat} {M : MLoc} {w : World} (h : Hd) (S : Int → Option (Nat → BitVec 8)) (P : Int → Option (Nat × (Nat → BitVec 8))) (ep : Int) (r : Rt) (sl : Int) (hM : MdM F p ⟨h, S, P, ep, r, false, sl⟩ C M w) :
    Calls Try.prog 15 #[.pointer (some ⟨p, 0, none⟩)] w fun e w' => e = .returned (.int .i64 6) ∧ Ext w w' := by
  replace hM := hideit hM
  have hE := hideit (Ext.refl w)
  go_enter Try.func15, Try.ntmps15
  go_upto_region 0 with (fail)
  refine wp_region_lit ?_
  have A0 := hideit (row1_new w (.pointer (some ⟨p, 0, none⟩)) 26)
  have XB : Ext w (w.alloc (.cells #[.pointer (some ⟨p, 0, none⟩)] 26)) := (Below.refl _ _).alloc (Nat.le_refl _) _
  have L0 := hideit (hM.out.ext XB)
  have AE := hideit (Ext.trans hE.out (XB))
  have AB := hideit (hE.out.size)
  clear XB
  refine wpList_to rfl (.pointer (some ⟨w.heap.size, 0, none⟩)) (w.alloc (.cells #[.pointer (some ⟨p, 0, none⟩)] 26)) (by simp [go_sem]) ?_
  simp only [Act.put, List.setIfInBounds_toArray, List.set_cons_zero, List.set_cons_succ]
  generalize w.alloc (.cells #[.pointer (some ⟨p, 0, none⟩)] 26) = x2 at A0 L0 AE ⊢
  obtain ⟨z1, ez1⟩ : ∃ b, b = w.heap.size := ⟨_, rfl⟩
  have ABz1 : Hid (w.heap.size ≤ z1) := by rw [ez1]; exact AB.out
  clear AB
  rw [← ez1] at A0  ⊢
  clear ez1
  have Hz1 := A0
  clear A0
  replace hM := L0
  clear L0
  replace hE := AE
  clear AE
  refine xm [some (.int .i64 0)] (by kernel_rfl) (by simp [xr, go_sem]) ?_
  simp only [xw, p0, p1, p2, p3]
  go_upto_region 1 with (fail)
  refine wp_region_lit ?_
  have m3 : x2.cell? ⟨z1, 0, none⟩ = some (.pointer (some ⟨p, 0, none⟩)) := Hz1.out.1 0 (by decide)
  refine xm [some (.pointer (some ⟨p, 0, none⟩)), some (.pointer (some ⟨p, 0, none⟩)), some (.func (.func 40) #[.pointer (some ⟨p, 0, none⟩)] #[]), some (.func (.func 50) #[] #[.pointer (some ⟨z1, 0, none⟩)]), some (.func (.func 51) #[] #[.pointer (some ⟨z1, 0, none⟩)]), some (.pointer (some ⟨p, 0, none⟩)), some (.func (.func 38) #[.pointer (some ⟨p, 0, none⟩)] #[])] (by kernel_rfl) (by simp [xr, go_sem, m3]) ?_
  simp only [xw, p0, p1, p2, p3]
  clear m3
  have A0 := hideit (RowAt.newOf x2 4 (fnV (fun i => [40, 50, 51, 38].getD i 0) (fun i => [#[.pointer (some ⟨p, 0, none⟩)], #[], #[], #[.pointer (some ⟨p, 0, none⟩)]].getD i #[]) (fun i => [#[], #[.pointer (some ⟨z1, 0, none⟩)], #[.pointer (some ⟨z1, 0, none⟩)], #[]].getD i #[])) 47 #[.func (.func 40) #[.pointer (some ⟨p, 0, none⟩)] #[], .func (.func 50) #[] #[.pointer (some ⟨z1, 0, none⟩)], .func (.func 51) #[] #[.pointer (some ⟨z1, 0, none⟩)], .func (.func 38) #[.pointer (some ⟨p, 0, none⟩)] #[]] (fun j hj => by rcases (by omega : j = 0 ∨ j = 1 ∨ j = 2 ∨ j = 3) with rfl | rfl | rfl | rfl <;> rfl))
  have XB : Ext x2 (x2.alloc (.cells #[.func (.func 40) #[.pointer (some ⟨p, 0, none⟩)] #[], .func (.func 50) #[] #[.pointer (some ⟨z1, 0, none⟩)], .func (.func 51) #[] #[.pointer (some ⟨z1, 0, none⟩)], .func (.func 38) #[.pointer (some ⟨p, 0, none⟩)] #[]] 47)) := (Below.refl _ _).alloc (Nat.le_refl _) _
  have A1 := hideit (Hz1.out.carry XB)
  have L0 := hideit (hM.out.ext XB)
  have AE := hideit (Ext.trans hE.out (XB))
  have AB := hideit (hE.out.size)
  have D0 : Hid (z1 ≠ x2.heap.size) := Nat.ne_of_lt Hz1.out.2.2
  clear XB
  refine wpList_to rfl (.slice (some ⟨x2.heap.size, 0, none⟩) 4 4) (x2.alloc (.cells #[.func (.func 40) #[.pointer (some ⟨p, 0, none⟩)] #[], .func (.func 50) #[] #[.pointer (some ⟨z1, 0, none⟩)], .func (.func 51) #[] #[.pointer (some ⟨z1, 0, none⟩)], .func (.func 38) #[.pointer (some ⟨p, 0, none⟩)] #[]] 47)) (by simp [go_sem]) ?_
  simp only [Act.put, List.setIfInBounds_toArray, List.set_cons_zero, List.set_cons_succ]
  generalize x2.alloc (.cells #[.func (.func 40) #[.pointer (some ⟨p, 0, none⟩)] #[], .func (.func 50) #[] #[.pointer (some ⟨z1, 0, none⟩)], .func (.func 51) #[] #[.pointer (some ⟨z1, 0, none⟩)], .func (.func 38) #[.pointer (some ⟨p, 0, none⟩)] #[]] 47) = x7 at A0 A1 L0 AE ⊢
  obtain ⟨z6, ez6⟩ : ∃ b, b = x2.heap.size := ⟨_, rfl⟩
  have ABz6 : Hid (w.heap.size ≤ z6) := by rw [ez6]; exact AB.out
  clear AB
  rw [← ez6] at A0 D0 ⊢
  clear ez6
  have Hz6 := A0
  clear A0
  replace Hz1 := A1
  clear A1
  replace hM := L0
  clear L0
  replace hE := AE
  clear AE
  have Dz6_0 := D0
  clear D0
  refine wpList_call rfl (by simp [go_sem]) ((do_shut h M.sb M.pb ep r sl p (.slice (some ⟨z6, 0, none⟩) 4 4) x7 hM.out.st).mono ?_)
  rintro e yy ⟨rfl, hyy⟩
  refine ⟨_, rfl, ?_⟩
  simp only [Act.put, List.setIfInBounds_toArray, List.set_cons_zero, List.set_cons_succ]
  replace hyy := hyy.symm
  subst hyy
  refine xm [some (.int .i64 6)] (by kernel_rfl) (by simp [xr, go_sem]) ?_
  simp only [xw, p0, p1, p2, p3]
  go_wp2
  go_ret
  exact ⟨rfl, hE.out⟩
end Go.Proofs.Ytcipkfalnjgghaa
