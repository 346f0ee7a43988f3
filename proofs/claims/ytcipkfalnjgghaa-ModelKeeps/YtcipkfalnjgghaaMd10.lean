/-
  Open.
-/
import Derived.Test.YtcipkfalnjgghaaMd9
namespace Go.Proofs.Ytcipkfalnjgghaa
open Go.RowKit Go.BigFrame Go.Maps
set_option linter.unusedVariables false
/-- has slot k this passphrase? -/
def fnd (s : MSt) (l : Nat) (f : Nat → BitVec 8) (k : Nat) : Bool := match s.P (k : Int) with
  | some (l', f') => eqB l' l f' f
  | none => false
theorem md_open (h : Hd) (sb pb : Nat) (ep : Int) (r : Rt) (op : Bool) (sl : Int) (x : Bool) (y : Int) (j : Nat) (hj : j < 64) : (if j = 63 then Value.int .i64 y else (fun j => if j = 62 then Value.bool x else mdV h sb pb ep r op sl j) j) = mdV h sb pb ep r x y j := by
  unfold mdV
  by_cases h1 : j = 63
  · subst h1; rfl
  · by_cases h2 : j = 62
    · subst h2; rfl
    · have h3 : j < 62 := by omega
      simp only [h1, h2, h3, if_true, if_false]
set_option maxRecDepth 20000 in
set_option maxHeartbeats 4000000 in
theorem open_long {F : Nat → Prop} {p C : Nat} {M : MLoc} {w : World} (s : MSt) (hM : MdM F p s C M w) (o : Option Addr) (l k : Nat) (hl : 512 < l) : Calls Try.prog 10 #[.pointer (some ⟨p, 0, none⟩), .slice o l k] w fun e w' => e = .returned (.int .i64 1) ∧ w' = w := by
  have hS := hM.st
  have hq := long_any o l k w
  rw [decide_eq_true (by omega)] at hq
  replace hS := hideit hS
  replace hM := hideit hM
  replace hq := hideit hq
  go_enter Try.func10, Try.ntmps10
  go_upto_region 1 with (fail)
  refine wp_region_lit ?_
  refine xm [some (.pointer (some ⟨p, 0, none⟩)), some (.bool false)] (by kernel_rfl) (by simp [xr, go_sem]) ?_
  simp only [xw, p0, p1, p2, p3]
  go_upto_region 3 with (fail)
  refine wp_region_lit ?_
  refine xm [some (.slice o l k)] (by kernel_rfl) (by simp [xr, go_sem]) ?_
  simp only [xw, p0, p1, p2, p3]
  refine wpList_call rfl (by simp [go_sem]) ((hq.out).mono ?_)
  rintro e yy ⟨rfl, hyy⟩
  refine ⟨_, rfl, ?_⟩
  simp only [Act.put, List.setIfInBounds_toArray, List.set_cons_zero, List.set_cons_succ]
  replace hyy := hyy.symm
  subst hyy
  go_upto_region 4 with (fail)
  refine wp_region_lit ?_
  refine xm [some (.int .i64 1)] (by kernel_rfl) (by simp [xr, go_sem]) ?_
  simp only [xw, p0, p1, p2, p3]
  go_wp2
  go_ret
  exact ⟨rfl, rfl⟩
set_option maxRecDepth 20000 in
set_option maxHeartbeats 4000000 in
theorem open_short {F : Nat → Prop} {p C : Nat} {M : MLoc} {w : World} (s : MSt) (hM : MdM F p s C M w) (o : Option Addr) (l k : Nat) (f : Nat → BitVec 8) (hV : BV (.slice o l k) l f w) (hl : l ≤ 512) : Calls Try.prog 10 #[.pointer (some ⟨p, 0, none⟩), .slice o l k] w fun e w' => ∃ c : Int, e = .returned (.int .i64 c) ∧ ((c = 0 ∧ ∃ i : Nat, (i : Int) < s.h.sl ∧ fnd s l f i = true ∧ (∀ q, q < i → fnd s l f q = false) ∧ RowAt p 64 (mdV s.h M.sb M.pb s.ep s.r true (i : Int)) w') ∨ (c = 200 ∧ (∀ q : Nat, (q : Int) < s.h.sl → fnd s l f q = false) ∧ w' = w)) ∧ Keeps (fun i => i = p) w w' := by
  have hS := hM.st
  have hsl : 1 ≤ s.h.sl ∧ s.h.sl ≤ 8 := hM.okh.1.2.2.1
  have hq := long_any o l k w
  rw [decide_eq_false (by omega)] at hq
  replace hS := hideit hS
  replace hM := hideit hM
  replace hq := hideit hq
  replace hV := hideit hV
  replace hsl := hideit hsl
  go_enter Try.func10, Try.ntmps10
  go_upto_region 1 with (fail)
  refine wp_region_lit ?_
  refine xm [some (.pointer (some ⟨p, 0, none⟩)), some (.bool false)] (by kernel_rfl) (by simp [xr, go_sem]) ?_
  simp only [xw, p0, p1, p2, p3]
  go_upto_region 3 with (fail)
  refine wp_region_lit ?_
  refine xm [some (.slice o l k)] (by kernel_rfl) (by simp [xr, go_sem]) ?_
  simp only [xw, p0, p1, p2, p3]
  refine wpList_call rfl (by simp [go_sem]) ((hq.out).mono ?_)
  rintro e yy ⟨rfl, hyy⟩
  refine ⟨_, rfl, ?_⟩
  simp only [Act.put, List.setIfInBounds_toArray, List.set_cons_zero, List.set_cons_succ]
  replace hyy := hyy.symm
  subst hyy
  go_upto_region 5 with (fail)
  refine wp_region_lit ?_
  have m1 : w.cell? ⟨p, 2, none⟩ = some (.int .i64 (s.h.sl)) := hS.out.1 2 (by decide)
  refine xm [some (.pointer (some ⟨p, 0, none⟩)), some (.pointer (some ⟨p, 0, none⟩)), some (.pointer (some ⟨p, 0, none⟩)), some (.pointer (some ⟨p, 2, none⟩)), some (.int .i64 (s.h.sl)), some (.int .i64 0)] (by kernel_rfl) (by simp [xr, go_sem, m1]) ?_
  simp only [xw, p0, p1, p2, p3]
  clear m1
  go_wp2
  go_loopw [15] (fun t X => ∃ i : Nat, (i : Int) ≤ s.h.sl ∧ t = .int .i64 (i : Int) ∧ X = w ∧ ∀ q, q < i → fnd s l f q = false) (fun t _ => 9 - (intOf t).toNat)
  case atStart => exact ⟨0, by have := hsl.out; omega, rfl, by first | rfl | trivial, fun q hq => absurd hq (Nat.not_lt_zero _)⟩
  case round =>
    obtain ⟨i, hi, rfl, rfl, hno⟩ := hrel
    replace hno := hideit hno
    clear hq
    by_cases hi2 : (i : Int) < s.h.sl
    · have ek : IntKind.i64.wrap ((i : Int) + 1) = ((i + 1 : Nat) : Int) := by have := hsl.out; rw [IntKind.wrap_i64]; omega
      have hi3 := hideit hi2
      clear hi hi2
      have hok : okI (i : Int) := WalkArith.wf_i64 (by have h1 := hi3.out; have h2 := hsl.out; omega)
      have hq2 := has_any s.h M.sb M.pb s.ep s.r s.op s.sl p C M.m (i : Int) wr hS.out hM.out.mpP hok
      cases hm : M.m (i : Int) with
      | none =>
        rw [hm] at hq2
        replace hq2 := hideit hq2
        have hf : Hid (fnd s l f i = false) := by
          have h1 := hM.out.hasP (i : Int)
          rw [hm] at h1
          show fnd s l f i = false
          unfold fnd
          cases hP : s.P (i : Int) with
          | none => rfl
          | some x => rw [hP] at h1; cases h1
        clear hok hm
        go_upto_region 6 with (fail)
        refine wp_region_lit ?_
        refine xm [some (.bool true)] (by kernel_rfl) (by simp [xr, go_sem, hi3.out]) ?_
        simp only [xw, p0, p1, p2, p3]
        go_upto_region 7 with (fail)
        refine wp_region_lit ?_
        refine xm [some (.int .i64 (i : Int)), some (.int .i64 (i : Int))] (by kernel_rfl) (by simp [xr, go_sem]) ?_
        simp only [xw, p0, p1, p2, p3]
        go_upto_region 8 with (fail)
        refine wp_region_lit ?_
        refine xm [some (.pointer (some ⟨p, 0, none⟩)), some (.int .i64 (i : Int))] (by kernel_rfl) (by simp [xr, go_sem]) ?_
        simp only [xw, p0, p1, p2, p3]
        refine wpList_call rfl (by simp [go_sem]) ((hq2.out).mono ?_)
        rintro e yy ⟨rfl, hyy⟩
        refine ⟨_, rfl, ?_⟩
        simp only [Act.put, List.setIfInBounds_toArray, List.set_cons_zero, List.set_cons_succ]
        replace hyy := hyy.symm
        subst hyy
        refine xm [some (.bool false), none, none, none, none, none, none, none, none, some (.bool false)] (by kernel_rfl) (by simp [xr, go_sem]) ?_
        simp only [xw, p0, p1, p2, p3]
        go_upto_region 11 with (fail)
        refine wp_region_lit ?_
        refine xm [some (.int .i64 ((i + 1 : Nat) : Int)), some (.int .i64 ((i + 1 : Nat) : Int))] (by kernel_rfl) (by simp [xr, go_sem, ek]) ?_
        simp only [xw, p0, p1, p2, p3]
        go_wp2
        go_round
        case rel => exact ⟨i + 1, by have := hi3.out; omega, rfl, by first | rfl | trivial, fun q hq => by
          by_cases e : q = i
          · subst e; exact hf.out
          · exact hno.out q (by omega)⟩
        case measure => have := hi3.out; have := hsl.out; simp [intOf]; omega
      | some v =>
        rw [hm] at hq2
        obtain ⟨l', f', hP, _, hBB⟩ := hM.out.cont (i : Int) v hm
        have hlk := hM.out.mpP.look Try.underlying3 Try.underlying63 (zero22 wr) hok
        rw [hm] at hlk
        have hq3 := equal_any v (.slice o l k) l' l f' f wr hBB.1 hV.out
        obtain ⟨vo, vk, rfl⟩ := hBB.1.form
        obtain ⟨vl, hvl⟩ : ∃ q, q = l' := ⟨_, rfl⟩
        cases he : eqB l' l f' f with
        | true =>
          have hf : Hid (fnd s l f i = true) := by show fnd s l f i = true; unfold fnd; rw [hP]; exact he
          rw [he] at hq3
          rw [← hvl] at hq3 hlk
          replace hq2 := hideit hq2
          replace hq3 := hideit hq3
          replace hlk := hideit hlk
          clear hok hm hP hBB he hvl
          go_upto_region 6 with (fail)
          refine wp_region_lit ?_
          refine xm [some (.bool true)] (by kernel_rfl) (by simp [xr, go_sem, hi3.out]) ?_
          simp only [xw, p0, p1, p2, p3]
          go_upto_region 7 with (fail)
          refine wp_region_lit ?_
          refine xm [some (.int .i64 (i : Int)), some (.int .i64 (i : Int))] (by kernel_rfl) (by simp [xr, go_sem]) ?_
          simp only [xw, p0, p1, p2, p3]
          go_upto_region 8 with (fail)
          refine wp_region_lit ?_
          refine xm [some (.pointer (some ⟨p, 0, none⟩)), some (.int .i64 (i : Int))] (by kernel_rfl) (by simp [xr, go_sem]) ?_
          simp only [xw, p0, p1, p2, p3]
          refine wpList_call rfl (by simp [go_sem]) ((hq2.out).mono ?_)
          rintro e yy ⟨rfl, hyy⟩
          refine ⟨_, rfl, ?_⟩
          simp only [Act.put, List.setIfInBounds_toArray, List.set_cons_zero, List.set_cons_succ]
          replace hyy := hyy.symm
          subst hyy
          have m2 : wr.cell? ⟨p, 25, none⟩ = some (.map (some M.pb)) := hS.out.1 25 (by decide)
          refine xm [some (.bool true), some (.pointer (some ⟨p, 0, none⟩)), some (.pointer (some ⟨p, 0, none⟩)), some (.pointer (some ⟨p, 25, none⟩)), some (.map (some M.pb)), some (.int .i64 (i : Int))] (by kernel_rfl) (by simp [xr, go_sem, m2]) ?_
          simp only [xw, p0, p1, p2, p3]
          clear m2
          refine wpList_runW rfl (.slice vo vl vk) (xlook (.tmp 25) (.tmp 26) rfl rfl rfl hlk.out) ?_
          simp only [Act.put, List.setIfInBounds_toArray, List.set_cons_zero, List.set_cons_succ]
          refine xm [some (.slice o l k)] (by kernel_rfl) (by simp [xr, go_sem]) ?_
          simp only [xw, p0, p1, p2, p3]
          refine wpList_callW rfl (by simp [go_sem]) ((hq3.out).mono ?_)
          rintro e yy ⟨rfl, hyy⟩
          refine ⟨_, rfl, ?_⟩
          simp only [Act.put, List.setIfInBounds_toArray, List.set_cons_zero, List.set_cons_succ]
          replace hyy := hyy.symm
          subst hyy
          refine xm [some (.bool true)] (by kernel_rfl) (by simp [xr, go_sem]) ?_
          simp only [xw, p0, p1, p2, p3]
          have hE := hideit (Keeps.refl (fun i => i = p) wr)
          go_upto_region 9 with (fail)
          refine wp_region_lit ?_
          refine xm [some (.pointer (some ⟨p, 0, none⟩)), some (.pointer (some ⟨p, 0, none⟩)), some (.int .i64 (i : Int)), some (.pointer (some ⟨p, 0, none⟩)), some (.pointer (some ⟨p, 62, none⟩))] (by kernel_rfl) (by simp [xr, go_sem]) ?_
          simp only [xw, p0, p1, p2, p3]
          have M0 : wr.cell? ⟨p, 62, none⟩ = some (.bool s.op) := hS.out.1 62 (by decide)
          have M1 : wr.frozen? ⟨p, 62, none⟩ = false := hS.out.2.1 62 (by decide)
          have N0 := hideit (hS.out.set 62 (.bool true))
          have NE := hideit (hE.out.setCell (p := ⟨p, 62, none⟩) (.inl rfl) (.bool true))
          refine xst rfl (wr.setCell ⟨p, 62, none⟩ (.bool true)) (by simp [go_sem, M0, M1]) ?_
          simp only [Act.put]
          generalize wr.setCell ⟨p, 62, none⟩ (.bool true) = x3 at N0 NE ⊢
          clear M0 M1
          replace hS := N0
          replace hE := NE
          clear N0 NE
          refine xm [some (.pointer (some ⟨p, 0, none⟩)), some (.pointer (some ⟨p, 63, none⟩))] (by kernel_rfl) (by simp [xr, go_sem]) ?_
          simp only [xw, p0, p1, p2, p3]
          have M0 : x3.cell? ⟨p, 63, none⟩ = some (.int .i64 (s.sl)) := hS.out.1 63 (by decide)
          have M1 : x3.frozen? ⟨p, 63, none⟩ = false := hS.out.2.1 63 (by decide)
          have N0 := hideit (hS.out.set 63 (.int .i64 (i : Int)))
          have NE := hideit (hE.out.setCell (p := ⟨p, 63, none⟩) (.inl rfl) (.int .i64 (i : Int)))
          refine xst rfl (x3.setCell ⟨p, 63, none⟩ (.int .i64 (i : Int))) (by simp [go_sem, M0, M1]) ?_
          simp only [Act.put]
          generalize x3.setCell ⟨p, 63, none⟩ (.int .i64 (i : Int)) = x4 at N0 NE ⊢
          clear M0 M1
          replace N0 := hideit (N0.out.congr (g' := mdV s.h M.sb M.pb s.ep s.r true (i : Int)) (fun j hj => md_open s.h M.sb M.pb s.ep s.r s.op s.sl true (i : Int) j hj))
          replace hS := N0
          replace hE := NE
          clear N0 NE
          go_upto_region 10 with (fail)
          refine wp_region_lit ?_
          refine xm [some (.int .i64 0)] (by kernel_rfl) (by simp [xr, go_sem]) ?_
          simp only [xw, p0, p1, p2, p3]
          go_wp2
          go_ret
          exact ⟨0, rfl, .inl (⟨rfl, i, hi3.out, hf.out, hno.out, hS.out⟩), hE.out⟩
        | false =>
          have hf : Hid (fnd s l f i = false) := by show fnd s l f i = false; unfold fnd; rw [hP]; exact he
          rw [he] at hq3
          rw [← hvl] at hq3 hlk
          replace hq2 := hideit hq2
          replace hq3 := hideit hq3
          replace hlk := hideit hlk
          clear hok hm hP hBB he hvl
          go_upto_region 6 with (fail)
          refine wp_region_lit ?_
          refine xm [some (.bool true)] (by kernel_rfl) (by simp [xr, go_sem, hi3.out]) ?_
          simp only [xw, p0, p1, p2, p3]
          go_upto_region 7 with (fail)
          refine wp_region_lit ?_
          refine xm [some (.int .i64 (i : Int)), some (.int .i64 (i : Int))] (by kernel_rfl) (by simp [xr, go_sem]) ?_
          simp only [xw, p0, p1, p2, p3]
          go_upto_region 8 with (fail)
          refine wp_region_lit ?_
          refine xm [some (.pointer (some ⟨p, 0, none⟩)), some (.int .i64 (i : Int))] (by kernel_rfl) (by simp [xr, go_sem]) ?_
          simp only [xw, p0, p1, p2, p3]
          refine wpList_call rfl (by simp [go_sem]) ((hq2.out).mono ?_)
          rintro e yy ⟨rfl, hyy⟩
          refine ⟨_, rfl, ?_⟩
          simp only [Act.put, List.setIfInBounds_toArray, List.set_cons_zero, List.set_cons_succ]
          replace hyy := hyy.symm
          subst hyy
          have m2 : wr.cell? ⟨p, 25, none⟩ = some (.map (some M.pb)) := hS.out.1 25 (by decide)
          refine xm [some (.bool true), some (.pointer (some ⟨p, 0, none⟩)), some (.pointer (some ⟨p, 0, none⟩)), some (.pointer (some ⟨p, 25, none⟩)), some (.map (some M.pb)), some (.int .i64 (i : Int))] (by kernel_rfl) (by simp [xr, go_sem, m2]) ?_
          simp only [xw, p0, p1, p2, p3]
          clear m2
          refine wpList_runW rfl (.slice vo vl vk) (xlook (.tmp 25) (.tmp 26) rfl rfl rfl hlk.out) ?_
          simp only [Act.put, List.setIfInBounds_toArray, List.set_cons_zero, List.set_cons_succ]
          refine xm [some (.slice o l k)] (by kernel_rfl) (by simp [xr, go_sem]) ?_
          simp only [xw, p0, p1, p2, p3]
          refine wpList_callW rfl (by simp [go_sem]) ((hq3.out).mono ?_)
          rintro e yy ⟨rfl, hyy⟩
          refine ⟨_, rfl, ?_⟩
          simp only [Act.put, List.setIfInBounds_toArray, List.set_cons_zero, List.set_cons_succ]
          replace hyy := hyy.symm
          subst hyy
          refine xm [some (.bool false)] (by kernel_rfl) (by simp [xr, go_sem]) ?_
          simp only [xw, p0, p1, p2, p3]
          go_upto_region 11 with (fail)
          refine wp_region_lit ?_
          refine xm [some (.int .i64 ((i + 1 : Nat) : Int)), some (.int .i64 ((i + 1 : Nat) : Int))] (by kernel_rfl) (by simp [xr, go_sem, ek]) ?_
          simp only [xw, p0, p1, p2, p3]
          go_wp2
          go_round
          case rel => exact ⟨i + 1, by have := hi3.out; omega, rfl, by first | rfl | trivial, fun q hq => by
            by_cases e : q = i
            · subst e; exact hf.out
            · exact hno.out q (by omega)⟩
          case measure => have := hi3.out; have := hsl.out; simp [intOf]; omega
    · have hi3 := hideit hi2
      clear hi hi2
      go_upto_region 6 with (fail)
      refine wp_region_lit ?_
      refine xm [some (.bool false)] (by kernel_rfl) (by simp [xr, go_sem, hi3.out]) ?_
      simp only [xw, p0, p1, p2, p3]
      go_upto_region 12 with (fail)
      refine wp_region_lit ?_
      refine xm [some (.int .i64 200)] (by kernel_rfl) (by simp [xr, go_sem]) ?_
      simp only [xw, p0, p1, p2, p3]
      go_wp2
      go_ret
      exact ⟨200, rfl, .inr (⟨rfl, fun q hq => hno.out q (by have := hi3.out; omega), rfl⟩), Keeps.refl _ _⟩
/-- Open tells .. -/
def opE (s s' : MSt) (l : Nat) (f : Nat → BitVec 8) (c : Int) : Prop := (c = 1 ∧ 512 < l ∧ s' = s) ∨ (c = 0 ∧ l ≤ 512 ∧ ∃ i : Nat, (i : Int) < s.h.sl ∧ fnd s l f i = true ∧ (∀ q, q < i → fnd s l f q = false) ∧ s' = { s with op := true, sl := (i : Int) }) ∨ (c = 200 ∧ l ≤ 512 ∧ (∀ q : Nat, (q : Int) < s.h.sl → fnd s l f q = false) ∧ s' = s)
theorem open_any {F : Nat → Prop} {p C : Nat} {M : MLoc} {w : World} (s : MSt) (hM : MdM F p s C M w) (o : Option Addr) (l k : Nat) (f : Nat → BitVec 8) (hV : BV (.slice o l k) l f w) : Calls Try.prog 10 #[.pointer (some ⟨p, 0, none⟩), .slice o l k] w fun e w' => ∃ c s', e = .returned (.int .i64 c) ∧ opE s s' l f c ∧ MdM F p s' C M w' ∧ Keeps F w w' := by
  by_cases hl : l ≤ 512
  · refine (open_short s hM o l k f hV hl).mono ?_
    rintro e w' ⟨c, h1, h2, h3⟩
    have h4 : Keeps F w w' := h3.mono fun i hi => by rw [hi]; exact hM.fp
    rcases h2 with ⟨rfl, i, a1, a2, a3, a4⟩ | ⟨rfl, a1, rfl⟩
    · exact ⟨0, { s with op := true, sl := (i : Int) }, h1, .inr (.inl ⟨rfl, hl, i, a1, a2, a3, rfl⟩), hM.step h3 (fun i hi => by rw [hi]; exact hM.fp) { s with op := true, sl := (i : Int) } rfl rfl hM.eps a4 (hM.mpS.keep h3 fun e => hM.ps e.symm) (Nat.le_refl _) hM.kS (fun e => hM.pm e.symm), h4⟩
    · exact ⟨200, s, h1, .inr (.inr ⟨rfl, hl, a1, rfl⟩), hM, h4⟩
  · refine (open_long s hM o l k (by omega)).mono ?_
    rintro e w' ⟨h1, rfl⟩
    exact ⟨1, s, h1, .inl ⟨rfl, by omega, rfl⟩, hM, Keeps.refl _ _⟩
end Go.Proofs.Ytcipkfalnjgghaa
