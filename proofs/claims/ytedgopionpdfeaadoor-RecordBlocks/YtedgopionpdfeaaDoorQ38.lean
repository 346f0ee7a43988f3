/-
  The document's right. Bytes of one's own that grow; the document's plan.
-/
import Derived.Test.YtedgopionpdfeaaDoorQ37
import Derived.Deep.CutRange
namespace Go.Proofs.YtedgopionpdfeaaDoor
open Go.RowKit Go.BigFrame
set_option linter.unusedVariables false
theorem IL.at {o : Option Addr} {n cap : Nat} {bs : Nat → Int} {w : World} (h : IL (.slice o n cap) n bs w) (k : Nat) (hk : k < n) : ∃ a, o = some a ∧ w.cell? (a.add k) = some (.int .i64 (bs k)) := by
  rcases h.1 with ⟨_, h0⟩ | ⟨a, c, h1, _, h3⟩
  · omega
  · injection h1 with h1
    exact ⟨a, h1, h3.1 k hk⟩
set_option maxRecDepth 20000 in
set_option maxHeartbeats 4000000 in
theorem rright_any (v : Value) (n : Nat) (bs : Nat → Int) (w : World) (h : IL v n bs w) (hn : n ≤ 64) (R : Bool) (hR : R = true ↔ rbs n bs ∧ 1 ≤ n) : Calls Tryd.prog 28 #[v] w fun e w' => e = .returned (.bool R) ∧ Ext w w' := by
  obtain ⟨o, cap, rfl⟩ := h.form
  have no : ¬ (rbs n bs ∧ 1 ≤ n) → R = false := fun hh => by
    cases R with
    | true => exact absurd (hR.1 rfl) hh
    | false => rfl
  have yes : rbs n bs ∧ 1 ≤ n → R = true := hR.2
  clear hR
  replace no := hideit no
  replace yes := hideit yes
  replace h := hideit h
  replace hn := hideit hn
  go_enter Tryd.func28, Tryd.ntmps28
  go_wp2
  go_loopw [3] (fun iv X => ∃ i : Nat, i ≤ n ∧ iv = .int .i64 (i : Int) ∧ rbs i bs ∧ Ext w X) (fun iv _ => 64 - (intOf iv).toNat)
  case atStart => exact ⟨0, Nat.zero_le _, rfl, fun i hi => absurd hi (Nat.not_lt_zero _), Ext.refl _⟩
  case round =>
    obtain ⟨i, hi, rfl, hI, hX⟩ := hrel
    replace hI := hideit hI
    by_cases hlt : i < n
    · have i0 : (0 : Int) ≤ (i : Int) := by omega
      have i1 : (i : Int) < (n : Int) := by omega
      obtain ⟨a, rfl, hel⟩ := (h.out.ext hX).at i hlt
      replace hX := hideit hX
      replace hlt := hideit hlt
      by_cases b1 : bs i < 0
      · have hf : Hid (R = false) := no.out fun hh => by have := (hh.1 i hlt.out).1.1; omega
        go_upto_region 2 with (fail)
        refine wp_region_lit ?_
        refine wpList_run rfl (.int .i64 (i : Int)) (by simp [go_sem]) ?_
        simp only [Act.put, List.setIfInBounds_toArray, List.set_cons_zero, List.set_cons_succ]
        refine wpList_run rfl (.slice (some a) n cap) (by simp [go_sem]) ?_
        simp only [Act.put, List.setIfInBounds_toArray, List.set_cons_zero, List.set_cons_succ]
        refine wpList_run rfl (.int .i64 (n : Int)) (by simp [go_sem]) ?_
        simp only [Act.put, List.setIfInBounds_toArray, List.set_cons_zero, List.set_cons_succ]
        refine wpList_run rfl (.bool true) (by simp [go_sem, i1]) ?_
        simp only [Act.put, List.setIfInBounds_toArray, List.set_cons_zero, List.set_cons_succ]
        go_upto_region 4 with (fail)
        refine wp_region_lit ?_
        refine wpList_run rfl (.slice (some a) n cap) (by simp [go_sem]) ?_
        simp only [Act.put, List.setIfInBounds_toArray, List.set_cons_zero, List.set_cons_succ]
        refine wpList_run rfl (.int .i64 (i : Int)) (by simp [go_sem]) ?_
        simp only [Act.put, List.setIfInBounds_toArray, List.set_cons_zero, List.set_cons_succ]
        refine wpList_run rfl (.pointer (some (a.add i))) (by simp [go_sem, i1]) ?_
        simp only [Act.put, List.setIfInBounds_toArray, List.set_cons_zero, List.set_cons_succ]
        refine wpList_run rfl (.int .i64 (bs i)) (by simp [go_sem, hel]) ?_
        simp only [Act.put, List.setIfInBounds_toArray, List.set_cons_zero, List.set_cons_succ]
        refine wpList_run rfl (.bool true) (by simp [go_sem, b1]) ?_
        simp only [Act.put, List.setIfInBounds_toArray, List.set_cons_zero, List.set_cons_succ]
        refine wpList_run rfl (.bool true) (by simp [go_sem]) ?_
        simp only [Act.put, List.setIfInBounds_toArray, List.set_cons_zero, List.set_cons_succ]
        with_reducible refine xnot (by with_unfolding_all rfl) ?_
        simp only [Act.put, List.setIfInBounds_toArray, List.set_cons_zero, List.set_cons_succ]
        with_reducible refine xnot (by with_unfolding_all rfl) ?_
        simp only [Act.put, List.setIfInBounds_toArray, List.set_cons_zero, List.set_cons_succ]
        with_reducible refine xnot (by with_unfolding_all rfl) ?_
        simp only [Act.put, List.setIfInBounds_toArray, List.set_cons_zero, List.set_cons_succ]
        with_reducible refine xnot (by with_unfolding_all rfl) ?_
        simp only [Act.put, List.setIfInBounds_toArray, List.set_cons_zero, List.set_cons_succ]
        with_reducible refine xnot (by with_unfolding_all rfl) ?_
        simp only [Act.put, List.setIfInBounds_toArray, List.set_cons_zero, List.set_cons_succ]
        refine wpList_run rfl (.bool true) (by simp [go_sem]) ?_
        simp only [Act.put, List.setIfInBounds_toArray, List.set_cons_zero, List.set_cons_succ]
        go_wp2
        go_ret
        exact ⟨ret_bool hf.out.symm, hX.out⟩
      · by_cases b2 : 4095 < bs i
        · have hf : Hid (R = false) := no.out fun hh => by have := (hh.1 i hlt.out).1.2; omega
          go_upto_region 2 with (fail)
          refine wp_region_lit ?_
          refine wpList_run rfl (.int .i64 (i : Int)) (by simp [go_sem]) ?_
          simp only [Act.put, List.setIfInBounds_toArray, List.set_cons_zero, List.set_cons_succ]
          refine wpList_run rfl (.slice (some a) n cap) (by simp [go_sem]) ?_
          simp only [Act.put, List.setIfInBounds_toArray, List.set_cons_zero, List.set_cons_succ]
          refine wpList_run rfl (.int .i64 (n : Int)) (by simp [go_sem]) ?_
          simp only [Act.put, List.setIfInBounds_toArray, List.set_cons_zero, List.set_cons_succ]
          refine wpList_run rfl (.bool true) (by simp [go_sem, i1]) ?_
          simp only [Act.put, List.setIfInBounds_toArray, List.set_cons_zero, List.set_cons_succ]
          go_upto_region 4 with (fail)
          refine wp_region_lit ?_
          refine wpList_run rfl (.slice (some a) n cap) (by simp [go_sem]) ?_
          simp only [Act.put, List.setIfInBounds_toArray, List.set_cons_zero, List.set_cons_succ]
          refine wpList_run rfl (.int .i64 (i : Int)) (by simp [go_sem]) ?_
          simp only [Act.put, List.setIfInBounds_toArray, List.set_cons_zero, List.set_cons_succ]
          refine wpList_run rfl (.pointer (some (a.add i))) (by simp [go_sem, i1]) ?_
          simp only [Act.put, List.setIfInBounds_toArray, List.set_cons_zero, List.set_cons_succ]
          refine wpList_run rfl (.int .i64 (bs i)) (by simp [go_sem, hel]) ?_
          simp only [Act.put, List.setIfInBounds_toArray, List.set_cons_zero, List.set_cons_succ]
          refine wpList_run rfl (.bool false) (by simp [go_sem, b1]) ?_
          simp only [Act.put, List.setIfInBounds_toArray, List.set_cons_zero, List.set_cons_succ]
          refine wpList_run rfl (.bool false) (by simp [go_sem]) ?_
          simp only [Act.put, List.setIfInBounds_toArray, List.set_cons_zero, List.set_cons_succ]
          refine wpList_runW rfl (.slice (some a) n cap) (by simp [go_sem]) ?_
          simp only [Act.put, List.setIfInBounds_toArray, List.set_cons_zero, List.set_cons_succ]
          refine wpList_runW rfl (.int .i64 (i : Int)) (by simp [go_sem]) ?_
          simp only [Act.put, List.setIfInBounds_toArray, List.set_cons_zero, List.set_cons_succ]
          refine wpList_runW rfl (.pointer (some (a.add i))) (by simp [go_sem, i1]) ?_
          simp only [Act.put, List.setIfInBounds_toArray, List.set_cons_zero, List.set_cons_succ]
          refine wpList_runW rfl (.int .i64 (bs i)) (by simp [go_sem, hel]) ?_
          simp only [Act.put, List.setIfInBounds_toArray, List.set_cons_zero, List.set_cons_succ]
          refine wpList_runW rfl (.bool true) (by simp [go_sem, b2]) ?_
          simp only [Act.put, List.setIfInBounds_toArray, List.set_cons_zero, List.set_cons_succ]
          refine wpList_run rfl (.bool true) (by simp [go_sem]) ?_
          simp only [Act.put, List.setIfInBounds_toArray, List.set_cons_zero, List.set_cons_succ]
          go_wp2
          go_ret
          exact ⟨ret_bool hf.out.symm, hX.out⟩
        · have hb : Hid (okB (bs i)) := ⟨by omega, by omega⟩
          go_upto_region 2 with (fail)
          refine wp_region_lit ?_
          refine wpList_run rfl (.int .i64 (i : Int)) (by simp [go_sem]) ?_
          simp only [Act.put, List.setIfInBounds_toArray, List.set_cons_zero, List.set_cons_succ]
          refine wpList_run rfl (.slice (some a) n cap) (by simp [go_sem]) ?_
          simp only [Act.put, List.setIfInBounds_toArray, List.set_cons_zero, List.set_cons_succ]
          refine wpList_run rfl (.int .i64 (n : Int)) (by simp [go_sem]) ?_
          simp only [Act.put, List.setIfInBounds_toArray, List.set_cons_zero, List.set_cons_succ]
          refine wpList_run rfl (.bool true) (by simp [go_sem, i1]) ?_
          simp only [Act.put, List.setIfInBounds_toArray, List.set_cons_zero, List.set_cons_succ]
          go_upto_region 4 with (fail)
          refine wp_region_lit ?_
          refine wpList_run rfl (.slice (some a) n cap) (by simp [go_sem]) ?_
          simp only [Act.put, List.setIfInBounds_toArray, List.set_cons_zero, List.set_cons_succ]
          refine wpList_run rfl (.int .i64 (i : Int)) (by simp [go_sem]) ?_
          simp only [Act.put, List.setIfInBounds_toArray, List.set_cons_zero, List.set_cons_succ]
          refine wpList_run rfl (.pointer (some (a.add i))) (by simp [go_sem, i1]) ?_
          simp only [Act.put, List.setIfInBounds_toArray, List.set_cons_zero, List.set_cons_succ]
          refine wpList_run rfl (.int .i64 (bs i)) (by simp [go_sem, hel]) ?_
          simp only [Act.put, List.setIfInBounds_toArray, List.set_cons_zero, List.set_cons_succ]
          refine wpList_run rfl (.bool false) (by simp [go_sem, b1]) ?_
          simp only [Act.put, List.setIfInBounds_toArray, List.set_cons_zero, List.set_cons_succ]
          refine wpList_run rfl (.bool false) (by simp [go_sem]) ?_
          simp only [Act.put, List.setIfInBounds_toArray, List.set_cons_zero, List.set_cons_succ]
          refine wpList_runW rfl (.slice (some a) n cap) (by simp [go_sem]) ?_
          simp only [Act.put, List.setIfInBounds_toArray, List.set_cons_zero, List.set_cons_succ]
          refine wpList_runW rfl (.int .i64 (i : Int)) (by simp [go_sem]) ?_
          simp only [Act.put, List.setIfInBounds_toArray, List.set_cons_zero, List.set_cons_succ]
          refine wpList_runW rfl (.pointer (some (a.add i))) (by simp [go_sem, i1]) ?_
          simp only [Act.put, List.setIfInBounds_toArray, List.set_cons_zero, List.set_cons_succ]
          refine wpList_runW rfl (.int .i64 (bs i)) (by simp [go_sem, hel]) ?_
          simp only [Act.put, List.setIfInBounds_toArray, List.set_cons_zero, List.set_cons_succ]
          refine wpList_runW rfl (.bool false) (by simp [go_sem, b2]) ?_
          simp only [Act.put, List.setIfInBounds_toArray, List.set_cons_zero, List.set_cons_succ]
          refine wpList_run rfl (.bool false) (by simp [go_sem]) ?_
          simp only [Act.put, List.setIfInBounds_toArray, List.set_cons_zero, List.set_cons_succ]
          clear b1 b2 hel
          go_upto_region 6 with (fail)
          go_wp2
          go_loopw [4] (fun kv X => ∃ k : Nat, k ≤ i ∧ kv = .int .i64 (k : Int) ∧ (∀ j, j < k → bs j ≠ bs i) ∧ Ext w X) (fun kv _ => 64 - (intOf kv).toNat)
          case atStart => exact ⟨0, Nat.zero_le _, rfl, fun j hj => absurd hj (Nat.not_lt_zero _), hX.out⟩
          case round =>
            clear hX
            obtain ⟨k, hk, rfl, hK, hX⟩ := hrel
            replace hK := hideit hK
            by_cases hlk : k < i
            · have k0 : (0 : Int) ≤ (k : Int) := by omega
              have k1 : (k : Int) < (i : Int) := by omega
              have k2 : (k : Int) < (n : Int) := by omega
              obtain ⟨a', ha1, hek⟩ := (h.out.ext hX).at k (by have := hlt.out; omega)
              obtain ⟨a'', ha2, hei⟩ := (h.out.ext hX).at i hlt.out
              injection ha1 with ha1
              injection ha2 with ha2
              subst ha1
              subst ha2
              have hL : Hid (∀ X, Ext wr.drew X → X.cell? (a.add k) = some (.int .i64 (bs k)) ∧ X.cell? (a.add i) = some (.int .i64 (bs i))) := fun X hX' => by
                have hh := h.out.ext (Ext.trans (Ext.draw hX) hX')
                obtain ⟨_, e1, q1⟩ := hh.at k (by have := hlt.out; omega)
                obtain ⟨_, e2, q2⟩ := hh.at i hlt.out
                injection e1 with e1
                injection e2 with e2
                subst e1
                subst e2
                exact ⟨q1, q2⟩
              replace hX := hideit hX
              clear hek hei
              by_cases he : bs k = bs i
              · have hf : Hid (R = false) := no.out fun hh => (hh.1 i hlt.out).2 k hlk he
                replace hlk := hideit hlk
                go_upto_region 7 with (fail)
                refine wp_region_lit ?_
                refine wpList_run rfl (.int .i64 (k : Int)) (by simp [go_sem]) ?_
                simp only [Act.put, List.setIfInBounds_toArray, List.set_cons_zero, List.set_cons_succ]
                refine wpList_run rfl (.int .i64 (i : Int)) (by simp [go_sem]) ?_
                simp only [Act.put, List.setIfInBounds_toArray, List.set_cons_zero, List.set_cons_succ]
                refine wpList_run rfl (.bool true) (by simp [go_sem, k1]) ?_
                simp only [Act.put, List.setIfInBounds_toArray, List.set_cons_zero, List.set_cons_succ]
                go_upto_region 9 with (fail)
                replace hX := hideit (Ext.draw hX.out)
                refine wp_region_lad (fun X => Ext wr.drew X) [(false, 0), (false, 1), (false, 2), (false, 3), (false, 4), (false, 5), (false, 6), (false, 7), (false, 8)] (by kernel_rfl) (by kernel_rfl) (by decide +kernel) (by decide +kernel) (by decide +kernel) (by decide +kernel) (Ext.refl _) ?_
                refine wpX_f _ (.slice (some a) n cap) rfl rfl (fun X _ => by simp [go_sem]) ?_
                simp only [List.getElem_toArray, List.getElem_cons_zero, Act.put, List.setIfInBounds_toArray, List.set_cons_zero, List.set_cons_succ]
                refine wpX_f _ (.int .i64 (k : Int)) rfl rfl (fun X _ => by simp [go_sem]) ?_
                simp only [List.getElem_toArray, List.getElem_cons_zero, List.getElem_cons_succ, Act.put, List.setIfInBounds_toArray, List.set_cons_zero, List.set_cons_succ]
                refine wpX_f _ (.pointer (some (a.add k))) rfl rfl (fun X _ => by simp [go_sem, k2]) ?_
                simp only [List.getElem_toArray, List.getElem_cons_zero, List.getElem_cons_succ, Act.put, List.setIfInBounds_toArray, List.set_cons_zero, List.set_cons_succ]
                refine wpX_f _ (.int .i64 (bs k)) rfl rfl (fun X hX => (by have q := (hL.out X hX).1; simp [go_sem, q])) ?_
                simp only [List.getElem_toArray, List.getElem_cons_zero, List.getElem_cons_succ, Act.put, List.setIfInBounds_toArray, List.set_cons_zero, List.set_cons_succ]
                refine wpX_f _ (.slice (some a) n cap) rfl rfl (fun X _ => by simp [go_sem]) ?_
                simp only [List.getElem_toArray, List.getElem_cons_zero, List.getElem_cons_succ, Act.put, List.setIfInBounds_toArray, List.set_cons_zero, List.set_cons_succ]
                refine wpX_f _ (.int .i64 (i : Int)) rfl rfl (fun X _ => by simp [go_sem]) ?_
                simp only [List.getElem_toArray, List.getElem_cons_zero, List.getElem_cons_succ, Act.put, List.setIfInBounds_toArray, List.set_cons_zero, List.set_cons_succ]
                refine wpX_f _ (.pointer (some (a.add i))) rfl rfl (fun X _ => by simp [go_sem, i1]) ?_
                simp only [List.getElem_toArray, List.getElem_cons_zero, List.getElem_cons_succ, Act.put, List.setIfInBounds_toArray, List.set_cons_zero, List.set_cons_succ]
                refine wpX_f _ (.int .i64 (bs i)) rfl rfl (fun X hX => (by have q := (hL.out X hX).2; simp [go_sem, q])) ?_
                simp only [List.getElem_toArray, List.getElem_cons_zero, List.getElem_cons_succ, Act.put, List.setIfInBounds_toArray, List.set_cons_zero, List.set_cons_succ]
                refine wpX_f _ (.bool true) rfl rfl (fun X _ => by simp [go_sem, he]) ?_
                simp only [List.getElem_toArray, List.getElem_cons_zero, List.getElem_cons_succ, Act.put, List.setIfInBounds_toArray, List.set_cons_zero, List.set_cons_succ]
                refine wpX_nil ?_
                go_wp2
                go_ret
                exact ⟨ret_bool hf.out.symm, hX.out⟩
              · replace hlk := hideit hlk
                go_upto_region 7 with (fail)
                refine wp_region_lit ?_
                refine wpList_run rfl (.int .i64 (k : Int)) (by simp [go_sem]) ?_
                simp only [Act.put, List.setIfInBounds_toArray, List.set_cons_zero, List.set_cons_succ]
                refine wpList_run rfl (.int .i64 (i : Int)) (by simp [go_sem]) ?_
                simp only [Act.put, List.setIfInBounds_toArray, List.set_cons_zero, List.set_cons_succ]
                refine wpList_run rfl (.bool true) (by simp [go_sem, k1]) ?_
                simp only [Act.put, List.setIfInBounds_toArray, List.set_cons_zero, List.set_cons_succ]
                go_upto_region 9 with (fail)
                replace hX := hideit (Ext.draw hX.out)
                refine wp_region_lad (fun X => Ext wr.drew X) [(false, 0), (false, 1), (false, 2), (false, 3), (false, 4), (false, 5), (false, 6), (false, 7), (false, 8)] (by kernel_rfl) (by kernel_rfl) (by decide +kernel) (by decide +kernel) (by decide +kernel) (by decide +kernel) (Ext.refl _) ?_
                refine wpX_f _ (.slice (some a) n cap) rfl rfl (fun X _ => by simp [go_sem]) ?_
                simp only [List.getElem_toArray, List.getElem_cons_zero, Act.put, List.setIfInBounds_toArray, List.set_cons_zero, List.set_cons_succ]
                refine wpX_f _ (.int .i64 (k : Int)) rfl rfl (fun X _ => by simp [go_sem]) ?_
                simp only [List.getElem_toArray, List.getElem_cons_zero, List.getElem_cons_succ, Act.put, List.setIfInBounds_toArray, List.set_cons_zero, List.set_cons_succ]
                refine wpX_f _ (.pointer (some (a.add k))) rfl rfl (fun X _ => by simp [go_sem, k2]) ?_
                simp only [List.getElem_toArray, List.getElem_cons_zero, List.getElem_cons_succ, Act.put, List.setIfInBounds_toArray, List.set_cons_zero, List.set_cons_succ]
                refine wpX_f _ (.int .i64 (bs k)) rfl rfl (fun X hX => (by have q := (hL.out X hX).1; simp [go_sem, q])) ?_
                simp only [List.getElem_toArray, List.getElem_cons_zero, List.getElem_cons_succ, Act.put, List.setIfInBounds_toArray, List.set_cons_zero, List.set_cons_succ]
                refine wpX_f _ (.slice (some a) n cap) rfl rfl (fun X _ => by simp [go_sem]) ?_
                simp only [List.getElem_toArray, List.getElem_cons_zero, List.getElem_cons_succ, Act.put, List.setIfInBounds_toArray, List.set_cons_zero, List.set_cons_succ]
                refine wpX_f _ (.int .i64 (i : Int)) rfl rfl (fun X _ => by simp [go_sem]) ?_
                simp only [List.getElem_toArray, List.getElem_cons_zero, List.getElem_cons_succ, Act.put, List.setIfInBounds_toArray, List.set_cons_zero, List.set_cons_succ]
                refine wpX_f _ (.pointer (some (a.add i))) rfl rfl (fun X _ => by simp [go_sem, i1]) ?_
                simp only [List.getElem_toArray, List.getElem_cons_zero, List.getElem_cons_succ, Act.put, List.setIfInBounds_toArray, List.set_cons_zero, List.set_cons_succ]
                refine wpX_f _ (.int .i64 (bs i)) rfl rfl (fun X hX => (by have q := (hL.out X hX).2; simp [go_sem, q])) ?_
                simp only [List.getElem_toArray, List.getElem_cons_zero, List.getElem_cons_succ, Act.put, List.setIfInBounds_toArray, List.set_cons_zero, List.set_cons_succ]
                refine wpX_f _ (.bool false) rfl rfl (fun X _ => by simp [go_sem, he]) ?_
                simp only [List.getElem_toArray, List.getElem_cons_zero, List.getElem_cons_succ, Act.put, List.setIfInBounds_toArray, List.set_cons_zero, List.set_cons_succ]
                refine wpX_nil ?_
                have ek : IntKind.i64.wrap ((k : Int) + 1) = ((k + 1 : Nat) : Int) := by have := hlk.out; have := hlt.out; have := hn.out; rw [IntKind.wrap_i64]; omega
                replace he := hideit he
                go_upto_region 8 with (fail)
                refine wp_region_lit ?_
                refine wpList_run rfl (.int .i64 (k : Int)) (by simp [go_sem]) ?_
                simp only [Act.put, List.setIfInBounds_toArray, List.set_cons_zero, List.set_cons_succ]
                refine wpList_run rfl (.int .i64 ((k + 1 : Nat) : Int)) (by simp [go_sem, ek]) ?_
                simp only [Act.put, List.setIfInBounds_toArray, List.set_cons_zero, List.set_cons_succ]
                refine wpList_run rfl (.int .i64 ((k + 1 : Nat) : Int)) (by simp [go_sem]) ?_
                simp only [Act.put, List.setIfInBounds_toArray, List.set_cons_zero, List.set_cons_succ]
                go_wp2
                refine ⟨⟨k + 1, by have := hlk.out; omega, rfl, fun j hj => ?_, hX.out⟩, by have := hlk.out; have := hlt.out; have := hn.out; simp [intOf]; omega⟩
                by_cases e : j = k
                · rw [e]; exact he.out
                · exact hK.out j (by omega)
            · obtain rfl : k = i := by omega
              have k1 : ¬ (k : Int) < (k : Int) := by omega
              have ek : IntKind.i64.wrap ((k : Int) + 1) = ((k + 1 : Nat) : Int) := by have := hlt.out; have := hn.out; rw [IntKind.wrap_i64]; omega
              replace hX := hideit hX
              go_upto_region 7 with (fail)
              refine wp_region_lit ?_
              refine wpList_run rfl (.int .i64 (k : Int)) (by simp [go_sem]) ?_
              simp only [Act.put, List.setIfInBounds_toArray, List.set_cons_zero, List.set_cons_succ]
              refine wpList_run rfl (.int .i64 (k : Int)) (by simp [go_sem]) ?_
              simp only [Act.put, List.setIfInBounds_toArray, List.set_cons_zero, List.set_cons_succ]
              refine wpList_run rfl (.bool false) (by simp [go_sem, k1]) ?_
              simp only [Act.put, List.setIfInBounds_toArray, List.set_cons_zero, List.set_cons_succ]
              go_upto_region 3 with (fail)
              refine wp_region_lit ?_
              refine wpList_run rfl (.int .i64 (k : Int)) (by simp [go_sem]) ?_
              simp only [Act.put, List.setIfInBounds_toArray, List.set_cons_zero, List.set_cons_succ]
              refine wpList_run rfl (.int .i64 ((k + 1 : Nat) : Int)) (by simp [go_sem, ek]) ?_
              simp only [Act.put, List.setIfInBounds_toArray, List.set_cons_zero, List.set_cons_succ]
              refine wpList_run rfl (.int .i64 ((k + 1 : Nat) : Int)) (by simp [go_sem]) ?_
              simp only [Act.put, List.setIfInBounds_toArray, List.set_cons_zero, List.set_cons_succ]
              go_wp2
              refine ⟨⟨k + 1, by have := hlt.out; omega, rfl, fun j hj => ?_, hX.out⟩, by have := hlt.out; have := hn.out; simp [intOf]; omega⟩
              by_cases e : j = k
              · rw [e]; exact ⟨hb.out, hK.out⟩
              · exact hI.out j (by omega)
    · obtain rfl : i = n := by omega
      have i1 : ¬ (i : Int) < (i : Int) := by omega
      replace hX := hideit hX
      by_cases h1 : 1 ≤ i
      · have hf : Hid (R = true) := yes.out ⟨hI.out, h1⟩
        have g1 : (1 : Int) ≤ (i : Int) := by omega
        have g2 : (i : Int) ≤ 64 := by have := hn.out; omega
        go_upto_region 2 with (fail)
        refine wp_region_lit ?_
        refine wpList_run rfl (.int .i64 (i : Int)) (by simp [go_sem]) ?_
        simp only [Act.put, List.setIfInBounds_toArray, List.set_cons_zero, List.set_cons_succ]
        refine wpList_run rfl (.slice o i cap) (by simp [go_sem]) ?_
        simp only [Act.put, List.setIfInBounds_toArray, List.set_cons_zero, List.set_cons_succ]
        refine wpList_run rfl (.int .i64 (i : Int)) (by simp [go_sem]) ?_
        simp only [Act.put, List.setIfInBounds_toArray, List.set_cons_zero, List.set_cons_succ]
        refine wpList_run rfl (.bool false) (by simp [go_sem, i1]) ?_
        simp only [Act.put, List.setIfInBounds_toArray, List.set_cons_zero, List.set_cons_succ]
        go_upto_region 11 with (fail)
        refine wp_region_lit ?_
        refine wpList_run rfl (.slice o i cap) (by simp [go_sem]) ?_
        simp only [Act.put, List.setIfInBounds_toArray, List.set_cons_zero, List.set_cons_succ]
        refine wpList_run rfl (.int .i64 (i : Int)) (by simp [go_sem]) ?_
        simp only [Act.put, List.setIfInBounds_toArray, List.set_cons_zero, List.set_cons_succ]
        refine wpList_run rfl (.bool true) (by simp [go_sem, g1]) ?_
        simp only [Act.put, List.setIfInBounds_toArray, List.set_cons_zero, List.set_cons_succ]
        refine wpList_run rfl (.bool true) (by simp [go_sem]) ?_
        simp only [Act.put, List.setIfInBounds_toArray, List.set_cons_zero, List.set_cons_succ]
        refine wpList_runW rfl (.slice o i cap) (by simp [go_sem]) ?_
        simp only [Act.put, List.setIfInBounds_toArray, List.set_cons_zero, List.set_cons_succ]
        refine wpList_runW rfl (.int .i64 (i : Int)) (by simp [go_sem]) ?_
        simp only [Act.put, List.setIfInBounds_toArray, List.set_cons_zero, List.set_cons_succ]
        refine wpList_runW rfl (.bool true) (by simp [go_sem, g2]) ?_
        simp only [Act.put, List.setIfInBounds_toArray, List.set_cons_zero, List.set_cons_succ]
        refine wpList_run rfl (.bool true) (by simp [go_sem]) ?_
        simp only [Act.put, List.setIfInBounds_toArray, List.set_cons_zero, List.set_cons_succ]
        refine wpList_run rfl (.bool true) (by simp [go_sem]) ?_
        simp only [Act.put, List.setIfInBounds_toArray, List.set_cons_zero, List.set_cons_succ]
        go_wp2
        go_ret
        exact ⟨ret_bool hf.out.symm, hX.out⟩
      · have hf : Hid (R = false) := no.out fun hh => h1 hh.2
        have g1 : ¬ (1 : Int) ≤ (i : Int) := by omega
        go_upto_region 2 with (fail)
        refine wp_region_lit ?_
        refine wpList_run rfl (.int .i64 (i : Int)) (by simp [go_sem]) ?_
        simp only [Act.put, List.setIfInBounds_toArray, List.set_cons_zero, List.set_cons_succ]
        refine wpList_run rfl (.slice o i cap) (by simp [go_sem]) ?_
        simp only [Act.put, List.setIfInBounds_toArray, List.set_cons_zero, List.set_cons_succ]
        refine wpList_run rfl (.int .i64 (i : Int)) (by simp [go_sem]) ?_
        simp only [Act.put, List.setIfInBounds_toArray, List.set_cons_zero, List.set_cons_succ]
        refine wpList_run rfl (.bool false) (by simp [go_sem, i1]) ?_
        simp only [Act.put, List.setIfInBounds_toArray, List.set_cons_zero, List.set_cons_succ]
        go_upto_region 11 with (fail)
        refine wp_region_lit ?_
        refine wpList_run rfl (.slice o i cap) (by simp [go_sem]) ?_
        simp only [Act.put, List.setIfInBounds_toArray, List.set_cons_zero, List.set_cons_succ]
        refine wpList_run rfl (.int .i64 (i : Int)) (by simp [go_sem]) ?_
        simp only [Act.put, List.setIfInBounds_toArray, List.set_cons_zero, List.set_cons_succ]
        refine wpList_run rfl (.bool false) (by simp [go_sem, g1]) ?_
        simp only [Act.put, List.setIfInBounds_toArray, List.set_cons_zero, List.set_cons_succ]
        refine wpList_run rfl (.bool false) (by simp [go_sem]) ?_
        simp only [Act.put, List.setIfInBounds_toArray, List.set_cons_zero, List.set_cons_succ]
        with_reducible refine xnot (by with_unfolding_all rfl) ?_
        simp only [Act.put, List.setIfInBounds_toArray, List.set_cons_zero, List.set_cons_succ]
        with_reducible refine xnot (by with_unfolding_all rfl) ?_
        simp only [Act.put, List.setIfInBounds_toArray, List.set_cons_zero, List.set_cons_succ]
        with_reducible refine xnot (by with_unfolding_all rfl) ?_
        simp only [Act.put, List.setIfInBounds_toArray, List.set_cons_zero, List.set_cons_succ]
        refine wpList_run rfl (.bool false) (by simp [go_sem]) ?_
        simp only [Act.put, List.setIfInBounds_toArray, List.set_cons_zero, List.set_cons_succ]
        refine wpList_run rfl (.bool false) (by simp [go_sem]) ?_
        simp only [Act.put, List.setIfInBounds_toArray, List.set_cons_zero, List.set_cons_succ]
        go_wp2
        go_ret
        exact ⟨ret_bool hf.out.symm, hX.out⟩
end Go.Proofs.YtedgopionpdfeaaDoor
namespace Go.Proofs.YtedgopionpdfeaaDoor
open Go.RowKit Go.BigFrame
set_option linter.unusedVariables false
/-- bytes of one's own since a world -/
def GB (w0 : World) (v : Value) (n : Nat) (f : Nat → BitVec 8) (X : World) : Prop := OwnB w0.heap.size 5 v n (yv f) X ∧ Ext w0 X
theorem GB.ext {w0 : World} {v : Value} {n : Nat} {f : Nat → BitVec 8} {X Y : World} (h : GB w0 v n f X) (k : Ext X Y) : GB w0 v n f Y := ⟨h.1.ext k, Ext.trans h.2 k⟩
theorem GB.bv {w0 : World} {v : Value} {n : Nat} {f : Nat → BitVec 8} {X : World} (h : GB w0 v n f X) : BV v n f X := h.1.bv
theorem GB.form {w0 : World} {v : Value} {n : Nat} {f : Nat → BitVec 8} {X : World} (h : GB w0 v n f X) : ∃ o c, v = .slice o n c := h.1.bv.form
theorem GB.congr {w0 : World} {v : Value} {n m : Nat} {f g : Nat → BitVec 8} {X : World} (h : GB w0 v n f X) (hn : n = m) (e : ∀ j, j < n → f j = g j) : GB w0 v m g X := by
  subst hn
  exact ⟨h.1.congr fun j hj => by simp only [yv, e j hj], h.2⟩
theorem GB.nil (w0 : World) {X : World} (h : Ext w0 X) (f : Nat → BitVec 8) : GB w0 (.slice none 0 0) 0 f X := ⟨own_nil _ _ _ _, h⟩
theorem GB.empty (w0 : World) {X : World} (h : Ext w0 X) (f : Nat → BitVec 8) : GB w0 (.slice (some ⟨X.heap.size, 0, none⟩) 0 0) 0 f (X.alloc (.cells #[] 5)) := ⟨own_empty X _ 5 _ (Below.size h), Below.alloc h (Below.size h) _⟩
theorem GB.of {w0 : World} {v : Value} {n : Nat} {f : Nat → BitVec 8} {X Y : World} (h : Ext w0 X) (hO : OwnB X.heap.size 5 v n (yv f) Y) (k : Ext X Y) : GB w0 v n f Y := ⟨hO.down (Below.size h), Ext.trans h k⟩
theorem wpList_gb {ops : Array Oper} {rest : List Oper} {o : Oper} {a : Act} {Q : Exit → Act → World → Prop} {w0 X : World} {v : Value} {n : Nat} {f : Nat → BitVec 8} (hgd : o.guard = none) (s x : Operand)
    (ho : o.op = .call { callee := .builtin .append, args := #[s, x], argTypes := #[34, 34] }) (hs : a.eval s = v) (hG : GB w0 v n f X) (xv : Value) (l : Nat) (b : Nat → BitVec 8) (hx : a.eval x = xv) (hb : BV xv l b X) (hn : n + l ≤ 140737488355328)
    (h : ∀ v' X', GB w0 v' (n + l) (catF f n b) X' → wpList Tryd.prog ops Q rest (a.put o.dst v') X') : wpList Tryd.prog ops Q (o :: rest) a X := by
  refine wpList_growV (n := n) (base := w0.heap.size) elem22 hgd s x ho hs hG.1 xv l b (yv (catF f n b)) hx hb (fun j hj => by simp only [catF, yv, if_pos hj]) (fun j hj => by simp only [catF, yv, if_neg (show ¬ n + j < n by omega), Nat.add_sub_cancel_left]) hn (Below.size hG.2) ?_
  intro v' X' hO hg
  exact h v' X' ⟨hO, Below.trans hG.2 (below_grown (Below.size hG.2) hg fun k hk => (hG.1.lt k hk).1)⟩
theorem wpList_gbC {ops : Array Oper} {rest : List Oper} {o : Oper} {a : Act} {Q : Exit → Act → World → Prop} {w0 X : World} (hg : o.guard = none) (s x : Operand) (ho : o.op = .call { callee := .builtin .append, args := #[s, x], argTypes := #[34, 34] })
    (hE : Ext w0 X) (ad0 : Addr) (n : Nat) (f : Nat → BitVec 8) (hs : a.eval s = .slice (some ad0) n n) (hf : BV (.slice (some ad0) n n) n f X) (xv : Value) (m : Nat) (b : Nat → BitVec 8) (hx : a.eval x = xv) (hb : BV xv m b X) (hm : 0 < m) (hnm : n + m ≤ 1000000)
    (h : ∀ v' X', GB w0 v' (n + m) (catF f n b) X' → wpList Tryd.prog ops Q rest (a.put o.dst v') X') : wpList Tryd.prog ops Q (o :: rest) a X := by
  have hf' : LieAt ad0 n (yv f) X := by
    rcases hf with ⟨h, _⟩ | ⟨a', c, h, _, hl⟩
    · cases h
    · injection h with h
      injection h with h
      subst h
      exact hl
  rcases hb with ⟨_, h0⟩ | ⟨ad, c, rfl, _, hl⟩
  · omega
  · exact wpList_growC hg s x ho ad0 n f hs hf' ad m c b hx hl hm hnm fun v' X' hO hX => h v' X' (GB.of hE hO hX)
theorem BV.congr {v : Value} {l : Nat} {f g : Nat → BitVec 8} {w : World} (h : BV v l f w) (e : ∀ j, j < l → f j = g j) : BV v l g w := by
  rcases h with h | ⟨a, c, h1, h2, h3⟩
  · exact .inl h
  · exact .inr ⟨a, c, h1, h2, fun j hj => by rw [h3.1 j hj]; simp only [yv, e j hj], h3.2⟩
theorem fcat3 (f g k m : Nat → BitVec 8) : catF (catF (catF f 12 g) 14 k) 22 m = catF f 12 (catF (catF g 2 k) 10 m) := by
  funext j
  unfold catF
  by_cases h1 : j < 12
  · rw [if_pos (show j < 22 by omega), if_pos (show j < 14 by omega), if_pos h1, if_pos h1]
  · by_cases h2 : j < 14
    · rw [if_pos (show j < 22 by omega), if_pos h2, if_neg h1, if_neg h1, if_pos (show j - 12 < 10 by omega), if_pos (show j - 12 < 2 by omega)]
    · by_cases h3 : j < 22
      · rw [if_pos h3, if_neg h2, if_neg h1, if_pos (show j - 12 < 10 by omega), if_neg (show ¬ j - 12 < 2 by omega), show j - 12 - 2 = j - 14 by omega]
      · rw [if_neg h3, if_neg h1, if_neg (show ¬ j - 12 < 10 by omega), show j - 12 - 10 = j - 22 by omega]
set_option maxRecDepth 20000 in
set_option maxHeartbeats 4000000 in
theorem rplan_any (x t : BitVec 64) (v : Value) (n : Nat) (bs : Nat → Int) (w : World) (hl : IL v n bs w) (hn : n ≤ 64) (hb : ∀ i, i < n → okB (bs i)) : Calls Tryd.prog 31 #[.int .u64 (x.toNat : Int), v, .int .u64 (t.toNat : Int)] w fun e w' => ∃ u, e = .returned u ∧ BV u 512 (planF x t n bs) w' ∧ Ext w w' := by
  obtain ⟨lo, lc, rfl⟩ := hl.form
  obtain ⟨w1, hcv, hB1, hX1⟩ := constB w #[.int .u8 80, .int .u8 76, .int .u8 65, .int .u8 78] 4 (labF sPL) (fun j hj => by rcases (by omega : j = 0 ∨ j = 1 ∨ j = 2 ∨ j = 3) with rfl | rfl | rfl | rfl <;> rfl)
  have en : IntKind.u64.wrap (n : Int) = ((BitVec.ofNat 64 n).toNat : Int) := by rw [IntKind.wrap_u64, BitVec.toNat_ofNat]; omega
  have n64 : n ≤ 64 := hn
  replace hn := hideit hn
  replace hl := hideit hl
  replace hb := hideit hb
  have hE := hideit (Ext.refl w)
  go_enter Tryd.func31, Tryd.ntmps31
  go_upto_region 1 with (fail)
  refine wp_region_lit ?_
  refine wpList_to rfl (.slice (some ⟨w.heap.size, 0, none⟩) 4 4) (w.alloc (.cells #[.int .u8 80, .int .u8 76, .int .u8 65, .int .u8 78] 5)) (by simp [go_sem]) ?_
  simp only [Act.put, List.setIfInBounds_toArray, List.set_cons_zero, List.set_cons_succ]
  refine wpList_to rfl (.slice (some ⟨w.heap.size, 0, none⟩) 4 4) w1 (by simp [go_sem, hcv]) ?_
  simp only [Act.put, List.setIfInBounds_toArray, List.set_cons_zero, List.set_cons_succ]
  clear hcv
  replace hB1 := hideit hB1
  replace hE : Hid (Ext w w1) := hX1
  clear hX1
  obtain ⟨g0, hg0⟩ : ∃ g, g = w.heap.size := ⟨_, rfl⟩
  rw [← hg0] at hB1 ⊢
  clear hg0
  refine wpList_run rfl (.int .u64 (x.toNat : Int)) (by simp [go_sem]) ?_
  simp only [Act.put, List.setIfInBounds_toArray, List.set_cons_zero, List.set_cons_succ]
  refine wpList_call rfl (by simp [go_sem]) ((number_any 8 x w1 (by decide)).mono ?_)
  rintro e p8w ⟨p8v, rfl, p8h, p8X⟩
  refine ⟨_, rfl, ?_⟩
  simp only [Act.put, List.setIfInBounds_toArray, List.set_cons_zero, List.set_cons_succ]
  replace hB1 := hideit (hB1.out.ext p8X)
  replace hE := hideit (Ext.trans hE.out p8X)
  have p8b := hideit p8h.bv
  clear p8h p8X
  obtain ⟨p8o, p8c, rfl⟩ := p8b.out.form
  refine wpList_gbC (w0 := w) rfl (.tmp 10) (.tmp 12) rfl hE.out ⟨g0, 0, none⟩ 4 (labF sPL) rfl hB1.out (.slice p8o 8 p8c) 8 (byB x) rfl p8b.out (by decide) (by decide) ?_
  intro q1v q1w q1h
  replace q1h : GB w q1v 12 (begF sPL x) q1w := q1h
  obtain ⟨q1o, q1c, rfl⟩ := q1h.form
  simp only [Act.put, List.setIfInBounds_toArray, List.set_cons_zero, List.set_cons_succ]
  replace q1h := hideit q1h
  replace hE : Hid (Ext w q1w) := q1h.out.2
  clear hB1 p8b
  refine wpList_run rfl (.slice lo n lc) (by simp [go_sem]) ?_
  simp only [Act.put, List.setIfInBounds_toArray, List.set_cons_zero, List.set_cons_succ]
  refine wpList_run rfl (.int .i64 (n : Int)) (by simp [go_sem]) ?_
  simp only [Act.put, List.setIfInBounds_toArray, List.set_cons_zero, List.set_cons_succ]
  refine wpList_run rfl (.int .u64 ((BitVec.ofNat 64 n).toNat : Int)) (by simp [go_sem, en]) ?_
  simp only [Act.put, List.setIfInBounds_toArray, List.set_cons_zero, List.set_cons_succ]
  refine wpList_call rfl (by simp [go_sem]) ((number_any 2 (BitVec.ofNat 64 n) q1w (by decide)).mono ?_)
  rintro e p2w ⟨p2v, rfl, p2h, p2X⟩
  refine ⟨_, rfl, ?_⟩
  simp only [Act.put, List.setIfInBounds_toArray, List.set_cons_zero, List.set_cons_succ]
  replace q1h := hideit (q1h.out.ext p2X)
  replace hE := hideit (Ext.trans hE.out p2X)
  have p2b := hideit p2h.bv
  clear p2h p2X
  obtain ⟨p2o, p2c, rfl⟩ := p2b.out.form
  refine wpList_gb rfl (.tmp 13) (.tmp 17) rfl rfl q1h.out (.slice p2o 2 p2c) 2 (byB (BitVec.ofNat 64 n)) rfl p2b.out (by omega) ?_
  intro q2v q2w q2h
  replace q2h : GB w q2v 14 (catF (begF sPL x) 12 (byB (BitVec.ofNat 64 n))) q2w := q2h
  obtain ⟨q2o, q2c, rfl⟩ := q2h.form
  simp only [Act.put, List.setIfInBounds_toArray, List.set_cons_zero, List.set_cons_succ]
  replace q2h := hideit q2h
  replace hE : Hid (Ext w q2w) := q2h.out.2
  clear q1h p2b
  refine wpList_run rfl (.int .u64 (t.toNat : Int)) (by simp [go_sem]) ?_
  simp only [Act.put, List.setIfInBounds_toArray, List.set_cons_zero, List.set_cons_succ]
  refine wpList_call rfl (by simp [go_sem]) ((number_any 8 t q2w (by decide)).mono ?_)
  rintro e pbw ⟨pbv, rfl, pbh, pbX⟩
  refine ⟨_, rfl, ?_⟩
  simp only [Act.put, List.setIfInBounds_toArray, List.set_cons_zero, List.set_cons_succ]
  replace q2h := hideit (q2h.out.ext pbX)
  replace hE := hideit (Ext.trans hE.out pbX)
  have pbb := hideit pbh.bv
  clear pbh pbX
  obtain ⟨pbo, pbc, rfl⟩ := pbb.out.form
  refine wpList_gb rfl (.tmp 18) (.tmp 20) rfl rfl q2h.out (.slice pbo 8 pbc) 8 (byB t) rfl pbb.out (by omega) ?_
  intro q3v q3w q3h
  replace q3h : GB w q3v 22 (catF (catF (begF sPL x) 12 (byB (BitVec.ofNat 64 n))) 14 (byB t)) q3w := q3h
  obtain ⟨q3o, q3c, rfl⟩ := q3h.form
  simp only [Act.put, List.setIfInBounds_toArray, List.set_cons_zero, List.set_cons_succ]
  replace q3h := hideit q3h
  replace hE : Hid (Ext w q3w) := q3h.out.2
  clear q2h pbb
  refine wpList_run rfl (.slice q3o 22 q3c) (by simp [go_sem]) ?_
  simp only [Act.put, List.setIfInBounds_toArray, List.set_cons_zero, List.set_cons_succ]
  clear en
  replace q3h := hideit (q3h.out.congr (g := catF (catF (catF (begF sPL x) 12 (byB (BitVec.ofNat 64 n))) 14 (byB t)) 22 (bsF bs)) rfl fun j hj => by simp only [catF, if_pos hj])
  go_upto_region 2 with (fail)
  go_wp2
  go_loopw [7, 8] (fun v i X => ∃ k : Nat, k ≤ n ∧ i = .int .i64 (k : Int) ∧ GB w v (22 + 4 * k) (catF (catF (catF (begF sPL x) 12 (byB (BitVec.ofNat 64 n))) 14 (byB t)) 22 (bsF bs)) X) (fun _ i _ => 64 - (intOf i).toNat)
  case atStart => exact ⟨0, Nat.zero_le _, rfl, q3h.out⟩
  case round =>
    obtain ⟨k, hk, rfl, hG⟩ := hrel
    clear q3h hE
    have hE := hideit hG.2
    obtain ⟨vo, vc, rfl⟩ := hG.form
    replace hG := hideit hG
    by_cases hlt : k < n
    · have k0 : (0 : Int) ≤ (k : Int) := by omega
      have k1 : (k : Int) < (n : Int) := by omega
      obtain ⟨a, rfl, hel⟩ := (hl.out.ext hE.out).at k hlt
      have hw : IntKind.u64.wrap (bs k) = ((bW (bs k)).toNat : Int) := by have := hb.out k hlt; unfold bW; rw [IntKind.wrap_u64, BitVec.toNat_ofNat]; unfold okB at this; omega
      have ek : IntKind.i64.wrap ((k : Int) + 1) = ((k + 1 : Nat) : Int) := by rw [IntKind.wrap_i64]; omega
      go_upto_region 3 with (fail)
      refine wp_region_lit ?_
      refine wpList_run rfl (.int .i64 (k : Int)) (by simp [go_sem]) ?_
      simp only [Act.put, List.setIfInBounds_toArray, List.set_cons_zero, List.set_cons_succ]
      refine wpList_run rfl (.slice (some a) n lc) (by simp [go_sem]) ?_
      simp only [Act.put, List.setIfInBounds_toArray, List.set_cons_zero, List.set_cons_succ]
      refine wpList_run rfl (.int .i64 (n : Int)) (by simp [go_sem]) ?_
      simp only [Act.put, List.setIfInBounds_toArray, List.set_cons_zero, List.set_cons_succ]
      refine wpList_run rfl (.bool true) (by simp [go_sem, k1]) ?_
      simp only [Act.put, List.setIfInBounds_toArray, List.set_cons_zero, List.set_cons_succ]
      go_upto_region 5 with (fail)
      refine wp_region_lit ?_
      refine wpList_run rfl (.slice vo (22 + 4 * k) vc) (by simp [go_sem]) ?_
      simp only [Act.put, List.setIfInBounds_toArray, List.set_cons_zero, List.set_cons_succ]
      refine wpList_run rfl (.slice (some a) n lc) (by simp [go_sem]) ?_
      simp only [Act.put, List.setIfInBounds_toArray, List.set_cons_zero, List.set_cons_succ]
      refine wpList_run rfl (.int .i64 (k : Int)) (by simp [go_sem]) ?_
      simp only [Act.put, List.setIfInBounds_toArray, List.set_cons_zero, List.set_cons_succ]
      refine wpList_run rfl (.pointer (some (a.add k))) (by simp [go_sem, k1]) ?_
      simp only [Act.put, List.setIfInBounds_toArray, List.set_cons_zero, List.set_cons_succ]
      refine wpList_run rfl (.int .i64 (bs k)) (by simp [go_sem, hel]) ?_
      simp only [Act.put, List.setIfInBounds_toArray, List.set_cons_zero, List.set_cons_succ]
      refine wpList_run rfl (.int .u64 ((bW (bs k)).toNat : Int)) (by simp [go_sem, hw]) ?_
      simp only [Act.put, List.setIfInBounds_toArray, List.set_cons_zero, List.set_cons_succ]
      refine wpList_call rfl (by simp [go_sem]) ((number_any 4 (bW (bs k)) wr (by decide)).mono ?_)
      rintro e p4w ⟨p4v, rfl, p4h, p4X⟩
      refine ⟨_, rfl, ?_⟩
      simp only [Act.put, List.setIfInBounds_toArray, List.set_cons_zero, List.set_cons_succ]
      replace hG := hideit (hG.out.ext p4X)
      replace hE := hideit (Ext.trans hE.out p4X)
      have p4b := hideit p4h.bv
      clear p4h p4X
      obtain ⟨p4o, p4c, rfl⟩ := p4b.out.form
      clear hel hw
      refine wpList_gb rfl (.tmp 28) (.tmp 34) rfl rfl hG.out (.slice p4o 4 p4c) 4 (byB (bW (bs k))) rfl p4b.out (by omega) ?_
      intro q4v q4w q4h
      replace q4h : GB w q4v (22 + 4 * k + 4) (catF (catF (catF (catF (begF sPL x) 12 (byB (BitVec.ofNat 64 n))) 14 (byB t)) 22 (bsF bs)) (22 + 4 * k) (byB (bW (bs k)))) q4w := q4h
      obtain ⟨q4o, q4c, rfl⟩ := q4h.form
      simp only [Act.put, List.setIfInBounds_toArray, List.set_cons_zero, List.set_cons_succ]
      replace q4h := hideit q4h
      replace hE : Hid (Ext w q4w) := q4h.out.2
      have hG2 : Hid (GB w (.slice q4o (22 + 4 * k + 4) q4c) (22 + 4 * (k + 1)) (catF (catF (catF (begF sPL x) 12 (byB (BitVec.ofNat 64 n))) 14 (byB t)) 22 (bsF bs)) q4w) := q4h.out.congr (by omega) fun j hj => by
        unfold catF
        by_cases h1 : j < 22 + 4 * k
        · rw [if_pos h1]
        · rw [if_neg h1, if_neg (show ¬ j < 22 by omega)]
          unfold bsF
          rw [show (j - 22) / 4 = k by omega, show (j - 22) % 4 = j - (22 + 4 * k) by omega]
      clear hG q4h p4b
      refine wpList_run rfl (.slice q4o (22 + 4 * k + 4) q4c) (by simp [go_sem]) ?_
      simp only [Act.put, List.setIfInBounds_toArray, List.set_cons_zero, List.set_cons_succ]
      go_upto_region 4 with (fail)
      refine wp_region_lit ?_
      refine wpList_run rfl (.int .i64 (k : Int)) (by simp [go_sem]) ?_
      simp only [Act.put, List.setIfInBounds_toArray, List.set_cons_zero, List.set_cons_succ]
      refine wpList_run rfl (.int .i64 ((k + 1 : Nat) : Int)) (by simp [go_sem, ek]) ?_
      simp only [Act.put, List.setIfInBounds_toArray, List.set_cons_zero, List.set_cons_succ]
      refine wpList_run rfl (.int .i64 ((k + 1 : Nat) : Int)) (by simp [go_sem]) ?_
      simp only [Act.put, List.setIfInBounds_toArray, List.set_cons_zero, List.set_cons_succ]
      go_wp2
      refine ⟨⟨k + 1, by omega, rfl, hG2.out⟩, by simp [intOf]; omega⟩
    · obtain rfl : k = n := by omega
      have k1 : ¬ (k : Int) < (k : Int) := by omega
      go_upto_region 3 with (fail)
      refine wp_region_lit ?_
      refine wpList_run rfl (.int .i64 (k : Int)) (by simp [go_sem]) ?_
      simp only [Act.put, List.setIfInBounds_toArray, List.set_cons_zero, List.set_cons_succ]
      refine wpList_run rfl (.slice lo k lc) (by simp [go_sem]) ?_
      simp only [Act.put, List.setIfInBounds_toArray, List.set_cons_zero, List.set_cons_succ]
      refine wpList_run rfl (.int .i64 (k : Int)) (by simp [go_sem]) ?_
      simp only [Act.put, List.setIfInBounds_toArray, List.set_cons_zero, List.set_cons_succ]
      refine wpList_run rfl (.bool false) (by simp [go_sem, k1]) ?_
      simp only [Act.put, List.setIfInBounds_toArray, List.set_cons_zero, List.set_cons_succ]
      go_upto_region 6 with (fail)
      refine wp_region_lit ?_
      refine wpList_run rfl (.slice vo (22 + 4 * k) vc) (by simp [go_sem]) ?_
      simp only [Act.put, List.setIfInBounds_toArray, List.set_cons_zero, List.set_cons_succ]
      refine wpList_call rfl (by simp [go_sem]) ((rfill_any w.heap.size (22 + 4 * k) (.slice vo (22 + 4 * k) vc) (catF (catF (catF (begF sPL x) 12 (byB (BitVec.ofNat 64 k))) 14 (byB t)) 22 (bsF bs)) wr hG.out.1 (by omega) (by omega) (Below.size hE.out)).mono ?_)
      rintro e y9 ⟨u, rfl, hO9, hX9⟩
      refine ⟨_, rfl, ?_⟩
      simp only [Act.put, List.setIfInBounds_toArray, List.set_cons_zero, List.set_cons_succ]
      refine wpList_run rfl (u) (by simp [go_sem]) ?_
      simp only [Act.put, List.setIfInBounds_toArray, List.set_cons_zero, List.set_cons_succ]
      go_wp2
      go_ret
      refine ⟨u, rfl, ?_, Below.trans hE.out hX9⟩
      refine BV.congr hO9.bv fun j hj => ?_
      unfold planF plB padF
      rw [fcat3]
end Go.Proofs.YtedgopionpdfeaaDoor
