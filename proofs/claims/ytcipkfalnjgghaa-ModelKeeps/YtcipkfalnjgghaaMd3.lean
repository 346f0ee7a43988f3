/-
  Steps that are taken in order till one refuses.
-/
import Derived.Test.YtcipkfalnjgghaaMd2
namespace Go.Proofs.Ytcipkfalnjgghaa
open Go.RowKit Go.BigFrame Go.Maps
set_option linter.unusedVariables false
/-- a step's value: function g, bound to bd, with fr captured -/
def fnV (g : Nat → FuncId) (bd fr : Nat → Array Value) (j : Nat) : Value := .func (.func (g j)) (bd j) (fr j)
set_option maxRecDepth 20000 in
set_option maxHeartbeats 4000000 in
theorem do_nil (v : Value) (w : World) : Calls Try.prog 33 #[.pointer none, v] w fun e w' => e = .returned (.int .i64 6) ∧ w' = w := by
  go_enter Try.func33, Try.ntmps33
  go_upto_region 1 with (fail)
  refine wp_region_lit ?_
  refine xm [some (.pointer none), some (.bool true), some (.bool true), none, none, none, none, none, some (.bool true)] (by kernel_rfl) (by simp [xr, go_sem]) ?_
  simp only [xw, p0, p1, p2, p3]
  go_upto_region 2 with (fail)
  refine wp_region_lit ?_
  refine xm [some (.int .i64 6)] (by kernel_rfl) (by simp [xr, go_sem]) ?_
  simp only [xw, p0, p1, p2, p3]
  go_wp2
  go_ret
  exact ⟨rfl, rfl⟩
set_option maxRecDepth 20000 in
set_option maxHeartbeats 4000000 in
theorem do_shut (h : Hd) (sb pb : Nat) (ep : Int) (r : Rt) (sl : Int) (p : Nat) (v : Value) (w : World) (hS : RowAt p 64 (mdV h sb pb ep r false sl) w) : Calls Try.prog 33 #[.pointer (some ⟨p, 0, none⟩), v] w fun e w' => e = .returned (.int .i64 6) ∧ w' = w := by
  replace hS := hideit hS
  go_enter Try.func33, Try.ntmps33
  go_upto_region 1 with (fail)
  refine wp_region_lit ?_
  have m1 : w.cell? ⟨p, 62, none⟩ = some (.bool false) := hS.out.1 62 (by decide)
  refine xm [some (.pointer (some ⟨p, 0, none⟩)), some (.bool false), some (.bool false), some (.pointer (some ⟨p, 0, none⟩)), some (.pointer (some ⟨p, 0, none⟩)), some (.pointer (some ⟨p, 62, none⟩)), some (.bool false), some (.bool true), some (.bool true)] (by kernel_rfl) (by simp [xr, go_sem, m1]) ?_
  simp only [xw, p0, p1, p2, p3]
  clear m1
  go_upto_region 2 with (fail)
  refine wp_region_lit ?_
  refine xm [some (.int .i64 6)] (by kernel_rfl) (by simp [xr, go_sem]) ?_
  simp only [xw, p0, p1, p2, p3]
  go_wp2
  go_ret
  exact ⟨rfl, rfl⟩
theorem xcallV {P : Program} {o : Oper} {a : Act} {w : World} {x : Operand} {g : FuncId} {bd fr : Array Value} (ho : o.op = .call { callee := .value x, args := #[], argTypes := #[] }) (hx : a.eval x = .func (.func g) bd fr) (h : ∀ args X, (callFunc g args).run P X = .ok (.enter g args) X) : (execOp a.eval o).run P w = .ok (.enter g (bd ++ fr)) w := by
  unfold execOp
  rw [ho]
  generalize a.eval = ρ at hx ⊢
  simp [hx, h, go_sem]
set_option maxRecDepth 20000 in
set_option maxHeartbeats 4000000 in
theorem do_open (h : Hd) (sb pb : Nat) (ep : Int) (r : Rt) (sl : Int) (p k : Nat) (a : Addr) (g : Nat → FuncId) (bd fr : Nat → Array Value) (w : World) (hS : RowAt p 64 (mdV h sb pb ep r true sl) w) (hk : k < 100)
    (I : Nat → World → Prop) (R : Int → World → Prop) (h0 : I 0 w) (hI : ∀ i W, I i W → ∀ j, j < k → W.cell? (a.add j) = some (fnV g bd fr j))
    (hen : ∀ i, i < k → ∀ args X, (callFunc (g i) args).run Try.prog X = .ok (.enter (g i) args) X)
    (hst : ∀ i, i < k → ∀ W, I i W → Calls Try.prog (g i) (bd i ++ fr i) W fun e w' => ∃ c : Int, e = .returned (.int .i64 c) ∧ (c = 0 → I (i + 1) w') ∧ (c ≠ 0 → R c w')) :
    Calls Try.prog 33 #[.pointer (some ⟨p, 0, none⟩), .slice (some a) k k] w fun e w' => ∃ c : Int, e = .returned (.int .i64 c) ∧ (c = 0 → I k w') ∧ (c ≠ 0 → R c w') := by
  replace hS := hideit hS
  replace h0 := hideit h0
  replace hI := hideit hI
  replace hen := hideit hen
  replace hst := hideit hst
  go_enter Try.func33, Try.ntmps33
  go_upto_region 1 with (fail)
  refine wp_region_lit ?_
  have m1 : w.cell? ⟨p, 62, none⟩ = some (.bool true) := hS.out.1 62 (by decide)
  refine xm [some (.pointer (some ⟨p, 0, none⟩)), some (.bool false), some (.bool false), some (.pointer (some ⟨p, 0, none⟩)), some (.pointer (some ⟨p, 0, none⟩)), some (.pointer (some ⟨p, 62, none⟩)), some (.bool true), some (.bool false), some (.bool false)] (by kernel_rfl) (by simp [xr, go_sem, m1]) ?_
  simp only [xw, p0, p1, p2, p3]
  clear m1
  go_upto_region 3 with (fail)
  refine wp_region_lit ?_
  refine xm [some (.slice (some a) k k), some (.int .i64 (k : Int)), some (.int .i64 0)] (by kernel_rfl) (by simp [xr, go_sem]) ?_
  simp only [xw, p0, p1, p2, p3]
  go_wp2
  go_loopw [19] (fun t X => ∃ i : Nat, i ≤ k ∧ t = .int .i64 (i : Int) ∧ I i X) (fun t _ => k - (intOf t).toNat)
  case atStart => exact ⟨0, Nat.zero_le _, rfl, h0.out⟩
  case round =>
    obtain ⟨i, hik, rfl, hIi⟩ := hrel
    replace hIi := hideit hIi
    by_cases hlt : (i : Int) < (k : Int)
    · have hik2 : Hid (i < k) := by show i < k; omega
      have hel : Hid (wr.cell? (a.add i) = some (fnV g bd fr i)) := hideit (hI.out i wr hIi.out i hik2.out)
      have hik3 : Hid ((i : Int) < (k : Int)) := hideit hlt
      go_upto_region 4 with (fail)
      refine wp_region_lit ?_
      refine xm [some (.bool true)] (by kernel_rfl) (by simp [xr, go_sem, hik3.out]) ?_
      simp only [xw, p0, p1, p2, p3]
      go_upto_region 5 with (fail)
      refine wp_region_lit ?_
      refine xm [some (.pointer (some (a.add i))), some (fnV g bd fr i), some (fnV g bd fr i)] (by kernel_rfl) (by simp [xr, go_sem, hik2.out, hel.out]) ?_
      simp only [xw, p0, p1, p2, p3]
      go_upto_region 6 with (fail)
      refine wp_region_lit ?_
      refine wpList_run rfl (fnV g bd fr i) (by simp [go_sem]) ?_
      simp only [Act.put, List.setIfInBounds_toArray, List.set_cons_zero, List.set_cons_succ]
      refine wpList_call rfl (f := g i) (args := bd i ++ fr i) (xcallV (g := g i) rfl rfl (hen.out i hik2.out)) ((hst.out i hik2.out wr hIi.out).mono ?_)
      rintro e w2 ⟨c, rfl, hc0, hc1⟩
      refine ⟨_, rfl, ?_⟩
      simp only [Act.put, List.setIfInBounds_toArray, List.set_cons_zero, List.set_cons_succ]
      replace hc0 := hideit hc0
      replace hc1 := hideit hc1
      by_cases hc : c = 0
      · subst hc
        have ek : IntKind.i64.wrap ((i : Int) + 1) = ((i + 1 : Nat) : Int) := by rw [IntKind.wrap_i64]; omega
        go_wp2
        go_round
        case rel => exact ⟨i + 1, by omega, rfl, hc0.out rfl⟩
        case measure => simp [intOf]; omega
      · go_wp2
        go_ret
        exact ⟨c, rfl, fun h => absurd h hc, fun _ => hc1.out hc⟩
    · have hik2 : i = k := by omega
      subst hik2
      go_wp2
      go_ret
      exact ⟨0, rfl, fun _ => hIi.out, fun h => absurd rfl h⟩
end Go.Proofs.Ytcipkfalnjgghaa
