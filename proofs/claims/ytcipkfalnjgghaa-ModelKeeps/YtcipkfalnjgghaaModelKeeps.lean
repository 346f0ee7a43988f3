/-
  Whatever the ops: a call that is refused leaves the model as it was; one that is not takes nothing away.
-/
import Derived.Test.YtcipkfalnjgghaaRows
import Derived.ProofKit
import Derived.OpenShut
import Derived.ShutString
import Derived.ChangeOld
import Derived.Below
import Derived.SizedLaws
import Derived.Test.YtcipkfalnjgghaaMdO
import Derived.Test.YtcipkfalnjgghaaMd32
namespace Go.Proofs.Ytcipkfalnjgghaa.modelKeeps
open Go.ChangeShapes Go.WideShapes Go.ChangeAt Go.RowKit
set_option linter.unusedVariables false

theorem own : ownKnob Try.prog.godebug = none := by kernel_rfl
theorem laidOut : laidOutB Try.prog = true := by kernel_rfl

theorem walk (oL : Option Addr) (nn cp : Nat) (k n : Int) (o1 : Option Addr) (l1 c1 : Nat) (o2 : Option Addr) (l2 c2 : Nat) (ko : Option Addr) (kl kc : Nat) (w : World) (hops : OpsA oL nn w) (hn : okI n) (hP1 : PB (.slice o1 l1 c1) w) (hP2 : PB (.slice o2 l2 c2) w) : Calls Try.prog 4 #[.slice oL nn cp, .agg #[.int .i64 (k), .int .i64 (n), .slice o1 l1 c1, .slice o2 l2 c2, .slice ko kl kc]] w fun e w' => e = .returned (.bool true) ∧ Below w.heap.size w w' := keeps_any oL nn cp k n o1 l1 c1 o2 l2 c2 ko kl kc w hops hn hP1 hP2

set_option maxRecDepth 100000 in
theorem lifted (os : Os) (started : os.Started) (H : Type) (enc : TypeId × Value → H) :
    ReturnsInHanded {} Try.checked os 4 .any (Rows.modelKeepsSpec.pre6 enc Try.prog Try.f4 Rows.modelKeepsRow.domain false) (Rows.modelKeepsSpec.post enc Try.prog Try.f4 false true false false) := by
  refine returnsInHanded_of_change_sized (C := Try.checked) own started (by kernel_rfl) Try.func4
    (ChangeSpec.witness6 (enc := enc) (C := Try.checked) false ⟨#[], #[.slice none 0 0, .agg #[.int .i64 0, .int .i64 0, .slice none 0 0, .slice none 0 0, .slice none 0 0]], []⟩ 8 (by kernel_rfl) (by kernel_rfl) (by kernel_rfl) (by kernel_rfl)) ?_
  intro W base args ds gs before hval0 hW hcnd hsz0 _
  have hsz := hsz0
  have hval : ∀ (j : Nat) t v, Try.f4.params[j]? = some t → args[j]? = some v → Value.okWide Try.prog W .any base t v := hval0
  have hW' := hW
  obtain ⟨p, q, hA0, hV, rfl, hfz, hnd⟩ := hW
  have hA : DataW.TrodAll enc Try.prog W 0 (fun _ => true) true Try.f4.params.toList args.toList ds p := hA0
  rw [Try.params4] at hA hval hsz
  obtain ⟨v0, vs0, d0, ds0, p0, q0, hargs, rfl, rfl, h0, r0⟩ := trodAll_cons hA
  obtain ⟨v1, vs1, d1, ds1, p1, q1, rfl, rfl, rfl, h1, r1⟩ := trodAll_cons r0
  obtain ⟨rfl, rfl, rfl⟩ := trodAll_nil r1
  obtain rfl : args = #[v0, v1] := by cases args; simp_all
  obtain ⟨rfl, rfl⟩ := trodVars_none hV
  have k0 := h0
  have lt0 : ∀ x ∈ p0, x.block < W.heap.size := by obtain ⟨m, hm⟩ := k0; exact DataW.trod_lt m _ _ _ hm
  have k1 := h1
  have lt1 : ∀ x ∈ p1, x.block < W.heap.size := by obtain ⟨m, hm⟩ := k1; exact DataW.trod_lt m _ _ _ hm
  obtain ⟨xo0, xn0, xc0, rfl, xl0, B0⟩ := opsarg (hval 0 53 v0 rfl rfl) h0
  obtain ⟨xa1, xb1, xc1, xd1, xe1, xf1, xg1, xh1, xi1, xj1, xk1, rfl, y11, y21, y31, y41⟩ := open_opP (hval 1 25 v1 rfl rfl) h1
  clear hA0 hval0
  refine (walk xo0 xn0 xc0 xa1 xb1 xc1 xd1 xe1 xf1 xg1 xh1 xi1 xj1 xk1 W  B0  y21 y31 y41).mono fun e W' ⟨he, bel⟩ => ?_
  subst he
  exact ⟨_, rfl, _, _, _, [], _, [], hW', trodAll_mk1 (shut_bool Try.underlying4 _), (trodAll_cons_mk (Below.trod laidOut (by kernel_rfl) (of_decide_eq_true (by kernel_rfl)) k0 bel lt0) (trodAll_cons_mk (Below.trod laidOut (by kernel_rfl) (of_decide_eq_true (by kernel_rfl)) k1 bel lt1) trodAll_mk0)), rfl, bel.frame _, fun h => by cases h⟩

theorem over : Rows.modelKeepsRow.holds Try.pinned (OpenSpec.ofChange Rows.modelKeepsSpec) :=
  OpenClaim.holds_of_wide 4 Try.f4 rfl rfl rfl rfl rfl rfl rfl ⟨rfl, rfl, rfl, rfl, rfl⟩ rfl rfl rfl rfl rfl (by kernel_rfl) Try.func4 (by kernel_rfl)
    (of_decide_eq_true (by kernel_rfl)) (by unfold Func.isWrapper; first | (rw [if_pos (by decide +kernel)]; kernel_rfl) | (rw [if_neg (by decide +kernel)]; exact ⟨rfl, rfl⟩))
    (fun os started H enc _ => lifted os started H enc)
end Go.Proofs.Ytcipkfalnjgghaa.modelKeeps
namespace Go.Proofs.Ytcipkfalnjgghaa
theorem modelKeeps_holds : Rows.ModelKeepsSaid := modelKeeps.over
end Go.Proofs.Ytcipkfalnjgghaa
