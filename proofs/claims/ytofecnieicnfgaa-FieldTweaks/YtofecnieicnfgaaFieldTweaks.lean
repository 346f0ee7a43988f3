/-
  FieldTweaks answers true for every two tweaks and every sixteen bytes, with no condition: the program's doubles, products and bytes of tweaks are the document's.
-/
import Derived.Test.YtofecnieicnfgaaRows
import Derived.ProofKit
import Derived.OpenShut
import Derived.ShutString
import Derived.ChangeOld
import Derived.Below
import Derived.Test.YtofecnieicnfgaaOpens
import Derived.Test.YtofecnieicnfgaaKept
import Derived.Test.YtofecnieicnfgaaArr
import Derived.Test.YtofecnieicnfgaaROf
import Derived.Test.YtofecnieicnfgaaRDouble
import Derived.Test.YtofecnieicnfgaaRTimes
namespace Go.Proofs.Ytofecnieicnfgaa.fieldTweaks
open Go.ChangeShapes Go.WideShapes Go.ChangeAt Go.RowKit
set_option linter.unusedVariables false

theorem own : ownKnob Try.prog.godebug = none := by kernel_rfl
theorem laidOut : laidOutB Try.prog = true := by kernel_rfl

def TweakOk (w : World) (a b : BitVec 128) (f : Nat → BitVec 8) (u : World) : Prop :=
  Lies w.heap.size a u ∧ Lies (w.heap.size + 1) b u ∧ RowAt (w.heap.size + 1 + 1) 16 (yv f) u ∧ Below w.heap.size w u
theorem TweakOk.carry {w : World} {a b : BitVec 128} {f : Nat → BitVec 8} {X u : World} (h : TweakOk w a b f X) (hb : Below X.heap.size X u) : TweakOk w a b f u :=
  ⟨h.1.carry hb, h.2.1.carry hb, h.2.2.1.carry hb, h.2.2.2.trans (hb.mono (Nat.le_of_lt h.1.2.2))⟩
/-- a whole row is loaded, in every world of a class that holds it -/
theorem quiet_load_row {P : Program} {o : Oper} {a : Act} {C : World → Prop} {K : Act → Prop} (ty : TypeId) (x : Operand) (b : Nat) (cs : List Value) (d : TypeDesc) (ho : o.op = .load ty x) (hx : a.eval x = .pointer (some ⟨b, 0, none⟩))
    (hC : ∀ w, C w → w.rangeAt b 0 cs) (hu : P.underlying ty = some d) (hd : d.isRow = true) (hi : (P.info? ty).map (·.size) = some cs.length) (hk : K (a.put o.dst (.agg cs.toArray))) : o.quiet P a C K :=
  ⟨.agg cs.toArray, fun w hw => by
    unfold Oper.quietAt execOp
    simp only [ho, hx, Instr.loadAt, Instr.sureAddr, Sem.run_bind, Sem.run_pure, Result.andThen_ok, run_loadVar_mid w b 0 ty cs d (hC w hw) hu hd hi]
    exact ⟨rfl, rfl⟩, hk⟩

set_option maxRecDepth 20000 in
set_option maxHeartbeats 4000000 in
theorem walk (a b : BitVec 128) (f : Nat → BitVec 8) (w : World) :
    Calls Try.prog 4 #[.agg #[.int .u64 ((lo a).toNat : Int), .int .u64 ((hi a).toNat : Int)], .agg #[.int .u64 ((lo b).toNat : Int), .int .u64 ((hi b).toNat : Int)], .agg (row 16 (yv f)).toArray] w fun e w' => e = .returned (.bool true) ∧ Below w.heap.size w w' := by
  have hW : TweakOk w a b f (((w.alloc (Obj.cells #[Value.int IntKind.u64 ↑(lo a).toNat, Value.int IntKind.u64 ↑(hi a).toNat] 28)).alloc (Obj.cells #[Value.int IntKind.u64 ↑(lo b).toNat, Value.int IntKind.u64 ↑(hi b).toNat] 28)).alloc (Obj.cells (row 16 (yv f)).toArray 29)) := by
    refine ⟨⟨?_, ?_, ?_⟩, ⟨?_, ?_, ?_⟩, ?_, ?_⟩
    case refine_7 => simpa using RowAt.new ((w.alloc (Obj.cells #[Value.int IntKind.u64 ↑(lo a).toNat, Value.int IntKind.u64 ↑(hi a).toNat] 28)).alloc (Obj.cells #[Value.int IntKind.u64 ↑(lo b).toNat, Value.int IntKind.u64 ↑(hi b).toNat] 28)) 16 (yv f) 29
    case refine_8 => exact (((Below.refl _ _).alloc (Nat.le_refl _) _).alloc (by simp) _).alloc (by simp; omega) _
    all_goals first | (simp [go_sem]; done) | (simp; omega) | simp
  have HW := hideit hW
  clear hW
  have heq := eq16 (byB a)
  go_enter Try.func4, Try.ntmps4
  go_wp2
  have r00 : ∀ q : Kept (TweakOk w a b f), q.w.cell? ⟨w.heap.size, 0, none⟩ = some (.int .u64 ((lo a).toNat : Int)) := fun q => q.ok.1.1
  have r01 : ∀ q : Kept (TweakOk w a b f), q.w.cell? ⟨w.heap.size, 1, none⟩ = some (.int .u64 ((hi a).toNat : Int)) := fun q => q.ok.1.2.1
  have r10 : ∀ q : Kept (TweakOk w a b f), q.w.cell? ⟨w.heap.size + 1, 0, none⟩ = some (.int .u64 ((lo b).toNat : Int)) := fun q => q.ok.2.1.1
  have r11 : ∀ q : Kept (TweakOk w a b f), q.w.cell? ⟨w.heap.size + 1, 1, none⟩ = some (.int .u64 ((hi b).toNat : Int)) := fun q => q.ok.2.1.2.1
  have hne : Nonempty (Kept (TweakOk w a b f)) := ⟨⟨_, HW.out⟩⟩
  refine wp_region_kept (Ok := TweakOk w a b f) (by kernel_rfl) (by kernel_rfl) (HW.out.carry ((Below.refl _ _).drew)) ?_
  repeat (go_big_quiet_step ((rename_i q; first | exact rfl | (go_at_call 9; exact (lives_any q.w).mono fun e w'' h => ⟨h.1, ⟨⟨w'', TweakOk.carry q.ok h.2⟩, rfl⟩⟩) | (go_at_call 17; exact (double_any a q.w).mono fun e w'' h => ⟨h.1, ⟨⟨w'', TweakOk.carry q.ok h.2⟩, rfl⟩⟩) | (go_at_call 18; exact (rdouble_any a q.w).mono fun e w'' h => ⟨h.1, ⟨⟨w'', TweakOk.carry q.ok h.2⟩, rfl⟩⟩) | (go_at_call 19; exact (times_any a b q.w).mono fun e w'' h => ⟨h.1, ⟨⟨w'', TweakOk.carry q.ok h.2⟩, rfl⟩⟩) | (go_at_call 20; exact (rtimes_any a b q.w).mono fun e w'' h => ⟨h.1, ⟨⟨w'', TweakOk.carry q.ok h.2⟩, rfl⟩⟩) | (go_at_call 21; exact (bytes_any a q.w).mono fun e w'' h => ⟨h.1, ⟨⟨w'', TweakOk.carry q.ok h.2⟩, rfl⟩⟩) | (go_at_call 22; exact (rbytes_any a q.w).mono fun e w'' h => ⟨h.1, ⟨⟨w'', TweakOk.carry q.ok h.2⟩, rfl⟩⟩) | (go_at_call 23; exact (of_any f q.w).mono fun e w'' h => ⟨h.1, ⟨⟨w'', TweakOk.carry q.ok h.2⟩, rfl⟩⟩) | (go_at_call 24; exact (rof_any f q.w).mono fun e w'' h => ⟨h.1, ⟨⟨w'', TweakOk.carry q.ok h.2⟩, rfl⟩⟩))))
  go_big_quiet_want
  refine quiet_load_row 29 (.tmp 5) (w.heap.size + 1 + 1) (row 16 (yv f)) _ rfl rfl (fun w' hw' => by obtain ⟨q, rfl⟩ := hw'; exact q.ok.2.2.1.range) Try.underlying29 rfl (by rw [row_length]; exact info29) ?_
  simp only [Act.put, List.setIfInBounds_toArray, List.set_cons_zero, List.set_cons_succ]
  go_big_quiet_on
  repeat (go_big_quiet_step ((rename_i q; first | exact rfl | (go_at_call 9; exact (lives_any q.w).mono fun e w'' h => ⟨h.1, ⟨⟨w'', TweakOk.carry q.ok h.2⟩, rfl⟩⟩) | (go_at_call 17; exact (double_any a q.w).mono fun e w'' h => ⟨h.1, ⟨⟨w'', TweakOk.carry q.ok h.2⟩, rfl⟩⟩) | (go_at_call 18; exact (rdouble_any a q.w).mono fun e w'' h => ⟨h.1, ⟨⟨w'', TweakOk.carry q.ok h.2⟩, rfl⟩⟩) | (go_at_call 19; exact (times_any a b q.w).mono fun e w'' h => ⟨h.1, ⟨⟨w'', TweakOk.carry q.ok h.2⟩, rfl⟩⟩) | (go_at_call 20; exact (rtimes_any a b q.w).mono fun e w'' h => ⟨h.1, ⟨⟨w'', TweakOk.carry q.ok h.2⟩, rfl⟩⟩) | (go_at_call 21; exact (bytes_any a q.w).mono fun e w'' h => ⟨h.1, ⟨⟨w'', TweakOk.carry q.ok h.2⟩, rfl⟩⟩) | (go_at_call 22; exact (rbytes_any a q.w).mono fun e w'' h => ⟨h.1, ⟨⟨w'', TweakOk.carry q.ok h.2⟩, rfl⟩⟩) | (go_at_call 23; exact (of_any f q.w).mono fun e w'' h => ⟨h.1, ⟨⟨w'', TweakOk.carry q.ok h.2⟩, rfl⟩⟩) | (go_at_call 24; exact (rof_any f q.w).mono fun e w'' h => ⟨h.1, ⟨⟨w'', TweakOk.carry q.ok h.2⟩, rfl⟩⟩))))
  go_big_quiet_want
  refine quiet_load_row 29 (.tmp 5) (w.heap.size + 1 + 1) (row 16 (yv f)) _ rfl rfl (fun w' hw' => by obtain ⟨q, rfl⟩ := hw'; exact q.ok.2.2.1.range) Try.underlying29 rfl (by rw [row_length]; exact info29) ?_
  simp only [Act.put, List.setIfInBounds_toArray, List.set_cons_zero, List.set_cons_succ]
  go_big_quiet_on
  repeat (go_big_quiet_step ((rename_i q; first | exact rfl | (go_at_call 9; exact (lives_any q.w).mono fun e w'' h => ⟨h.1, ⟨⟨w'', TweakOk.carry q.ok h.2⟩, rfl⟩⟩) | (go_at_call 17; exact (double_any a q.w).mono fun e w'' h => ⟨h.1, ⟨⟨w'', TweakOk.carry q.ok h.2⟩, rfl⟩⟩) | (go_at_call 18; exact (rdouble_any a q.w).mono fun e w'' h => ⟨h.1, ⟨⟨w'', TweakOk.carry q.ok h.2⟩, rfl⟩⟩) | (go_at_call 19; exact (times_any a b q.w).mono fun e w'' h => ⟨h.1, ⟨⟨w'', TweakOk.carry q.ok h.2⟩, rfl⟩⟩) | (go_at_call 20; exact (rtimes_any a b q.w).mono fun e w'' h => ⟨h.1, ⟨⟨w'', TweakOk.carry q.ok h.2⟩, rfl⟩⟩) | (go_at_call 21; exact (bytes_any a q.w).mono fun e w'' h => ⟨h.1, ⟨⟨w'', TweakOk.carry q.ok h.2⟩, rfl⟩⟩) | (go_at_call 22; exact (rbytes_any a q.w).mono fun e w'' h => ⟨h.1, ⟨⟨w'', TweakOk.carry q.ok h.2⟩, rfl⟩⟩) | (go_at_call 23; exact (of_any f q.w).mono fun e w'' h => ⟨h.1, ⟨⟨w'', TweakOk.carry q.ok h.2⟩, rfl⟩⟩) | (go_at_call 24; exact (rof_any f q.w).mono fun e w'' h => ⟨h.1, ⟨⟨w'', TweakOk.carry q.ok h.2⟩, rfl⟩⟩))))
  refine wpQuiet_nil ?_
  intro _ hw'
  obtain ⟨q, hq⟩ := hw'
  subst hq
  go_wp2
  go_ret
  exact ⟨rfl, q.ok.2.2.2⟩

set_option maxRecDepth 100000 in
theorem lifted (os : Os) (started : os.Started) (H : Type) (enc : TypeId × Value → H) :
    ReturnsInHanded {} Try.checked os 4 .any (Rows.fieldTweaksSpec.pre6 enc Try.prog Try.f4 Rows.fieldTweaksRow.domain false) (Rows.fieldTweaksSpec.post enc Try.prog Try.f4 false true false false) := by
  refine returnsInHanded_of_change (C := Try.checked) own started (by kernel_rfl) Try.func4
    (ChangeSpec.witness6 (enc := enc) (C := Try.checked) false ⟨#[], #[.agg #[.int .u64 0, .int .u64 0], .agg #[.int .u64 0, .int .u64 0], .agg #[.int .u8 0, .int .u8 0, .int .u8 0, .int .u8 0, .int .u8 0, .int .u8 0, .int .u8 0, .int .u8 0, .int .u8 0, .int .u8 0, .int .u8 0, .int .u8 0, .int .u8 0, .int .u8 0, .int .u8 0, .int .u8 0]], []⟩ 8 (by kernel_rfl) (by kernel_rfl) (by kernel_rfl) (by kernel_rfl)) ?_
  intro W base args ds gs before hval0 hW hcnd _
  have hval : ∀ (j : Nat) t v, Try.f4.params[j]? = some t → args[j]? = some v → Value.okWide Try.prog W .any base t v := hval0
  have hW' := hW
  obtain ⟨p, q, hA0, hV, rfl, hfz, hnd⟩ := hW
  have hA : DataW.TrodAll enc Try.prog W 0 (fun _ => true) true Try.f4.params.toList args.toList ds p := hA0
  rw [Try.params4] at hA hval
  obtain ⟨v0, vs0, d0, ds0, p0, q0, hargs, rfl, rfl, h0, r0⟩ := trodAll_cons hA
  obtain ⟨v1, vs1, d1, ds1, p1, q1, rfl, rfl, rfl, h1, r1⟩ := trodAll_cons r0
  obtain ⟨v2, vs2, d2, ds2, p2, q2, rfl, rfl, rfl, h2, r2⟩ := trodAll_cons r1
  obtain ⟨rfl, rfl, rfl⟩ := trodAll_nil r2
  obtain rfl : args = #[v0, v1, v2] := by cases args; simp_all
  obtain ⟨rfl, rfl⟩ := trodVars_none hV
  have k0 := h0
  have lt0 : ∀ x ∈ p0, x.block < W.heap.size := by obtain ⟨m, hm⟩ := k0; exact DataW.trod_lt m _ _ _ hm
  have k1 := h1
  have lt1 : ∀ x ∈ p1, x.block < W.heap.size := by obtain ⟨m, hm⟩ := k1; exact DataW.trod_lt m _ _ _ hm
  have k2 := h2
  have lt2 : ∀ x ∈ p2, x.block < W.heap.size := by obtain ⟨m, hm⟩ := k2; exact DataW.trod_lt m _ _ _ hm
  obtain ⟨a0, rfl⟩ := open_half (hval 0 28 v0 rfl rfl) h0
  obtain ⟨a1, rfl⟩ := open_half (hval 1 28 v1 rfl rfl) h1
  obtain ⟨a2, rfl⟩ := open_arr16 (hval 2 29 v2 rfl rfl) h2
  clear hA0 hval0
  refine (walk a0 a1 a2 W ).mono fun e W' ⟨he, bel⟩ => ?_
  subst he
  exact ⟨_, rfl, _, _, _, [], _, [], hW', trodAll_mk1 (shut_bool Try.underlying4 _), (trodAll_cons_mk (Below.trod laidOut (by kernel_rfl) (of_decide_eq_true (by kernel_rfl)) k0 bel lt0) (trodAll_cons_mk (Below.trod laidOut (by kernel_rfl) (of_decide_eq_true (by kernel_rfl)) k1 bel lt1) (trodAll_cons_mk (Below.trod laidOut (by kernel_rfl) (of_decide_eq_true (by kernel_rfl)) k2 bel lt2) trodAll_mk0))), rfl, bel.frame _, fun h => by cases h⟩

theorem over : Rows.fieldTweaksRow.holds Try.pinned (OpenSpec.ofChange Rows.fieldTweaksSpec) :=
  OpenClaim.holds_of_wide 4 Try.f4 rfl rfl rfl rfl rfl rfl rfl ⟨rfl, rfl, rfl, rfl, rfl⟩ rfl rfl rfl rfl rfl (by kernel_rfl) Try.func4 (by kernel_rfl)
    (of_decide_eq_true (by kernel_rfl)) (by unfold Func.isWrapper; first | (rw [if_pos (by decide +kernel)]; kernel_rfl) | (rw [if_neg (by decide +kernel)]; exact ⟨rfl, rfl⟩))
    (fun os started H enc _ => lifted os started H enc)
end Go.Proofs.Ytofecnieicnfgaa.fieldTweaks
namespace Go.Proofs.Ytofecnieicnfgaa
theorem fieldTweaks_holds : Rows.FieldTweaksSaid := fieldTweaks.over
end Go.Proofs.Ytofecnieicnfgaa
