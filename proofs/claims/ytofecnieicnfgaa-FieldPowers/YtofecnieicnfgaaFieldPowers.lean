/-
  FieldPowers answers true for every number and every tweak, with no condition: the program's powers of x are the document's doublings, they add up, and a tweak's bytes lead back to it.
-/
import Derived.Test.YtofecnieicnfgaaRows
import Derived.ProofKit
import Derived.OpenShut
import Derived.ShutString
import Derived.ChangeOld
import Derived.Below
import Derived.Test.YtofecnieicnfgaaOpens
import Derived.Test.YtofecnieicnfgaaKept
import Derived.Deep.RegionWith
import Derived.Test.YtofecnieicnfgaaOf
import Derived.Test.YtofecnieicnfgaaPower
import Derived.Test.YtofecnieicnfgaaRDouble
namespace Go.Proofs.Ytofecnieicnfgaa.fieldPowers
open Go.ChangeShapes Go.WideShapes Go.ChangeAt Go.RowKit
set_option linter.unusedVariables false

theorem own : ownKnob Try.prog.godebug = none := by kernel_rfl
theorem laidOut : laidOutB Try.prog = true := by kernel_rfl

theorem of_back (a : BitVec 128) (w : World) :
    Calls Try.prog 23 #[.agg (row 16 (yv (byB a))).toArray] w fun e w' => e = .returned (.agg #[.int .u64 ((lo a).toNat : Int), .int .u64 ((hi a).toNat : Int)]) ∧ Below w.heap.size w w' := by
  have h := of_any (byB a) w
  rwa [ofB_byB] at h
theorem power_at (n : Int) (m : Nat) (hm : n.toNat = m) (h0 : -4611686018427387904 < n) (h1 : n < 4611686018427387904) (w : World) :
    Calls Try.prog 25 #[.int .i64 n] w fun e w' => e = .returned (.agg #[.int .u64 ((lo (pwr m)).toNat : Int), .int .u64 ((hi (pwr m)).toNat : Int)]) ∧ Below w.heap.size w w' := by
  subst hm; exact power_any n h0 h1 w

theorem walk (n : Int) (wn : (Lit.int .i64 n).wf = true) (a : BitVec 128) (w : World) :
    Calls Try.prog 8 #[.int .i64 n, .agg #[.int .u64 ((lo a).toNat : Int), .int .u64 ((hi a).toNat : Int)]] w fun e w' => e = .returned (.bool true) ∧ Below w.heap.size w w' := by
  have hn := bounds_i64 wn
  have hk1 : -300 < n.tmod 300 := Int.lt_tmod_of_pos n (by omega)
  have hk2 : n.tmod 300 < 300 := Int.tmod_lt_of_pos n (by omega)
  obtain ⟨k, hk⟩ : ∃ k, n.tmod 300 = k := ⟨_, rfl⟩
  rw [hk] at hk1 hk2
  have hW : TwoOk w.heap.size w.heap.size w.heap.size w a a (w.alloc (Obj.cells #[Value.int IntKind.u64 ↑(lo a).toNat, Value.int IntKind.u64 ↑(hi a).toNat] 28)) :=
    ⟨⟨by simp, by simp, by simp⟩, ⟨by simp, by simp, by simp⟩, (Below.refl _ _).alloc (Nat.le_refl _) _, by simp⟩
  have HW := hideit hW
  clear hW
  go_enter Try.func8, Try.ntmps8
  go_wp2
  have r0 : ∀ q : Kept (TwoOk w.heap.size w.heap.size w.heap.size w a a), q.w.cell? ⟨w.heap.size, 0, none⟩ = some (.int .u64 ((lo a).toNat : Int)) := fun q => q.ok.1.1
  have r1 : ∀ q : Kept (TwoOk w.heap.size w.heap.size w.heap.size w a a), q.w.cell? ⟨w.heap.size, 1, none⟩ = some (.int .u64 ((hi a).toNat : Int)) := fun q => q.ok.1.2.1
  have hne : Nonempty (Kept (TwoOk w.heap.size w.heap.size w.heap.size w a a)) := ⟨⟨_, HW.out⟩⟩
  refine wp_region_kept (Ok := TwoOk w.heap.size w.heap.size w.heap.size w a a) (by kernel_rfl) (by kernel_rfl) HW.out.drew ?_
  repeat (go_big_quiet_step ((rename_i q; first | exact rfl | (go_at_call 9; exact (lives_any q.w).mono fun e w'' h => ⟨h.1, ⟨⟨w'', TwoOk.carry q.ok h.2⟩, rfl⟩⟩) | (go_at_call 21; exact (bytes_any a q.w).mono fun e w'' h => ⟨h.1, ⟨⟨w'', TwoOk.carry q.ok h.2⟩, rfl⟩⟩) | (go_at_call 23; exact (of_back a q.w).mono fun e w'' h => ⟨h.1, ⟨⟨w'', TwoOk.carry q.ok h.2⟩, rfl⟩⟩))))
  refine wpQuiet_nil ?_
  intro _ hw'
  obtain ⟨q, hq⟩ := hw'
  subst hq
  clear r0 r1 hne HW
  have HQ := hideit q.ok
  generalize q.w = X at *
  clear q
  go_wp2
  go_loopw [7] (fun i wr => ∃ j : Nat, (j : Int) ≤ max k 0 ∧ i = .int .i64 j ∧ HalfAt X.heap.size (pwr j) wr ∧ Below w.heap.size w wr ∧ X.heap.size < wr.heap.size) (fun i _ => (k - intOf i).toNat)
  case atStart =>
    refine ⟨0, by omega, rfl, ⟨?_, ?_, ?_, ?_⟩, HQ.out.2.2.1.alloc HQ.out.2.2.2 _, by simp⟩
    all_goals simp [go_sem, pwr, dK, lo, hi]
  case round =>
    have hXw := HQ.out.2.2.2
    obtain ⟨j, hj, rfl, hH, hB, hz⟩ := hrel
    by_cases hlt : (j : Int) < k
    · have HH := hideit hH
      have HB := hideit hB
      clear hB
      obtain ⟨c1, c2, f1, f2⟩ := hH
      go_wp2_with fail
      refine (rdouble_any (pwr j) _).mono ?_
      rintro e w' ⟨rfl, hb⟩
      have HH' := hideit (HH.out.carry hb hz)
      have HB' := hideit (HB.out.trans (hb.mono (by omega)))
      have hz' := Nat.lt_of_lt_of_le hz hb.size
      clear hb
      obtain ⟨d1, d2, g1, g2⟩ := HH'.out
      go_wp2
      go_roundw
      case rel =>
        first | refine ⟨(j + 1 : Nat), by omega, by go_num, HH'.out.set (pwr (j + 1)), (HB'.out.setCell (by simp; omega) _).setCell (by simp; omega) _, by simpa using hz'⟩ | ((repeat apply Exists.intro); refine ⟨⟨j + 1, by omega, by go_num, HH'.out.set (pwr (j + 1)), (HB'.out.setCell (by simp; omega) _).setCell (by simp; omega) _, by simpa using hz'⟩, rfl⟩)
      case measure => simp [intOf]; omega
    · have HO := hideit (show TwoOk w.heap.size X.heap.size X.heap.size w (pwr j) (pwr j) wr from ⟨hH.lies hz, hH.lies hz, hB, by omega⟩)
      clear hH hB
      by_cases hneg : k < 0
      · obtain rfl : j = 0 := by omega
        go_wp2
        have r0 : ∀ q : Kept (TwoOk w.heap.size X.heap.size X.heap.size w (pwr 0) (pwr 0)), q.w.cell? ⟨X.heap.size, 0, none⟩ = some (.int .u64 ((lo (pwr 0)).toNat : Int)) := fun q => q.ok.1.1
        have r1 : ∀ q : Kept (TwoOk w.heap.size X.heap.size X.heap.size w (pwr 0) (pwr 0)), q.w.cell? ⟨X.heap.size, 1, none⟩ = some (.int .u64 ((hi (pwr 0)).toNat : Int)) := fun q => q.ok.1.2.1
        have hne : Nonempty (Kept (TwoOk w.heap.size X.heap.size X.heap.size w (pwr 0) (pwr 0))) := ⟨⟨_, HO.out⟩⟩
        refine wp_region_kept (Ok := TwoOk w.heap.size X.heap.size X.heap.size w (pwr 0) (pwr 0)) (by kernel_rfl) (by kernel_rfl) HO.out.drew ?_
        repeat (go_big_quiet_step ((rename_i q; first | exact rfl | (go_at_call_of 25 (Value.int .i64 5); exact (power_at 5 5 rfl (by omega) (by omega) q.w).mono fun e w'' h => ⟨h.1, ⟨⟨w'', TwoOk.carry q.ok h.2⟩, rfl⟩⟩) | (go_at_call_of 25 (Value.int .i64 k); exact (power_at k 0 (by omega) (by omega) (by omega) q.w).mono fun e w'' h => ⟨h.1, ⟨⟨w'', TwoOk.carry q.ok h.2⟩, rfl⟩⟩) | (go_at_call_of 25 (Value.int .i64 0); exact (power_at 0 0 rfl (by omega) (by omega) q.w).mono fun e w'' h => ⟨h.1, ⟨⟨w'', TwoOk.carry q.ok h.2⟩, rfl⟩⟩) | (go_at_call 19; exact (times_as' (z := pwr 5) (pwr_add 0 5) q.w).mono fun e w'' h => ⟨h.1, ⟨⟨w'', TwoOk.carry q.ok h.2⟩, rfl⟩⟩))))
        refine wpQuiet_nil ?_
        intro _ hw'
        obtain ⟨q, hq⟩ := hw'
        subst hq
        go_wp2
        go_ret
        exact ⟨rfl, q.ok.2.2.1⟩
      · have hjk : (j : Int) = k := by omega
        have hw5 : IntKind.i64.wrap (k + 5) = k + 5 := by rw [IntKind.wrap_i64]; omega
        go_wp2
        have r0 : ∀ q : Kept (TwoOk w.heap.size X.heap.size X.heap.size w (pwr j) (pwr j)), q.w.cell? ⟨X.heap.size, 0, none⟩ = some (.int .u64 ((lo (pwr j)).toNat : Int)) := fun q => q.ok.1.1
        have r1 : ∀ q : Kept (TwoOk w.heap.size X.heap.size X.heap.size w (pwr j) (pwr j)), q.w.cell? ⟨X.heap.size, 1, none⟩ = some (.int .u64 ((hi (pwr j)).toNat : Int)) := fun q => q.ok.1.2.1
        have hne : Nonempty (Kept (TwoOk w.heap.size X.heap.size X.heap.size w (pwr j) (pwr j))) := ⟨⟨_, HO.out⟩⟩
        refine wp_region_kept (Ok := TwoOk w.heap.size X.heap.size X.heap.size w (pwr j) (pwr j)) (by kernel_rfl) (by kernel_rfl) HO.out.drew ?_
        repeat (go_big_quiet_step ((rename_i q; first | exact rfl | (go_at_call_of 25 (Value.int .i64 5); exact (power_at 5 5 rfl (by omega) (by omega) q.w).mono fun e w'' h => ⟨h.1, ⟨⟨w'', TwoOk.carry q.ok h.2⟩, rfl⟩⟩) | (go_at_call_of 25 (Value.int .i64 k); exact (power_at k j (by omega) (by omega) (by omega) q.w).mono fun e w'' h => ⟨h.1, ⟨⟨w'', TwoOk.carry q.ok h.2⟩, rfl⟩⟩) | (go_at_call 25; exact (power_at (k + 5) (j + 5) (by omega) (by omega) (by omega) q.w).mono fun e w'' h => ⟨h.1, ⟨⟨w'', TwoOk.carry q.ok h.2⟩, rfl⟩⟩) | (go_at_call 19; exact (times_as' (pwr_add j 5) q.w).mono fun e w'' h => ⟨h.1, ⟨⟨w'', TwoOk.carry q.ok h.2⟩, rfl⟩⟩))))
        refine wpQuiet_nil ?_
        intro _ hw'
        obtain ⟨q, hq⟩ := hw'
        subst hq
        go_wp2
        go_ret
        exact ⟨rfl, q.ok.2.2.1⟩

set_option maxRecDepth 100000 in
theorem lifted (os : Os) (started : os.Started) (H : Type) (enc : TypeId × Value → H) :
    ReturnsInHanded {} Try.checked os 8 .any (Rows.fieldPowersSpec.pre6 enc Try.prog Try.f8 Rows.fieldPowersRow.domain false) (Rows.fieldPowersSpec.post enc Try.prog Try.f8 false true false false) := by
  refine returnsInHanded_of_change (C := Try.checked) own started (by kernel_rfl) Try.func8
    (ChangeSpec.witness6 (enc := enc) (C := Try.checked) false ⟨#[], #[.int .i64 0, .agg #[.int .u64 0, .int .u64 0]], []⟩ 8 (by kernel_rfl) (by kernel_rfl) (by kernel_rfl) (by kernel_rfl)) ?_
  intro W base args ds gs before hval0 hW hcnd _
  have hval : ∀ (j : Nat) t v, Try.f8.params[j]? = some t → args[j]? = some v → Value.okWide Try.prog W .any base t v := hval0
  have hW' := hW
  obtain ⟨p, q, hA0, hV, rfl, hfz, hnd⟩ := hW
  have hA : DataW.TrodAll enc Try.prog W 0 (fun _ => true) true Try.f8.params.toList args.toList ds p := hA0
  rw [Try.params8] at hA hval
  obtain ⟨v0, vs0, d0, ds0, p0, q0, hargs, rfl, rfl, h0, r0⟩ := trodAll_cons hA
  obtain ⟨v1, vs1, d1, ds1, p1, q1, rfl, rfl, rfl, h1, r1⟩ := trodAll_cons r0
  obtain ⟨rfl, rfl, rfl⟩ := trodAll_nil r1
  obtain rfl : args = #[v0, v1] := by cases args; simp_all
  obtain ⟨rfl, rfl⟩ := trodVars_none hV
  have k0 := h0
  have lt0 : ∀ x ∈ p0, x.block < W.heap.size := by obtain ⟨m, hm⟩ := k0; exact DataW.trod_lt m _ _ _ hm
  have k1 := h1
  have lt1 : ∀ x ∈ p1, x.block < W.heap.size := by obtain ⟨m, hm⟩ := k1; exact DataW.trod_lt m _ _ _ hm
  obtain ⟨a0, rfl, rfl, rfl, w0⟩ := open_int Try.underlying3 (hval 0 3 v0 rfl rfl) h0
  obtain ⟨a1, rfl⟩ := open_half (hval 1 28 v1 rfl rfl) h1
  clear hA0 hval0
  refine (walk a0 w0 a1 W ).mono fun e W' ⟨he, bel⟩ => ?_
  subst he
  exact ⟨_, rfl, _, _, _, [], _, [], hW', trodAll_mk1 (shut_bool Try.underlying4 _), (trodAll_cons_mk (Below.trod laidOut (by kernel_rfl) (of_decide_eq_true (by kernel_rfl)) k0 bel lt0) (trodAll_cons_mk (Below.trod laidOut (by kernel_rfl) (of_decide_eq_true (by kernel_rfl)) k1 bel lt1) trodAll_mk0)), rfl, bel.frame _, fun h => by cases h⟩

theorem over : Rows.fieldPowersRow.holds Try.pinned (OpenSpec.ofChange Rows.fieldPowersSpec) :=
  OpenClaim.holds_of_wide 8 Try.f8 rfl rfl rfl rfl rfl rfl rfl ⟨rfl, rfl, rfl, rfl, rfl⟩ rfl rfl rfl rfl rfl (by kernel_rfl) Try.func8 (by kernel_rfl)
    (of_decide_eq_true (by kernel_rfl)) (by unfold Func.isWrapper; first | (rw [if_pos (by decide +kernel)]; kernel_rfl) | (rw [if_neg (by decide +kernel)]; exact ⟨rfl, rfl⟩))
    (fun os started H enc _ => lifted os started H enc)
end Go.Proofs.Ytofecnieicnfgaa.fieldPowers
namespace Go.Proofs.Ytofecnieicnfgaa
theorem fieldPowers_holds : Rows.FieldPowersSaid := fieldPowers.over
end Go.Proofs.Ytofecnieicnfgaa
