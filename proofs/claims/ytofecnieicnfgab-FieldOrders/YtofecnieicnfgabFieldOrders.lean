/-
  FieldOrders answers true for every byte and every tweak, with no condition: a byte that is not 0, to the power 255, is 1; eight doublings are the product with x to the power 8; the product with 0 is 0.
-/
import Derived.Test.YtofecnieicnfgabRows
import Derived.ProofKit
import Derived.OpenShut
import Derived.ShutString
import Derived.ChangeOld
import Derived.Below
import Derived.Test.YtofecnieicnfgabOpens
import Derived.Test.YtofecnieicnfgabInv
import Derived.Test.YtofecnieicnfgabKept
import Derived.Deep.RegionWith
import Derived.Test.YtofecnieicnfgabPower
namespace Go.Proofs.Ytofecnieicnfgab.fieldOrders
open Go.ChangeShapes Go.WideShapes Go.ChangeAt Go.RowKit
set_option linter.unusedVariables false

theorem own : ownKnob Try.prog.godebug = none := by kernel_rfl
theorem laidOut : laidOutB Try.prog = true := by kernel_rfl

/-- a power of a byte -/
def pwB (a : BitVec 8) : Nat → BitVec 8
  | 0 => 1#8
  | k + 1 => mB (pwB a k) a
theorem pwB_add (a : BitVec 8) (m n : Nat) : mB (pwB a m) (pwB a n) = pwB a (m + n) := by
  induction n with
  | zero => exact mB_one _
  | succ n ih => rw [← Nat.add_assoc]; simp only [pwB]; rw [← mB_assoc, ih]
theorem sqK_pw (a : BitVec 8) (k : Nat) : sqK a k = pwB a (2 ^ k) := by
  induction k with
  | zero => show a = mB 1#8 a; rw [mB_comm, mB_one]
  | succ k ih => simp only [sqK]; rw [ih, pwB_add, Nat.pow_succ, Nat.mul_two]
theorem ivK_pw (a : BitVec 8) (k : Nat) : ivK a k = pwB a (2 ^ (k + 1) - 2) := by
  induction k with
  | zero => rfl
  | succ k ih =>
    simp only [ivK]
    have h := Nat.two_pow_pos k
    rw [ih, sqK_pw, pwB_add]
    congr 1
    simp only [Nat.pow_succ] at *
    omega
theorem pw255 (a : BitVec 8) : ∃ o, pwB a 255 = o ∧ ((((a.toNat : Int) == 0) = true ∧ ((o.toNat : Int) == 0) = true) ∨ (((a.toNat : Int) == 0) = false ∧ ((o.toNat : Int) == 1) = true)) := by
  have h := inv_ok a
  have e : pwB a 255 = mB a (iB a) := by
    rw [mB_comm, show iB a = pwB a 254 from ivK_pw a 7]; rfl
  rw [← e] at h
  by_cases h0 : a = 0#8
  · rw [if_pos h0] at h; exact ⟨0#8, h, .inl ⟨by subst h0; rfl, rfl⟩⟩
  · rw [if_neg h0] at h
    refine ⟨1#8, h, .inr ⟨?_, rfl⟩⟩
    have : a.toNat ≠ 0 := fun e => h0 (BitVec.eq_of_toNat_eq (by simpa using e))
    simp; omega
theorem times_p8 (t : BitVec 128) (w : World) :
    Calls Try.prog 12 #[.agg #[.int .u64 ((lo t).toNat : Int), .int .u64 ((hi t).toNat : Int)], .agg #[.int .u64 ((lo (pwr 8)).toNat : Int), .int .u64 ((hi (pwr 8)).toNat : Int)]] w fun e w' => e = .returned (.agg #[.int .u64 ((lo (dK 135#128 8 t)).toNat : Int), .int .u64 ((hi (dK 135#128 8 t)).toNat : Int)]) ∧ Below w.heap.size w w' :=
  times_as' (by unfold tT pwr; rw [tK_comm, tK_dK, tK_one]) w
theorem times_0 (t : BitVec 128) (w : World) :
    Calls Try.prog 12 #[.agg #[.int .u64 ((lo t).toNat : Int), .int .u64 ((hi t).toNat : Int)], .agg #[.int .u64 0, .int .u64 0]] w fun e w' => e = .returned (.agg #[.int .u64 0, .int .u64 0]) ∧ Below w.heap.size w w' :=
  times_as' (y := 0#128) (z := 0#128) (tK_zero_right _ _ _) w
theorem power_8 (w : World) : Calls Try.prog 13 #[.int .i64 8] w fun e w' => e = .returned (.agg #[.int .u64 ((lo (pwr 8)).toNat : Int), .int .u64 ((hi (pwr 8)).toNat : Int)]) ∧ Below w.heap.size w w' := power_nat 8 (by decide) w

set_option maxRecDepth 100000 in
set_option maxHeartbeats 1000000 in
theorem walk (a : BitVec 8) (t : BitVec 128) (w : World) :
    Calls Try.prog 3 #[.int .u8 (a.toNat : Int), .agg #[.int .u64 ((lo t).toNat : Int), .int .u64 ((hi t).toNat : Int)]] w fun e w' => e = .returned (.bool true) ∧ Below w.heap.size w w' := by
  obtain ⟨o, ho, hcase⟩ := pw255 a
  have HO := hideit ho
  clear ho
  go_enter Try.func3, Try.ntmps3
  go_wp2
  go_loop [5, 6] (fun p i => ∃ k : Nat, k ≤ 255 ∧ i = .int .i64 k ∧ p = .int .u8 ((pwB a k).toNat : Int)) (fun _ i => 255 - (intOf i).toNat)
  case atStart => exact ⟨0, by omega, rfl, rfl⟩
  case round =>
    obtain ⟨k, hk, rfl, rfl⟩ := hrel
    by_cases hlt : k < 255
    · go_wp2_with (go_at_call 9; refine (mul_any _ _ _).mono ?_; rintro e w' ⟨rfl, rfl⟩)
      go_round
      case rel => exact ⟨k + 1, by omega, by go_num, rfl⟩
      case measure => simp [intOf]; omega
    · have hp : pwB a k = o := by
        have hk255 : k = 255 := by omega
        rw [hk255]; exact HO.out
      clear HO
      generalize pwB a k = p at hp ⊢
      subst hp
      go_wp2
      go_loopw [8] (fun i wr => ∃ j : Nat, j ≤ 8 ∧ i = .int .i64 j ∧ Lies w.heap.size t wr ∧ HalfAt (w.heap.size + 1) (dK 135#128 j t) wr ∧ Below w.heap.size w wr ∧ w.heap.size + 1 < wr.heap.size) (fun i _ => 8 - (intOf i).toNat)
      case atStart =>
        refine ⟨0, by omega, rfl, ⟨?_, ?_, ?_⟩, ⟨?_, ?_, ?_, ?_⟩, ((Below.refl _ _).alloc (Nat.le_refl _) _).alloc (by simp) _, by simp⟩
        all_goals simp [go_sem, dK]
      case round =>
        obtain ⟨j, hj, rfl, hL, hH, hB, hz⟩ := hrel
        by_cases hlt : j < 8
        · have HL := hideit hL
          have HH := hideit hH
          have HB := hideit hB
          clear hL hB
          obtain ⟨c1, c2, f1, f2⟩ := hH
          go_wp2_with fail
          refine (double_any (dK 135#128 j t) _).mono ?_
          rintro e w' ⟨rfl, hb⟩
          have HL' := hideit (HL.out.carry hb)
          have HH' := hideit (HH.out.carry hb hz)
          have HB' := hideit (HB.out.trans (hb.mono (by omega)))
          have hz' := Nat.lt_of_lt_of_le hz hb.size
          clear hb
          obtain ⟨d1, d2, g1, g2⟩ := HH'.out
          go_wp2
          go_roundw
          case rel =>
            have hL2 : Lies w.heap.size t ((w'.setCell ⟨w.heap.size + 1, 0, none⟩ (.int .u64 ((lo (dK 135#128 (j + 1) t)).toNat : Int))).setCell ⟨w.heap.size + 1, 1, none⟩ (.int .u64 ((hi (dK 135#128 (j + 1) t)).toNat : Int))) := by
              obtain ⟨l1, l2, l3⟩ := HL'.out
              refine ⟨?_, ?_, by simpa using l3⟩
              all_goals simp [go_sem, l1, l2]
            first | refine ⟨(j + 1 : Nat), by omega, by go_num, hL2, HH'.out.set (dK 135#128 (j + 1) t), (HB'.out.setCell (by simp) _).setCell (by simp) _, by simpa using hz'⟩ | ((repeat apply Exists.intro); refine ⟨⟨j + 1, by omega, by go_num, hL2, HH'.out.set (dK 135#128 (j + 1) t), (HB'.out.setCell (by simp) _).setCell (by simp) _, by simpa using hz'⟩, rfl⟩)
          case measure => simp [intOf]; omega
        · obtain rfl : j = 8 := by omega
          have HT := hideit (show TwoOk w.heap.size w.heap.size (w.heap.size + 1) w t (dK 135#128 8 t) wr from ⟨hL, hH.lies hz, hB, by omega⟩)
          clear hL hH hB
          rcases hcase with ⟨h0, h1⟩ | ⟨h0, h1⟩
          all_goals
            go_wp2
            have r0 : ∀ q : Kept (TwoOk w.heap.size w.heap.size (w.heap.size + 1) w t (dK 135#128 8 t)), q.w.cell? ⟨w.heap.size, 0, none⟩ = some (.int .u64 ((lo t).toNat : Int)) := fun q => q.ok.1.1
            have r1 : ∀ q : Kept (TwoOk w.heap.size w.heap.size (w.heap.size + 1) w t (dK 135#128 8 t)), q.w.cell? ⟨w.heap.size, 1, none⟩ = some (.int .u64 ((hi t).toNat : Int)) := fun q => q.ok.1.2.1
            have r2 : ∀ q : Kept (TwoOk w.heap.size w.heap.size (w.heap.size + 1) w t (dK 135#128 8 t)), q.w.cell? ⟨w.heap.size + 1, 0, none⟩ = some (.int .u64 ((lo (dK 135#128 8 t)).toNat : Int)) := fun q => q.ok.2.1.1
            have r3 : ∀ q : Kept (TwoOk w.heap.size w.heap.size (w.heap.size + 1) w t (dK 135#128 8 t)), q.w.cell? ⟨w.heap.size + 1, 1, none⟩ = some (.int .u64 ((hi (dK 135#128 8 t)).toNat : Int)) := fun q => q.ok.2.1.2.1
            have hne : Nonempty (Kept (TwoOk w.heap.size w.heap.size (w.heap.size + 1) w t (dK 135#128 8 t))) := ⟨⟨_, HT.out⟩⟩
            refine wp_region_kept (Ok := TwoOk w.heap.size w.heap.size (w.heap.size + 1) w t (dK 135#128 8 t)) (by kernel_rfl) (by kernel_rfl) HT.out.drew ?_
            repeat (go_big_quiet_step ((rename_i q; first | exact rfl | (go_at_call 11; exact (lives_any q.w).mono fun e w'' h => ⟨h.1, ⟨⟨w'', TwoOk.carry q.ok h.2⟩, rfl⟩⟩) | (go_at_call 13; exact (power_8 q.w).mono fun e w'' h => ⟨h.1, ⟨⟨w'', TwoOk.carry q.ok h.2⟩, rfl⟩⟩) | (go_at_call_of 12 (Value.agg #[Value.int .u64 ((lo (pwr 8)).toNat : Int), Value.int .u64 ((hi (pwr 8)).toNat : Int)]); exact (times_p8 t q.w).mono fun e w'' h => ⟨h.1, ⟨⟨w'', TwoOk.carry q.ok h.2⟩, rfl⟩⟩) | (go_at_call 12; exact (times_0 t q.w).mono fun e w'' h => ⟨h.1, ⟨⟨w'', TwoOk.carry q.ok h.2⟩, rfl⟩⟩))))
            refine wpQuiet_nil ?_
            intro _ hw'
            obtain ⟨q, hq⟩ := hw'
            subst hq
            go_wp2
            go_ret
            exact ⟨rfl, q.ok.2.2.1⟩

set_option maxRecDepth 100000 in
theorem lifted (os : Os) (started : os.Started) (H : Type) (enc : TypeId × Value → H) :
    ReturnsInHanded {} Try.checked os 3 .any (Rows.fieldOrdersSpec.pre6 enc Try.prog Try.f3 Rows.fieldOrdersRow.domain false) (Rows.fieldOrdersSpec.post enc Try.prog Try.f3 false true false false) := by
  refine returnsInHanded_of_change (C := Try.checked) own started (by kernel_rfl) Try.func3
    (ChangeSpec.witness6 (enc := enc) (C := Try.checked) false ⟨#[], #[.int .u8 0, .agg #[.int .u64 0, .int .u64 0]], []⟩ 8 (by kernel_rfl) (by kernel_rfl) (by kernel_rfl) (by kernel_rfl)) ?_
  intro W base args ds gs before hval0 hW hcnd _
  have hval : ∀ (j : Nat) t v, Try.f3.params[j]? = some t → args[j]? = some v → Value.okWide Try.prog W .any base t v := hval0
  have hW' := hW
  obtain ⟨p, q, hA0, hV, rfl, hfz, hnd⟩ := hW
  have hA : DataW.TrodAll enc Try.prog W 0 (fun _ => true) true Try.f3.params.toList args.toList ds p := hA0
  rw [Try.params3] at hA hval
  obtain ⟨v0, vs0, d0, ds0, p0, q0, hargs, rfl, rfl, h0, r0⟩ := trodAll_cons hA
  obtain ⟨v1, vs1, d1, ds1, p1, q1, rfl, rfl, rfl, h1, r1⟩ := trodAll_cons r0
  obtain ⟨rfl, rfl, rfl⟩ := trodAll_nil r1
  obtain rfl : args = #[v0, v1] := by cases args; simp_all
  obtain ⟨rfl, rfl⟩ := trodVars_none hV
  have k0 := h0
  have lt0 : ∀ x ∈ p0, x.block < W.heap.size := by obtain ⟨m, hm⟩ := k0; exact DataW.trod_lt m _ _ _ hm
  have k1 := h1
  have lt1 : ∀ x ∈ p1, x.block < W.heap.size := by obtain ⟨m, hm⟩ := k1; exact DataW.trod_lt m _ _ _ hm
  obtain ⟨n0, rfl, rfl, rfl, w0⟩ := open_int Try.underlying5 (hval 0 5 v0 rfl rfl) h0
  obtain ⟨a0, rfl⟩ := of_wf8 w0
  obtain ⟨a1, rfl⟩ := open_half (hval 1 24 v1 rfl rfl) h1
  clear hA0 hval0
  refine (walk a0 a1 W ).mono fun e W' ⟨he, bel⟩ => ?_
  subst he
  exact ⟨_, rfl, _, _, _, [], _, [], hW', trodAll_mk1 (shut_bool Try.underlying4 _), (trodAll_cons_mk (Below.trod laidOut (by kernel_rfl) (of_decide_eq_true (by kernel_rfl)) k0 bel lt0) (trodAll_cons_mk (Below.trod laidOut (by kernel_rfl) (of_decide_eq_true (by kernel_rfl)) k1 bel lt1) trodAll_mk0)), rfl, bel.frame _, fun h => by cases h⟩

theorem over : Rows.fieldOrdersRow.holds Try.pinned (OpenSpec.ofChange Rows.fieldOrdersSpec) :=
  OpenClaim.holds_of_wide 3 Try.f3 rfl rfl rfl rfl rfl rfl rfl ⟨rfl, rfl, rfl, rfl, rfl⟩ rfl rfl rfl rfl rfl (by kernel_rfl) Try.func3 (by kernel_rfl)
    (of_decide_eq_true (by kernel_rfl)) (by unfold Func.isWrapper; first | (rw [if_pos (by decide +kernel)]; kernel_rfl) | (rw [if_neg (by decide +kernel)]; exact ⟨rfl, rfl⟩))
    (fun os started H enc _ => lifted os started H enc)
end Go.Proofs.Ytofecnieicnfgab.fieldOrders
namespace Go.Proofs.Ytofecnieicnfgab
theorem fieldOrders_holds : Rows.FieldOrdersSaid := fieldOrders.over
end Go.Proofs.Ytofecnieicnfgab
