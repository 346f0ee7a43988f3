/-
  FieldBoxes answers true: the program's box takes each of the 256 values once, and Unbox leads back.
-/
import Derived.Test.YtofecnieicnfgaaRows
import Derived.ProofKit
import Derived.OpenShut
import Derived.ShutString
import Derived.ChangeOld
import Derived.Below
import Derived.Test.YtofecnieicnfgaaInv
import Derived.Test.YtofecnieicnfgaaTimes
namespace Go.Proofs.Ytofecnieicnfgaa.fieldBoxes
open Go.ChangeShapes Go.WideShapes Go.ChangeAt Go.RowKit
set_option linter.unusedVariables false

theorem own : ownKnob Try.prog.godebug = none := by kernel_rfl
theorem laidOut : laidOutB Try.prog = true := by kernel_rfl

/-- what the box puts in a number's place -/
def boxN (k : Nat) : Nat := (boxB (BitVec.ofNat 8 k)).toNat
theorem boxN_lt (k : Nat) : boxN k < 256 := (boxB (BitVec.ofNat 8 k)).isLt
theorem ofNat8 (k : Nat) (hk : k < 256) : ((BitVec.ofNat 8 k).toNat : Int) = (k : Int) := by rw [BitVec.toNat_ofNat, Nat.mod_eq_of_lt hk]
theorem boxN_inj {i k : Nat} (hi : i < 256) (hk : k < 256) (h : boxN i = boxN k) : i = k := by
  have h1 := box_inj (BitVec.eq_of_toNat_eq h)
  have h2 := congrArg BitVec.toNat h1
  rwa [BitVec.toNat_ofNat, BitVec.toNat_ofNat, Nat.mod_eq_of_lt hi, Nat.mod_eq_of_lt hk] at h2
theorem box_nat (k : Nat) (hk : k < 256) (w : World) : Calls Try.prog 14 #[.int .u8 (k : Int)] w fun e w' => e = .returned (.int .u8 (boxN k : Int)) ∧ w' = w := by
  have h := box_any (BitVec.ofNat 8 k) w
  rw [ofNat8 k hk] at h
  exact h
theorem unbox_nat (k : Nat) (hk : k < 256) (w : World) : Calls Try.prog 16 #[.int .u8 (boxN k : Int)] w fun e w' => e = .returned (.int .u8 (k : Int)) ∧ w' = w := by
  have h := unbox_any (boxB (BitVec.ofNat 8 k)) w
  rw [unbox_box, ofNat8 k hk] at h
  exact h
/-- which values the first k boxes took -/
def seenK : Nat → Nat → Bool
  | 0, _ => false
  | k + 1, j => boxN k == j || seenK k j
theorem seenK_no {k : Nat} (hk : k < 256) : ∀ n, n ≤ k → seenK n (boxN k) = false
  | 0, _ => rfl
  | n + 1, h => by
    simp only [seenK, Bool.or_eq_false_iff, beq_eq_false_iff_ne]
    exact ⟨fun e => absurd (boxN_inj (by omega) hk e) (by omega), seenK_no hk n (by omega)⟩
def SeenAt (B : Nat) (w : World) (k : Nat) (wr : World) : Prop :=
  (∀ j, j < 256 → wr.cell? ⟨B, j, none⟩ = some (.bool (seenK k j))) ∧ (∀ j, wr.frozen? ⟨B, j, none⟩ = false) ∧ Below B w wr ∧ B < wr.heap.size
theorem SeenAt.step {B : Nat} {w wr : World} {k : Nat} (h : SeenAt B w k wr) : SeenAt B w (k + 1) (wr.setCell ⟨B, boxN k, none⟩ (.bool true)) := by
  obtain ⟨h1, h2, h3, h4⟩ := h
  refine ⟨fun j hj => ?_, fun j => by simp [h2], h3.setCell (Nat.le_refl _) _, by simpa using h4⟩
  by_cases e : boxN k = j
  · subst e
    rw [World.cell?_setCell_same _ _ _ (h1 _ hj)]
    simp [seenK]
  · rw [World.cell?_setCell_other _ _ _ _ (by intro h; injection h with _ h2 _; exact e h2), h1 j hj]
    have : (boxN k == j) = false := by simp [e]
    simp [seenK, this]
def Z256 : Array Value := Array.replicate 256 (.bool false)
theorem zero37 (w : World) : Sem.run Try.prog (zeroValue 37) w = .ok (.agg Z256) w := by kernel_rfl
theorem walk (w : World) :
    Calls Try.prog 7 #[] w fun e w' => e = .returned (.bool true) ∧ Below w.heap.size w w' := by
  have hz := zero37
  go_enter Try.func7, Try.ntmps7
  go_wp2
  go_loopw [2] (fun i wr => ∃ k : Nat, k ≤ 256 ∧ i = .int .i64 k ∧ SeenAt w.heap.size w k wr) (fun i _ => 256 - (intOf i).toNat)
  case atStart =>
    refine ⟨0, by omega, rfl, ?_, ?_, ?_, ?_⟩
    · intro j hj
      rw [World.cell?_alloc_new]
      simp [Z256, hj, seenK]
    · intro j
      simp [go_sem]
    · exact (Below.refl _ _).alloc (Nat.le_refl _) _
    · simp
  case round =>
    obtain ⟨k, hk, rfl, hT⟩ := hrel
    by_cases hlt : k < 256
    · have HT := hideit hT
      have c1 := hT.1 (boxN k) (boxN_lt k)
      rw [seenK_no hlt k (Nat.le_refl _)] at c1
      have f1 := hT.2.1 (boxN k)
      clear hT
      have hlt' : (k : Int) < 256 := by omega
      have hbx := boxN_lt k
      have hbx' : (boxN k : Int) < 256 := by omega
      have hbx0 : (0 : Int) ≤ (boxN k : Int) := by omega
      go_wp2_with (first | (go_at_call 14; refine (box_nat k hlt _).mono ?_; rintro e w' ⟨rfl, rfl⟩) | (go_at_call 16; refine (unbox_nat k hlt _).mono ?_; rintro e w' ⟨rfl, rfl⟩))
      go_roundw
      case rel => first | exact ⟨(k + 1 : Nat), by omega, by go_num, HT.out.step⟩ | ((repeat apply Exists.intro); exact ⟨⟨k + 1, by omega, by go_num, HT.out.step⟩, rfl⟩)
      case measure => simp [intOf]; omega
    · obtain rfl : k = 256 := by omega
      obtain ⟨_, _, hB, hz⟩ := hT
      go_wp2_with (go_at_call 9; refine (lives_any _).mono ?_; rintro e w' ⟨rfl, hb⟩)
      go_ret
      exact ⟨rfl, hB.trans (hb.mono (Nat.le_of_lt hz))⟩

set_option maxRecDepth 100000 in
theorem lifted (os : Os) (started : os.Started) (H : Type) (enc : TypeId × Value → H) :
    ReturnsInHanded {} Try.checked os 7 .any (Rows.fieldBoxesSpec.pre6 enc Try.prog Try.f7 Rows.fieldBoxesRow.domain false) (Rows.fieldBoxesSpec.post enc Try.prog Try.f7 false true false false) := by
  refine returnsInHanded_of_change (C := Try.checked) own started (by kernel_rfl) Try.func7
    (ChangeSpec.witness6 (enc := enc) (C := Try.checked) false ⟨#[], #[], []⟩ 8 (by kernel_rfl) (by kernel_rfl) (by kernel_rfl) (by kernel_rfl)) ?_
  intro W base args ds gs before hval0 hW hcnd _
  have hval : ∀ (j : Nat) t v, Try.f7.params[j]? = some t → args[j]? = some v → Value.okWide Try.prog W .any base t v := hval0
  have hW' := hW
  obtain ⟨p, q, hA0, hV, rfl, hfz, hnd⟩ := hW
  have hA : DataW.TrodAll enc Try.prog W 0 (fun _ => true) true Try.f7.params.toList args.toList ds p := hA0
  rw [Try.params7] at hA hval
  obtain ⟨rfl, rfl, rfl⟩ := trodAll_none hA
  obtain ⟨rfl, rfl⟩ := trodVars_none hV
  clear hA0 hval0
  refine (walk  W ).mono fun e W' ⟨he, bel⟩ => ?_
  subst he
  exact ⟨_, rfl, _, _, _, [], _, [], hW', trodAll_mk1 (shut_bool Try.underlying4 _), trodAll_mk0, rfl, bel.frame _, fun h => by cases h⟩

theorem over : Rows.fieldBoxesRow.holds Try.pinned (OpenSpec.ofChange Rows.fieldBoxesSpec) :=
  OpenClaim.holds_of_wide 7 Try.f7 rfl rfl rfl rfl rfl rfl rfl ⟨rfl, rfl, rfl, rfl, rfl⟩ rfl rfl rfl rfl rfl (by kernel_rfl) Try.func7 (by kernel_rfl)
    (of_decide_eq_true (by kernel_rfl)) (by unfold Func.isWrapper; first | (rw [if_pos (by decide +kernel)]; kernel_rfl) | (rw [if_neg (by decide +kernel)]; exact ⟨rfl, rfl⟩))
    (fun os started H enc _ => lifted os started H enc)
end Go.Proofs.Ytofecnieicnfgaa.fieldBoxes
namespace Go.Proofs.Ytofecnieicnfgaa
theorem fieldBoxes_holds : Rows.FieldBoxesSaid := fieldBoxes.over
end Go.Proofs.Ytofecnieicnfgaa
