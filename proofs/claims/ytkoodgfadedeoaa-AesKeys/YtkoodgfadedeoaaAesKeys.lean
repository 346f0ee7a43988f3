/-
  AesKeys answers true for every key and every number, with no condition: the round keys of the program are those of the document, and a key that may not be has none.
-/
import Derived.Test.YtkoodgfadedeoaaRows
import Derived.ProofKit
import Derived.OpenShut
import Derived.ShutString
import Derived.ChangeOld
import Derived.Below
import Derived.SizedLaws
import Derived.Test.YtkoodgfadedeoaaAKeysB
import Derived.Test.YtkoodgfadedeoaaABv
namespace Go.Proofs.Ytkoodgfadedeoaa.aesKeys
open Go.ChangeShapes Go.WideShapes Go.ChangeAt Go.RowKit
set_option linter.unusedVariables false

theorem own : ownKnob Try.prog.godebug = none := by kernel_rfl
theorem laidOut : laidOutB Try.prog = true := by kernel_rfl
open Go.BigFrame
theorem sched_words (k : Nat) (key : Nat → BitVec 8) (j : Nat) (hj : j < 16 * (k + 7)) : schedK k key j = wordsF k bxT twT key j := by
  unfold schedK keyP
  rw [if_pos hj]
theorem walk (v : Value) (n : Int) (hn : (Lit.int .i64 n).wf = true) (w : World) (hb : BArg v w) :
    Calls Try.prog 4 #[v, .int .i64 n] w fun e w' => e = .returned (.bool true) ∧ Below w.heap.size w w' := by
  rcases hb with rfl | ⟨a, l, cap, b, rfl, hl, hL, hm⟩
  · exact keys_bad none 0 0 (by omega) (by omega) n w
  · by_cases h1 : l = 16
    · subst h1
      have hk : KeyAt a 16 b w := ⟨hL.1, hL.2⟩
      exact keys_good 16 10 cap (by omega) (by omega) (schedK 4 b) (wordsF 4 bxT twT b) (fun j hj => sched_words 4 b j hj) a n w (new4_any a cap b w hk hl) (fun X hX => rnew4_any a cap b X (hk.carry hX))
    · by_cases h2 : l = 32
      · subst h2
        have hk : KeyAt a 32 b w := ⟨hL.1, hL.2⟩
        exact keys_good 32 14 cap (by omega) (by omega) (schedK 8 b) (wordsF 8 bxT twT b) (fun j hj => sched_words 8 b j hj) a n w (new8_any a cap b w hk hl) (fun X hX => rnew8_any a cap b X (hk.carry hX))
      · exact keys_bad (some a) l cap h1 h2 n w

set_option maxRecDepth 100000 in
theorem lifted (os : Os) (started : os.Started) (H : Type) (enc : TypeId × Value → H) :
    ReturnsInHanded {} Try.checked os 4 .any (Rows.aesKeysSpec.pre6 enc Try.prog Try.f4 Rows.aesKeysRow.domain false) (Rows.aesKeysSpec.post enc Try.prog Try.f4 false true false false) := by
  refine returnsInHanded_of_change_sized (C := Try.checked) own started (by kernel_rfl) Try.func4
    (ChangeSpec.witness6 (enc := enc) (C := Try.checked) false ⟨#[], #[.slice none 0 0, .int .i64 0], []⟩ 8 (by kernel_rfl) (by kernel_rfl) (by kernel_rfl) (by kernel_rfl)) ?_
  intro W base args ds gs before hval0 hW hcnd hsz0 _
  have hsz := hsz0
  have hval : ∀ (j : Nat) t v, Try.f4.params[j]? = some t → args[j]? = some v → Value.okWide Try.prog W .any base t v := hval0
  have hW' := hW
  obtain ⟨p, q, hA0, hV, rfl, hfz, hnd⟩ := hW
  have hA : DataW.TrodAll enc Try.prog W 0 (fun _ => true) true Try.f4.params.toList args.toList ds p := hA0
  rw [Try.params4] at hA hval hsz
  obtain ⟨v0, vs0, d0, ds0, p0, q0, hargs, rfl, rfl, h0, r0⟩ := trodAll_cons hA
  obtain ⟨v1, vs1, d1, ds1, p1, q1, rfl, rfl, rfl, h1, r1⟩ := trodAll_cons r0
  obtain ⟨rfl, rfl, rfl⟩ := trodAll_nil r1
  obtain rfl : args = #[v0, v1] := by cases args; simp_all
  obtain ⟨rfl, rfl⟩ := trodVars_none hV
  have k0 := h0
  have lt0 : ∀ x ∈ p0, x.block < W.heap.size := by obtain ⟨m, hm⟩ := k0; exact DataW.trod_lt m _ _ _ hm
  have k1 := h1
  have lt1 : ∀ x ∈ p1, x.block < W.heap.size := by obtain ⟨m, hm⟩ := k1; exact DataW.trod_lt m _ _ _ hm
  have B0 := barg (hval 0 22 v0 rfl rfl) h0 hsz 0 rfl rfl
  obtain ⟨a1, rfl, rfl, rfl, w1⟩ := open_int Try.underlying3 (hval 1 3 v1 rfl rfl) h1
  clear hA0 hval0
  refine (walk v0 a1 w1 W  B0).mono fun e W' ⟨he, bel⟩ => ?_
  subst he
  exact ⟨_, rfl, _, _, _, [], _, [], hW', trodAll_mk1 (shut_bool Try.underlying4 _), (trodAll_cons_mk (Below.trod laidOut (by kernel_rfl) (of_decide_eq_true (by kernel_rfl)) k0 bel lt0) (trodAll_cons_mk (Below.trod laidOut (by kernel_rfl) (of_decide_eq_true (by kernel_rfl)) k1 bel lt1) trodAll_mk0)), rfl, bel.frame _, fun h => by cases h⟩

theorem over : Rows.aesKeysRow.holds Try.pinned (OpenSpec.ofChange Rows.aesKeysSpec) :=
  OpenClaim.holds_of_wide 4 Try.f4 rfl rfl rfl rfl rfl rfl rfl ⟨rfl, rfl, rfl, rfl, rfl⟩ rfl rfl rfl rfl rfl (by kernel_rfl) Try.func4 (by kernel_rfl)
    (of_decide_eq_true (by kernel_rfl)) (by unfold Func.isWrapper; first | (rw [if_pos (by decide +kernel)]; kernel_rfl) | (rw [if_neg (by decide +kernel)]; exact ⟨rfl, rfl⟩))
    (fun os started H enc _ => lifted os started H enc)
end Go.Proofs.Ytkoodgfadedeoaa.aesKeys
namespace Go.Proofs.Ytkoodgfadedeoaa
theorem aesKeys_holds : Rows.AesKeysSaid := aesKeys.over
end Go.Proofs.Ytkoodgfadedeoaa
