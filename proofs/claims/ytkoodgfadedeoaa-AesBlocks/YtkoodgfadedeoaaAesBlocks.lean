/-
  AesBlocks answers true for every key and every block, with no condition: what the program enciphers and deciphers is what the document does, and a key that may not be is refused by both.
-/
import Derived.Test.YtkoodgfadedeoaaRows
import Derived.ProofKit
import Derived.OpenShut
import Derived.ShutString
import Derived.ChangeOld
import Derived.Below
import Derived.SizedLaws
import Derived.Test.YtkoodgfadedeoaaABlocksB
namespace Go.Proofs.Ytkoodgfadedeoaa.aesBlocks
open Go.ChangeShapes Go.WideShapes Go.ChangeAt Go.RowKit
set_option linter.unusedVariables false

theorem own : ownKnob Try.prog.godebug = none := by kernel_rfl
theorem laidOut : laidOutB Try.prog = true := by kernel_rfl
open Go.BigFrame
theorem sched_words (k : Nat) (key : Nat → BitVec 8) (j : Nat) (hj : j < 16 * (k + 7)) : schedK k key j = wordsF k bxT twT key j := by
  unfold schedK keyP
  rw [if_pos hj]
theorem keysTo {c kb cap N : Nat} {K K' bx ub : Nat → BitVec 8} {X : World} (h : RCip c kb cap N K bx ub X) (e : ∀ j, j < 16 * N → K' j = K j) : RCip c kb cap N K' bx ub X :=
  ⟨h.head, h.box, h.unbox, fun j hj => by rw [e j hj]; exact h.keys j hj, h.inC, h.inK⟩
theorem walk (v : Value) (f : Nat → BitVec 8) (w : World) (hb : BArg v w) :
    Calls Try.prog 3 #[v, .agg (row 16 (yv f)).toArray] w fun e w' => e = .returned (.bool true) ∧ Below w.heap.size w w' := by
  obtain ⟨l, b, hB, hm⟩ := hb.bv
  by_cases h0 : l = 0
  · exact blocks_zero l h0 v b f w hB
  by_cases h1 : l = 16
  · subst h1
    refine blocks_good 16 10 (by omega) (by omega) (by omega) (schedK 4 b) v b f w hB (fun v X h => ?_) (fun v X h => ?_)
    · rcases h with ⟨_, h⟩ | ⟨a, cap, rfl, h2, h3⟩
      · omega
      · exact new4_any a cap b X ⟨h3.1, h3.2⟩ h2
    · rcases h with ⟨_, h⟩ | ⟨a, cap, rfl, h2, h3⟩
      · omega
      · exact (rnew4_any a cap b X ⟨h3.1, h3.2⟩).mono fun e w' ⟨c, kb, cp, h4, h5, h6⟩ => ⟨c, kb, cp, h4, keysTo h5 fun j hj => sched_words 4 b j hj, h6⟩
  by_cases h2 : l = 32
  · subst h2
    refine blocks_good 32 14 (by omega) (by omega) (by omega) (schedK 8 b) v b f w hB (fun v X h => ?_) (fun v X h => ?_)
    · rcases h with ⟨_, h⟩ | ⟨a, cap, rfl, h2, h3⟩
      · omega
      · exact new8_any a cap b X ⟨h3.1, h3.2⟩ h2
    · rcases h with ⟨_, h⟩ | ⟨a, cap, rfl, h2, h3⟩
      · omega
      · exact (rnew8_any a cap b X ⟨h3.1, h3.2⟩).mono fun e w' ⟨c, kb, cp, h4, h5, h6⟩ => ⟨c, kb, cp, h4, keysTo h5 fun j hj => sched_words 8 b j hj, h6⟩
  exact blocks_bad l (by omega) h1 h2 v b f w hB

set_option maxRecDepth 100000 in
theorem lifted (os : Os) (started : os.Started) (H : Type) (enc : TypeId × Value → H) :
    ReturnsInHanded {} Try.checked os 3 .any (Rows.aesBlocksSpec.pre6 enc Try.prog Try.f3 Rows.aesBlocksRow.domain false) (Rows.aesBlocksSpec.post enc Try.prog Try.f3 false true false false) := by
  refine returnsInHanded_of_change_sized (C := Try.checked) own started (by kernel_rfl) Try.func3
    (ChangeSpec.witness6 (enc := enc) (C := Try.checked) false ⟨#[], #[.slice none 0 0, .agg #[.int .u8 0, .int .u8 0, .int .u8 0, .int .u8 0, .int .u8 0, .int .u8 0, .int .u8 0, .int .u8 0, .int .u8 0, .int .u8 0, .int .u8 0, .int .u8 0, .int .u8 0, .int .u8 0, .int .u8 0, .int .u8 0]], []⟩ 8 (by kernel_rfl) (by kernel_rfl) (by kernel_rfl) (by kernel_rfl)) ?_
  intro W base args ds gs before hval0 hW hcnd hsz0 _
  have hsz := hsz0
  have hval : ∀ (j : Nat) t v, Try.f3.params[j]? = some t → args[j]? = some v → Value.okWide Try.prog W .any base t v := hval0
  have hW' := hW
  obtain ⟨p, q, hA0, hV, rfl, hfz, hnd⟩ := hW
  have hA : DataW.TrodAll enc Try.prog W 0 (fun _ => true) true Try.f3.params.toList args.toList ds p := hA0
  rw [Try.params3] at hA hval hsz
  obtain ⟨v0, vs0, d0, ds0, p0, q0, hargs, rfl, rfl, h0, r0⟩ := trodAll_cons hA
  obtain ⟨v1, vs1, d1, ds1, p1, q1, rfl, rfl, rfl, h1, r1⟩ := trodAll_cons r0
  obtain ⟨rfl, rfl, rfl⟩ := trodAll_nil r1
  obtain rfl : args = #[v0, v1] := by cases args; simp_all
  obtain ⟨rfl, rfl⟩ := trodVars_none hV
  have k0 := h0
  have lt0 : ∀ x ∈ p0, x.block < W.heap.size := by obtain ⟨m, hm⟩ := k0; exact DataW.trod_lt m _ _ _ hm
  have k1 := h1
  have lt1 : ∀ x ∈ p1, x.block < W.heap.size := by obtain ⟨m, hm⟩ := k1; exact DataW.trod_lt m _ _ _ hm
  have B0 := barg (hval 0 22 v0 rfl rfl) h0 hsz 0 rfl rfl
  obtain ⟨a1, rfl⟩ := open_arr16 (hval 1 23 v1 rfl rfl) h1
  clear hA0 hval0
  refine (walk v0 a1 W  B0).mono fun e W' ⟨he, bel⟩ => ?_
  subst he
  exact ⟨_, rfl, _, _, _, [], _, [], hW', trodAll_mk1 (shut_bool Try.underlying4 _), (trodAll_cons_mk (Below.trod laidOut (by kernel_rfl) (of_decide_eq_true (by kernel_rfl)) k0 bel lt0) (trodAll_cons_mk (Below.trod laidOut (by kernel_rfl) (of_decide_eq_true (by kernel_rfl)) k1 bel lt1) trodAll_mk0)), rfl, bel.frame _, fun h => by cases h⟩

theorem over : Rows.aesBlocksRow.holds Try.pinned (OpenSpec.ofChange Rows.aesBlocksSpec) :=
  OpenClaim.holds_of_wide 3 Try.f3 rfl rfl rfl rfl rfl rfl rfl ⟨rfl, rfl, rfl, rfl, rfl⟩ rfl rfl rfl rfl rfl (by kernel_rfl) Try.func3 (by kernel_rfl)
    (of_decide_eq_true (by kernel_rfl)) (by unfold Func.isWrapper; first | (rw [if_pos (by decide +kernel)]; kernel_rfl) | (rw [if_neg (by decide +kernel)]; exact ⟨rfl, rfl⟩))
    (fun os started H enc _ => lifted os started H enc)
end Go.Proofs.Ytkoodgfadedeoaa.aesBlocks
namespace Go.Proofs.Ytkoodgfadedeoaa
theorem aesBlocks_holds : Rows.AesBlocksSaid := aesBlocks.over
end Go.Proofs.Ytkoodgfadedeoaa
