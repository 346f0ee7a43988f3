/-
  Plain facts on inverses and boxes of bytes.
-/
import Derived.Test.YtkoodgfadedeoabBoxes
import Derived.OpenShut
namespace Go.Proofs.Ytkoodgfadedeoab
open Go.RowKit
theorem unturn_turn : ∀ b : BitVec 8, unturnB (turnB b) = b := by decide +kernel
theorem inv_ok : ∀ b : BitVec 8, mB b (iB b) = if b = 0#8 then 0#8 else 1#8 := by decide +kernel
theorem inv_zero : iB 0#8 = 0#8 := by decide +kernel
theorem mB_comm (a b : BitVec 8) : mB a b = mB b a := tK_comm _ _ _
theorem mB_assoc (a b c : BitVec 8) : mB (mB a b) c = mB a (mB b c) := tK_assoc _ _ _ _
theorem mB_one (a : BitVec 8) : mB a 1#8 = a := tK_unit _ _
theorem mB_zero (a : BitVec 8) : mB a 0#8 = 0#8 := tK_zero_right _ _ _
theorem mB_add (a b c : BitVec 8) : mB a (b ^^^ c) = mB a b ^^^ mB a c := tK_add_right _ _ _ _ _
theorem inv_inv (a : BitVec 8) : iB (iB a) = a := by
  by_cases h : a = 0#8
  · subst h; rw [inv_zero, inv_zero]
  · have h1 := inv_ok a
    rw [if_neg h] at h1
    have h2 : iB a ≠ 0#8 := by
      intro h0; rw [h0, mB_zero] at h1; exact absurd h1 (by decide)
    have h3 := inv_ok (iB a)
    rw [if_neg h2] at h3
    have h4 := mB_assoc a (iB a) (iB (iB a))
    rw [h1, h3, mB_one, mB_comm, mB_one] at h4
    exact h4
theorem unbox_box (a : BitVec 8) : unboxB (boxB a) = a := by
  unfold unboxB boxB
  rw [unturn_turn, inv_inv]
theorem box_inj {a b : BitVec 8} (h : boxB a = boxB b) : a = b := by
  rw [← unbox_box a, h, unbox_box]
theorem of_wf8 {n : Int} (h : (Lit.int .u8 n).wf = true) : ∃ a : BitVec 8, n = (a.toNat : Int) := by
  have hb := bounds_u8 h
  exact ⟨BitVec.ofNat 8 n.toNat, by rw [BitVec.toNat_ofNat]; omega⟩
end Go.Proofs.Ytkoodgfadedeoab
