/-
  Words of 64 bits and bytes, as the walk spells them; what the functions that turn words answer.
-/
import Derived.Test.YtboncdlihgpepaaChecked
import Derived.WalkSpells
import Derived.WalkLawsBesides
import Derived.LoopTactic
import Derived.Laws.BitsAllLaws
import Derived.Laws.Bits64b
import Derived.Laws.Bits64
import Derived.Deep.CutRange
import Derived.Test.YtboncdlihgpepaaMild
namespace Go.Proofs.Ytboncdlihgpepaa
open Go.RowKit Go.BigFrame
def wv (f : Nat → BitVec 64) : Nat → Value := fun j => .int .u64 ((f j).toNat : Int)
def yv (f : Nat → BitVec 8) : Nat → Value := fun j => .int .u8 ((f j).toNat : Int)
/-- a word turned to the right -/
def rR (n : Nat) (a : BitVec 64) : BitVec 64 := a >>> n ||| a <<< (64 - n)
def xW (a b : BitVec 64) : BitVec 64 := a ^^^ b
def oW (a b : BitVec 64) : BitVec 64 := a ||| b
def nW (a : BitVec 64) : BitVec 64 := ~~~a
def sW (a b : BitVec 64) : BitVec 64 := a + b
theorem xW_fact (a b : BitVec 64) : bits .xor .u64 (a.toNat : Int) (b.toNat : Int) = ((xW a b).toNat : Int) := by
  unfold xW; rw [u64_xor_nat _ _ a.isLt b.isLt, BitVec.toNat_xor]
theorem oW_fact (a b : BitVec 64) : bits .or .u64 (a.toNat : Int) (b.toNat : Int) = ((oW a b).toNat : Int) := by
  unfold oW; rw [u64_or_nat _ _ a.isLt b.isLt, BitVec.toNat_or]
theorem nW_fact (a : BitVec 64) : bits .xor .u64 (if IntKind.u64.signed = true then -1 else IntKind.u64.max) (a.toNat : Int) = ((nW a).toNat : Int) := by
  have h1 : (if IntKind.u64.signed = true then (-1 : Int) else IntKind.u64.max) = ((18446744073709551615 : Nat) : Int) := by decide
  rw [h1, u64_xor_nat _ _ (by decide) a.isLt]
  unfold nW
  have h2 : (18446744073709551615 : Nat) = (BitVec.allOnes 64).toNat := by decide
  rw [h2, ← BitVec.toNat_xor, BitVec.allOnes_xor]
theorem sW_fact (a b : BitVec 64) : ((a.toNat : Int) + (b.toNat : Int)) % 18446744073709551616 = ((sW a b).toNat : Int) := by
  unfold sW; rw [BitVec.toNat_add]; omega
theorem sW_wrap (a b : BitVec 64) : IntKind.u64.wrap ((a.toNat : Int) + (b.toNat : Int)) = ((sW a b).toNat : Int) := by
  rw [IntKind.wrap_u64]; exact sW_fact a b
theorem below_drewN (w : World) : ∀ n, Below w.heap.size w (w.drewN n)
  | 0 => Below.refl _ _
  | n + 1 => (below_drewN w n).drew
end Go.Proofs.Ytboncdlihgpepaa
