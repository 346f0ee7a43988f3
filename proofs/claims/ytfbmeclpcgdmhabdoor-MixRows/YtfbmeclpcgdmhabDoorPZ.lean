/-
  A page mixed with itself gives zeros.
-/
import Derived.Test.YtfbmeclpcgdmhabDoorSt8
namespace Go.Proofs.YtfbmeclpcgdmhabDoor
set_option maxRecDepth 20000
open Go.RowKit Go.BigFrame
def zP : Nat → BitVec 64 := fun _ => 0#64
theorem xr_self (x : Nat → BitVec 64) : xrF x x = zP := funext fun j => by unfold xrF xW zP; exact BitVec.xor_self
theorem st_zero : st4 0#64 0#64 0#64 0#64 = (0#64, 0#64, 0#64, 0#64) := by decide +kernel
theorem rowSt_zero (a b c d : Nat) : rowSt zP a b c d = zP := funext fun j => by
  unfold rowSt zP
  simp only [st_zero, ite_self]
theorem stK_zero (k : Nat) : stK zP k = zP := by
  induction k with
  | zero => rfl
  | succ k ih => unfold stK; rw [ih, rowSt_zero]
theorem putF_zero (pl : Nat → Nat) (n : Nat) : putF zP pl zP n = zP := by
  induction n with
  | zero => rfl
  | succ n ih =>
    funext j
    unfold putF
    rw [ih]
    unfold zP
    simp only [ite_self]
theorem linesK_zero (pl : Nat → Nat → Nat) (k : Nat) : linesK pl zP k = zP := by
  induction k with
  | zero => rfl
  | succ k ih =>
    unfold linesK lineS
    rw [ih, show (fun i => zP (pl k i)) = zP from rfl, stK_zero, putF_zero]
theorem pages_zero (x : Nat → BitVec 64) : pagesF x x = zP := by
  unfold pagesF
  rw [xr_self, linesK_zero, linesK_zero, xr_self]
end Go.Proofs.YtfbmeclpcgdmhabDoor
