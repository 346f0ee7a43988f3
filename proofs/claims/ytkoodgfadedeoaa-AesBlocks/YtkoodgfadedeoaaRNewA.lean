/-
  The document's own New: facts on its cells.
-/
import Derived.Test.YtkoodgfadedeoaaOwn
import Derived.Test.YtkoodgfadedeoaaMildB
import Derived.Test.YtkoodgfadedeoaaRBox
import Derived.Test.YtkoodgfadedeoaaREnc
import Derived.Test.YtkoodgfadedeoaaNew
import Derived.Laws.AppendOwn
import Derived.OwnWalk
import Derived.Deep.CutRange
namespace Go.Proofs.Ytkoodgfadedeoaa
open Go.RowKit Go.BigFrame
def rcv (bx ub : Nat → BitVec 8) (j : Nat) : Value := if j = 0 then .slice none 0 0 else if j < 257 then yv bx (j - 1) else yv ub (j - 257)
def zr : List Value := row 513 (rcv (fun _ => 0#8) (fun _ => 0#8))
theorem zero47 (w : World) : Sem.run Try.prog (zeroValue 39) w = .ok (.agg zr.toArray) w := by kernel_rfl
theorem rcv_step (n : Nat) (hn : n < 256) (j : Nat) (hj : j < 513) : (if j = 257 + (bxT n).toNat then (Value.int .u8 (n : Int)) else rcv bxT (ubP n) j) = rcv bxT (ubP (n + 1)) j := by
  have hb := (bxT n).isLt
  unfold rcv
  by_cases h0 : j = 0
  · rw [if_neg (by omega), if_pos h0, if_pos h0]
  by_cases h1 : j < 257
  · rw [if_neg (by omega), if_neg h0, if_pos h1, if_neg h0, if_pos h1]
  · rw [if_neg h0, if_neg h1, if_neg h0, if_neg h1]
    by_cases e : j = 257 + (bxT n).toNat
    · subst e
      rw [if_pos rfl]
      simp only [yv, ubP, show 257 + (bxT n).toNat - 257 = (bxT n).toNat by omega, ub_bx n]
      rw [if_pos (by simp; omega), of8 n hn]
    · rw [if_neg e]
      have hne : (ubT (j - 257)).toNat ≠ n := fun h => e (by have := ub_eq n (j - 257) hn (by omega) h; omega)
      simp only [yv, ubP, show ((ubT (j - 257)).toNat < n + 1) ↔ ((ubT (j - 257)).toNat < n) by omega]
end Go.Proofs.Ytkoodgfadedeoaa
