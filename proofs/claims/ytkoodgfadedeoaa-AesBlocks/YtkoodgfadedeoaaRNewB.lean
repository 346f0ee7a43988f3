/-
  The document's own New: the Cipher as it is built, and the types of its slices.
-/
import Derived.Test.YtkoodgfadedeoaaRNewA
import Derived.Test.YtkoodgfadedeoaaOwnN
import Derived.Laws.Tables
namespace Go.Proofs.Ytkoodgfadedeoaa
open Go.RowKit
set_option maxRecDepth 100000 in
theorem built39 (b : Nat → BitVec 8) : Try.prog.built 39 [(1, .agg (row 256 (yv b)).toArray)] = some (row 513 (rcv b (fun _ => 0#8))).toArray := by kernel_rfl
theorem build39 (b : Nat → BitVec 8) (w : World) : (Instr.build 39 #[(1, .agg (row 256 (yv b)).toArray)]).run Try.prog w = .ok (.agg (row 513 (rcv b (fun _ => 0#8))).toArray) w := run_build w 39 _ _ (built39 b)
theorem elem63 : ElemN Try.prog 63 64 4 := elem_n Try.underlying63 (by kernel_rfl) (by kernel_rfl) (by kernel_rfl)
theorem elem36 : ElemN Try.prog 36 23 16 := elem_n Try.underlying36 (by kernel_rfl) (by kernel_rfl) (by kernel_rfl)
theorem lie_row {b n : Nat} {g : Nat → Value} {w : World} (h : RowAt b n g w) : LieAt ⟨b, 0, none⟩ n g w := ⟨fun j hj => by
  have hadd : (⟨b, 0, none⟩ : Addr).add j = ⟨b, j, none⟩ := by unfold Addr.add; split <;> simp_all
  rw [hadd]
  exact h.1 j hj, h.2.2⟩
theorem grown_ext {w X Y : World} {row : Option Nat} (h : Ext w X) (hg : X.grownBy Y row) (hr : ∀ k, row = some k → w.heap.size ≤ k) : Ext w Y := Below.trans h (below_grown (Below.size h) hg hr)
theorem bslice63 (y0 y1 y2 y3 : Value) (w : World) : (Instr.buildSlice 63 1 #[(0, .agg #[y0, y1, y2, y3])]).run Try.prog w = .ok (.slice (some ⟨w.heap.size, 0, none⟩) 1 1) (w.alloc (.cells #[y0, y1, y2, y3] 64)) := by kernel_rfl
end Go.Proofs.Ytkoodgfadedeoaa
