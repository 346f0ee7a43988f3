/-
  lives: what must come of every program, comes.
-/
import Derived.Test.YtapmheocllicnaaDoorSumOf
import Derived.Test.YtapmheocllicnaaDoorEql
import Derived.Lib.SlBytesConst
namespace Go.Proofs.YtapmheocllicnaaDoor
open Go.RowKit Go.BigFrame
theorem sz5 : ∀ w, (sizeOf 5).run Tryd.prog w = .ok 1 w := fun w => by kernel_rfl
theorem sz27 : ∀ w, (sizeOf 67).run Tryd.prog w = .ok 1 w := fun w => by kernel_rfl
theorem eq24 (f : Nat → BitVec 8) (w : World) : (binOp .eql 25 (.agg (row 32 (yv f)).toArray) (.agg (row 32 (yv f)).toArray)).run Tryd.prog w = .ok (.bool true) w := run_eql_refl 25 5 32 .u8 Tryd.underlying25 Tryd.underlying5 sz5 _ w
theorem eq28 (f : Nat → BitVec 32) (w : World) : (binOp .eql 68 (.agg (row 8 (wv f)).toArray) (.agg (row 8 (wv f)).toArray)).run Tryd.prog w = .ok (.bool true) w := run_eql_refl 68 67 8 .u32 Tryd.underlying68 Tryd.underlying67 sz27 _ w
/-- bytes that lie in a block just made -/
theorem lie_new (w : World) (n : Nat) (C : Array Value) (t : TypeId) (fz : Nat × Nat) (b : Nat → BitVec 8) (h : ∀ j, j < n → C[j]? = some (yv b j)) : LieAt ⟨w.heap.size, 0, none⟩ n (yv b) (w.alloc (.cells C t fz)) :=
  ⟨fun j hj => by
    have h1 : (w.alloc (.cells C t fz)).cell? ⟨w.heap.size, j, none⟩ = C[j]? := by
      have h2 : (w.alloc (.cells C t fz)).heap[w.heap.size]? = some (.cells C t fz) := by
        show (w.heap.push (.cells C t fz))[w.heap.size]? = _
        simp
      unfold World.cell?
      rw [h2]
      rfl
    unfold Addr.add
    by_cases e : j = 0
    · subst e
      rw [if_pos rfl, h1]
      exact h 0 hj
    · rw [if_neg e]
      show (w.alloc (.cells C t fz)).cell? ⟨w.heap.size, 0 + j, none⟩ = _
      rw [Nat.zero_add, h1]
      exact h j hj, by simp⟩
theorem mark_const (w : World) (C : Array Value) (n : Nat) : (convert 23 23 (.slice (some ⟨w.heap.size, 0, none⟩) n n)).run Tryd.prog (w.alloc (.cells C 5)) = .ok (.slice (some ⟨w.heap.size, 0, none⟩) n n) (w.alloc (.cells C 5 (C.size, C.size + 1))) :=
  Go.Lib.run_convert_bytes_const w 23 5 C n n Tryd.underlying23 Tryd.underlying5
end Go.Proofs.YtapmheocllicnaaDoor
