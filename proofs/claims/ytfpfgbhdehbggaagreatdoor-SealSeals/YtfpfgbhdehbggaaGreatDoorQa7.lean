/-
  When two arrays of integers are the same; bytes as strings. lives: what must come of every program, comes. How arrays of bytes and of words that came in read.
-/
import Derived.Test.YtfpfgbhdehbggaaGreatDoorQa2
import Derived.Laws.StructEq
import Derived.Laws.BytesString
import Derived.Test.YtfpfgbhdehbggaaGreatDoorQa6
import Derived.Lib.SlBytesConst
import Derived.ProofKit
import Derived.OpenShut
namespace Go.Proofs.YtfpfgbhdehbggaaGreatDoor
open Go.RowKit Go.BigFrame
section
variable {P : Program}
end
def bstr (n : Nat) (z : Nat → Int) : ByteArray := ((List.range n).map z).foldl (fun r n => r.push (UInt8.ofNat n.toNat)) ByteArray.empty
theorem bstr_congr {n : Nat} {f g : Nat → Int} (h : ∀ j, j < n → f j = g j) : bstr n f = bstr n g := by
  unfold bstr
  rw [List.map_congr_left fun j hj => h j (by simpa using hj)]
end Go.Proofs.YtfpfgbhdehbggaaGreatDoor
namespace Go.Proofs.YtfpfgbhdehbggaaGreatDoor
set_option maxRecDepth 20000
open Go.RowKit Go.BigFrame
theorem lie_new (w : World) (n : Nat) (C : Array Value) (t : TypeId) (fz : Nat × Nat) (b : Nat → BitVec 8) (h : ∀ j, j < n → C[j]? = some (yv b j)) : LieAt ⟨w.heap.size, 0, none⟩ n (yv b) (w.alloc (.cells C t fz)) :=
  ⟨fun j hj => by
    have h1 : (w.alloc (.cells C t fz)).cell? ⟨w.heap.size, j, none⟩ = C[j]? := by
      have h2 : (w.alloc (.cells C t fz)).heap[w.heap.size]? = some (.cells C t fz) := by
        show (w.heap.push (.cells C t fz))[w.heap.size]? = _
        simp
      unfold World.cell?
      rw [h2]
      rfl
    unfold Addr.add
    by_cases e : j = 0
    · subst e
      rw [if_pos rfl, h1]
      exact h 0 hj
    · rw [if_neg e]
      show (w.alloc (.cells C t fz)).cell? ⟨w.heap.size, 0 + j, none⟩ = _
      rw [Nat.zero_add, h1]
      exact h j hj, by simp⟩
theorem mark_const (w : World) (C : Array Value) (n : Nat) : (convert 25 25 (.slice (some ⟨w.heap.size, 0, none⟩) n n)).run Tryz.prog (w.alloc (.cells C 5)) = .ok (.slice (some ⟨w.heap.size, 0, none⟩) n n) (w.alloc (.cells C 5 (C.size, C.size + 1))) :=
  Go.Lib.run_convert_bytes_const w 25 5 C n n Tryz.underlying25 Tryz.underlying5
end Go.Proofs.YtfpfgbhdehbggaaGreatDoor
namespace Go.Proofs.YtfpfgbhdehbggaaGreatDoor
set_option maxRecDepth 20000
open Go.ChangeShapes Go.WideShapes Go.ChangeAt Go.RowKit
theorem of_wf8 {n : Int} (h : (Lit.int .u8 n).wf = true) : ∃ a : BitVec 8, n = (a.toNat : Int) := by
  have hb := bounds_u8 h
  exact ⟨BitVec.ofNat 8 n.toNat, by rw [BitVec.toNat_ofNat]; omega⟩
end Go.Proofs.YtfpfgbhdehbggaaGreatDoor
