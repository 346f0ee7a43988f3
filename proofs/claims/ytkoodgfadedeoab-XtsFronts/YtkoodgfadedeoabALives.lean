/-
  The example that every statement of the cipher asks first: it lives.
-/
import Derived.Test.YtkoodgfadedeoabALv
import Derived.Test.YtkoodgfadedeoabArr
import Derived.Deep.CutRange
namespace Go.Proofs.Ytkoodgfadedeoab
open Go.RowKit Go.BigFrame
def keyC : Array Value := #[.int .u8 0, .int .u8 1, .int .u8 2, .int .u8 3, .int .u8 4, .int .u8 5, .int .u8 6, .int .u8 7, .int .u8 8, .int .u8 9, .int .u8 10, .int .u8 11, .int .u8 12, .int .u8 13, .int .u8 14, .int .u8 15]
theorem keyC_at (w : World) : KeyAt ⟨w.heap.size, 0, none⟩ 16 sl (w.alloc (.cells keyC 5)) := by
  refine ⟨fun j hj => ?_, by simp⟩
  rw [Addr.add_mid, Nat.zero_add, World.cell?_alloc_new]
  rcases (by omega : j = 0 ∨ j = 1 ∨ j = 2 ∨ j = 3 ∨ j = 4 ∨ j = 5 ∨ j = 6 ∨ j = 7 ∨ j = 8 ∨ j = 9 ∨ j = 10 ∨ j = 11 ∨ j = 12 ∨ j = 13 ∨ j = 14 ∨ j = 15) with rfl | rfl | rfl | rfl | rfl | rfl | rfl | rfl | rfl | rfl | rfl | rfl | rfl | rfl | rfl | rfl <;> rfl
theorem ex_row : (Value.agg (((((((((((((((((row 16 (yv fun _ => 0#8)).set 0 (.int .u8 105)).set 1 (.int .u8 196)).set 2 (.int .u8 224)).set 3 (.int .u8 216)).set 4 (.int .u8 106)).set 5 (.int .u8 123)).set 6 (.int .u8 4)).set 7 (.int .u8 48)).set 8 (.int .u8 216)).set 9 (.int .u8 205)).set 10 (.int .u8 183)).set 11 (.int .u8 128)).set 12 (.int .u8 112)).set 13 (.int .u8 180)).set 14 (.int .u8 197)).set 15 (.int .u8 90)).toArray) = .agg (row 16 (yv ex)).toArray := rfl
theorem plain_row : (Value.agg (((((((((((((((((row 16 (yv fun _ => 0#8)).set 0 (.int .u8 0)).set 1 (.int .u8 17)).set 2 (.int .u8 34)).set 3 (.int .u8 51)).set 4 (.int .u8 68)).set 5 (.int .u8 85)).set 6 (.int .u8 102)).set 7 (.int .u8 119)).set 8 (.int .u8 136)).set 9 (.int .u8 153)).set 10 (.int .u8 170)).set 11 (.int .u8 187)).set 12 (.int .u8 204)).set 13 (.int .u8 221)).set 14 (.int .u8 238)).set 15 (.int .u8 255)).toArray) = .agg (row 16 (yv pl)).toArray := rfl
end Go.Proofs.Ytkoodgfadedeoab
