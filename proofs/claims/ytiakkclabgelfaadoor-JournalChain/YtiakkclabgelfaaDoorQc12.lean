/-
  How slices of bytes that came in read. Bytes that are made: zeros, in a block of the call's own.
-/
import Derived.Test.YtiakkclabgelfaaDoorQc11
import Derived.SizedLaws
import Derived.Test.YtiakkclabgelfaaDoorQc3
import Derived.OwnWalk
namespace Go.Proofs.YtiakkclabgelfaaDoor
set_option maxRecDepth 20000
open Go.ChangeShapes Go.WideShapes Go.ChangeAt Go.RowKit
def BArg (v : Value) (W : World) : Prop := v = .slice none 0 0 ∨ ∃ a l cap b, v = .slice (some a) l cap ∧ l ≤ cap ∧ LieAt a l (yv b) W ∧ l ≤ 140737488351232
end Go.Proofs.YtiakkclabgelfaaDoor
namespace Go.Proofs.YtiakkclabgelfaaDoor
open Go.RowKit Go.BigFrame
theorem made_row (k : Nat) : (madeCells (Value.int .u8 0).cells (k * 1)).toList = row k (yv fun _ => 0#8) := by
  apply List.ext_getElem?
  intro i
  by_cases h : i < k
  · rw [row_get k _ i h]
    simp [madeCells, Value.cells, h, Nat.mod_one, yv]
  · rw [List.getElem?_eq_none (by simp [madeCells]; omega), List.getElem?_eq_none (by rw [row_length]; omega)]
theorem wpList_made {P : Program} {t e : TypeId} (w : World) {ops : Array Oper} {rest : List Oper} {o : Oper} {a : Act} {Q : Exit → Act → World → Prop}
    (hu : P.underlying t = some (.slice e)) (hi : (P.info? e).map (fun i => (i.zero, i.size, i.bytes)) = some (some (.int .u8 0), 1, 1)) (hg : o.guard = none) (l c : Operand) (hop : o.op = Op.makeSlice t l c)
    (n : Nat) (hl : a.eval l = .int .i64 (n : Int)) (hc : a.eval c = .int .i64 (n : Int)) (b : n ≤ 140737488355328)
    (hK : ∀ w', OwnB w.heap.size e (.slice (some ⟨w.heap.size, 0, none⟩) n n) n (yv fun _ => 0#8) w' → Ext w w' → wpList P ops Q rest (a.put o.dst (.slice (some ⟨w.heap.size, 0, none⟩) n n)) w') :
    wpList P ops Q (o :: rest) a w := by
  obtain ⟨ti, hi1, hi2, hi3, hi4⟩ := info_parts hi
  refine wpList_make_full w hg l c t hop w.heap.size e ti (.int .u8 0) 1 hu hi1 hi2 hi3 .i64 .i64 (n : Int) (n : Int) n hl hc rfl rfl (by rw [hi4]; omega) (by unfold maxLen; omega) (Nat.le_refl _) ?_
  intro w1 hO hg1
  rw [made_row n] at hO
  exact hK w1 hO ⟨hg1.os, hg1.tape, hg1.output, hg1.size, fun k hk => hg1.block k hk (by simp)⟩
end Go.Proofs.YtiakkclabgelfaaDoor
