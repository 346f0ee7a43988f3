/-
  The document's own New: the Cipher as it is built, and the types of its slices. A region that draws its order, makes one block and ends with late operations: the quiet ones first in the text.
-/
import Derived.Test.YtkoodgfadedeoaaQ27
import Derived.Laws.Tables
import Derived.Test.YtkoodgfadedeoaaQ24
namespace Go.Proofs.Ytkoodgfadedeoaa
open Go.RowKit
set_option maxRecDepth 100000 in
theorem built39 (b : Nat → BitVec 8) : Try.prog.built 39 [(1, .agg (row 256 (yv b)).toArray)] = some (row 513 (rcv b (fun _ => 0#8))).toArray := by kernel_rfl
theorem build39 (b : Nat → BitVec 8) (w : World) : (Instr.build 39 #[(1, .agg (row 256 (yv b)).toArray)]).run Try.prog w = .ok (.agg (row 513 (rcv b (fun _ => 0#8))).toArray) w := run_build w 39 _ _ (built39 b)
theorem elem63 : ElemN Try.prog 63 64 4 := elem_n Try.underlying63 (by kernel_rfl) (by kernel_rfl) (by kernel_rfl)
theorem elem36 : ElemN Try.prog 36 23 16 := elem_n Try.underlying36 (by kernel_rfl) (by kernel_rfl) (by kernel_rfl)
theorem lie_row {b n : Nat} {g : Nat → Value} {w : World} (h : RowAt b n g w) : LieAt ⟨b, 0, none⟩ n g w := ⟨fun j hj => by
  have hadd : (⟨b, 0, none⟩ : Addr).add j = ⟨b, j, none⟩ := by unfold Addr.add; split <;> simp_all
  rw [hadd]
  exact h.1 j hj, h.2.2⟩
theorem grown_ext {w X Y : World} {row : Option Nat} (h : Ext w X) (hg : X.grownBy Y row) (hr : ∀ k, row = some k → w.heap.size ≤ k) : Ext w Y := Below.trans h (below_grown (Below.size h) hg hr)
theorem bslice63 (y0 y1 y2 y3 : Value) (w : World) : (Instr.buildSlice 63 1 #[(0, .agg #[y0, y1, y2, y3])]).run Try.prog w = .ok (.slice (some ⟨w.heap.size, 0, none⟩) 1 1) (w.alloc (.cells #[y0, y1, y2, y3] 64)) := by kernel_rfl
end Go.Proofs.Ytkoodgfadedeoaa
namespace Go.Proofs.Ytkoodgfadedeoaa
open Go.RowKit
theorem range_ops (ops : Array Oper) (s q : Nat) (hq : s + q ≤ ops.size) : (List.range' s q).map (ops[·]?) = ((ops.toList.drop s).take q).map some := by
  apply List.ext_getElem?
  intro i
  by_cases h : i < q
  · have h1 : s + i < ops.size := by omega
    simp [h, List.getElem?_drop, h1]
  · simp [List.getElem?_take, h]
theorem wp_region_mixn {P : Program} {ops : Array Oper} {Q : Exit → Act → World → Prop} {id : Nat} {a : Act} {w : World} (q r : Nat) (om : Oper) (lops : List Oper) (hsz : ops.size = q + (1 + r)) (hd : ops.toList.drop q = om :: lops) (hmo : P.follows .mixedOrders = true) (hB : textB ops = true)
    (hq : (List.range' 0 q).Pairwise (fun k j => edgeB ops k j = true)) (hqm : ∀ k ∈ List.range' 0 q, edgeB ops k q = true)
    (hl1 : ∀ j ∈ List.range' (q + 1) r, ∀ k ∈ List.range' 0 q ++ [q], waits ops ops.size j k = true) (hl2 : (List.range' (q + 1) r).Pairwise (fun k j => waits ops ops.size j k = true))
    (h : wpStrong P ops w.drew (MK P ops w.drew Q om lops) (ops.toList.take q) a) : (Code.region id ops true).wp P Q a w := by
  have hall : List.range' 0 q ++ q :: List.range' (q + 1) r = List.range' 0 (q + (1 + r)) := by
    rw [show q :: List.range' (q + 1) r = List.range' (0 + q) (1 + r) by rw [Nat.add_comm 1 r, List.range'_succ, Nat.zero_add]]
    exact List.range'_append_1
  have hm : ops[q]? = some om := by
    have h1 : (ops.toList.drop q)[0]? = some om := by rw [hd]; rfl
    simpa [List.getElem?_drop] using h1
  have hll : (List.range' (q + 1) r).map (ops[·]?) = lops.map some := by
    rw [range_ops ops (q + 1) r (by omega)]
    have h1 : ops.toList.drop (q + 1) = lops := by
      rw [← List.drop_drop, hd]
      rfl
    rw [h1, List.take_of_length_le]
    have h2 := congrArg List.length hd
    simp at h2
    omega
  refine wp_region_mix (List.range' 0 q) q om (List.range' (q + 1) r) lops hmo hB hm hll (by rw [hall]; exact List.nodup_range') (fun i hi => by rw [hall]; simp; omega) (fun i hi => by rw [hall] at hi; simp at hi; omega) hq hqm hl1 hl2 ?_
  refine wpS_of_list _ _ _ ?_ h
  exact range_ops ops 0 q (by omega)
end Go.Proofs.Ytkoodgfadedeoaa
