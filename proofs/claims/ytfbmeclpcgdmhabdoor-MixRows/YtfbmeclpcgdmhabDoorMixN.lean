/-
  A region that draws its order, makes one block and ends with late operations: the quiet ones first in the text.
-/
import Derived.Test.YtfbmeclpcgdmhabDoorMildB
namespace Go.Proofs.YtfbmeclpcgdmhabDoor
open Go.RowKit
theorem range_ops (ops : Array Oper) (s q : Nat) (hq : s + q ≤ ops.size) : (List.range' s q).map (ops[·]?) = ((ops.toList.drop s).take q).map some := by
  apply List.ext_getElem?
  intro i
  by_cases h : i < q
  · have h1 : s + i < ops.size := by omega
    simp [h, List.getElem?_drop, h1]
  · simp [List.getElem?_take, h]
theorem wp_region_mixn {P : Program} {ops : Array Oper} {Q : Exit → Act → World → Prop} {id : Nat} {a : Act} {w : World} (q r : Nat) (om : Oper) (lops : List Oper) (hsz : ops.size = q + (1 + r)) (hd : ops.toList.drop q = om :: lops) (hmo : P.follows .mixedOrders = true) (hB : textB ops = true)
    (hq : (List.range' 0 q).Pairwise (fun k j => edgeB ops k j = true)) (hqm : ∀ k ∈ List.range' 0 q, edgeB ops k q = true)
    (hl1 : ∀ j ∈ List.range' (q + 1) r, ∀ k ∈ List.range' 0 q ++ [q], waits ops ops.size j k = true) (hl2 : (List.range' (q + 1) r).Pairwise (fun k j => waits ops ops.size j k = true))
    (h : wpStrong P ops w.drew (MK P ops w.drew Q om lops) (ops.toList.take q) a) : (Code.region id ops true).wp P Q a w := by
  have hall : List.range' 0 q ++ q :: List.range' (q + 1) r = List.range' 0 (q + (1 + r)) := by
    rw [show q :: List.range' (q + 1) r = List.range' (0 + q) (1 + r) by rw [Nat.add_comm 1 r, List.range'_succ, Nat.zero_add]]
    exact List.range'_append_1
  have hm : ops[q]? = some om := by
    have h1 : (ops.toList.drop q)[0]? = some om := by rw [hd]; rfl
    simpa [List.getElem?_drop] using h1
  have hll : (List.range' (q + 1) r).map (ops[·]?) = lops.map some := by
    rw [range_ops ops (q + 1) r (by omega)]
    have h1 : ops.toList.drop (q + 1) = lops := by
      rw [← List.drop_drop, hd]
      rfl
    rw [h1, List.take_of_length_le]
    have h2 := congrArg List.length hd
    simp at h2
    omega
  refine wp_region_mix (List.range' 0 q) q om (List.range' (q + 1) r) lops hmo hB hm hll (by rw [hall]; exact List.nodup_range') (fun i hi => by rw [hall]; simp; omega) (fun i hi => by rw [hall] at hi; simp at hi; omega) hq hqm hl1 hl2 ?_
  refine wpS_of_list _ _ _ ?_ h
  exact range_ops ops 0 q (by omega)
end Go.Proofs.YtfbmeclpcgdmhabDoor
