/-
  What a walk over a loop over a function asks besides: rows that stand, functions that leave with a mark; no word of the program.
-/
import Derived.Test.YtboncdlihgpepaaRnd
import Derived.RangeFuncBound
namespace Go.Proofs.Ytboncdlihgpepaa
open Go.RowKit
theorem KeepsOthers.of_ext {W Y : World} (h : Ext W Y) : KeepsOthers W Y := ⟨Below.size h, fun k _ hk _ => (Below.block h k (Array.getElem?_eq_some_iff.1 hk).1).trans hk⟩
theorem KeepsOthers.setCells (b : Nat) : ∀ (vs : List Value) (o : Nat) (W Y : World), KeepsOthers W Y → KeepsOthers W (Y.setCells b o vs)
  | [], _, _, _, h => h
  | _ :: vs, o, W, _, h => KeepsOthers.setCells b vs (o + 1) W _ (h.trans (KeepsOthers.setCell _ _ _))
theorem RowAt.own {b n : Nat} {g : Nat → Value} {W W' : World} {r : Option Nat} (h : RowAt b n g W) (hg : W.grownBy W' r) (hr : ∀ k, r = some k → ∃ o : Obj, W.heap[k]? = some o ∧ o.isCells = false) : RowAt b n g W' :=
  ⟨fun j hj => cell_kept (h.1 j hj) hg hr, fun j hj => (frozen_kept (h.1 j hj) hg hr).trans (h.2.1 j hj), Nat.lt_of_lt_of_le h.2.2 hg.size⟩
theorem RowAt.put {b n D : Nat} {g : Nat → Value} {W : World} {o o' : Obj} (h : RowAt b n g W) (hD : W.heap[D]? = some o) (ho : o.isCells = false) : RowAt b n g (W.putObj D o') :=
  h.own (grownBy_putObj' W D o') (fun r e => by cases e; exact ⟨o, hD, ho⟩)
theorem wpList_st {P : Program} {w : World} {ops : Array Oper} {rest : List Oper} {o : Oper} {a : Act} {Q : Exit → Act → World → Prop} (hg : o.guard = none) (w' : World) (hr : (execOp a.eval o).run P w = .ok .skip w') (h : wpList P ops Q rest (a.put o.dst undef) w') : wpList P ops Q (o :: rest) a w := by
  unfold wpList
  have : Region.wanted o (yielded ops a.tmps) = true := by unfold Region.wanted; rw [hg]
  rw [if_pos this]
  left
  unfold Oper.wp
  rw [hr]
  exact h
theorem wpList_not {P : Program} {ops : Array Oper} {rest : List Oper} {o : Oper} {a : Act} {Q : Exit → Act → World → Prop} {w : World} (hw : Region.wanted o (yielded ops a.tmps) = false) (h : wpList P ops Q rest (a.put o.dst undef) w) : wpList P ops Q (o :: rest) a w := by
  unfold wpList
  rw [if_neg (by rw [hw]; simp)]
  exact h
theorem postM_ret {P : Program} {fn : Func} {n : Nat} {R : Ending → World → Prop} {a : Act} {w : World} {v : Value} (hd : a.defers = []) (hres : (results fn a.tmps).run P w = .ok v w) (hR : R (.returned v) w) : bodyPostM Fence.wide n P fn R .ret a w := by
  show LeavesInM Fence.wide n P fn a.tmps R a.defers .returning w
  rw [hd]
  exact ⟨v, hres, hR⟩
theorem postM_mark {P : Program} {fn : Func} {n D : Nat} {R : Ending → World → Prop} {a : Act} {w : World} {v : Value} (hd : a.defers = [{ target := .collected D, args := #[] }]) (hK : w.heap[D]? = some (.deferred (some []))) (hres : (results fn a.tmps).run P (w.putObj D (.deferred none)) = .ok v (w.putObj D (.deferred none))) (hR : R (.returned v) (w.putObj D (.deferred none))) : bodyPostM Fence.wide n P fn R .ret a w := by
  show LeavesInM Fence.wide n P fn a.tmps R a.defers .returning w
  rw [hd]
  refine ⟨by simp, .inl ⟨_, _, rfl, run_takeDeferred hK, ?_⟩⟩
  exact ⟨v, hres, hR⟩
theorem ext_put {w W : World} {D : Nat} {o o' : Obj} (h : Ext w W) (hD : w.heap.size ≤ D) (hK : W.heap[D]? = some o) : Ext w (W.putObj D o') :=
  Below.trans h ((Below.refl _ W).grown (grownBy_putObj' W D o') (by have := (Array.getElem?_eq_some_iff.1 hK).1; omega) (fun k e => by cases e; omega))
end Go.Proofs.Ytboncdlihgpepaa
