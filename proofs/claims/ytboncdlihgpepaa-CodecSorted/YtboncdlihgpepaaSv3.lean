/-
  A nil Sorted gone over; marks.
-/
import Derived.Test.YtboncdlihgpepaaSv1
import Derived.OwnWalkIn
import Derived.TacticsInMore
import Derived.LoopNIn
import Derived.LoopIn
import Derived.LoopN
import Derived.Shelf.Abstract
namespace Go.Proofs.Ytboncdlihgpepaa
open Go.RowKit Go.BigFrame Go.Maps Go.ChangeMaps Go.MapKept
set_option linter.unusedVariables false
open Go.Shelf Go.Lib Go.Sort
attribute [local go_sem] Oper.semAt_some
theorem neq90r (p q : KV) (r : Bool) (hr : r = !(decide (p.1 = q.1) && decide (p.2.toList = q.2.toList))) (w : World) : (binOp .neq 90 (.agg (row 2 (pV [p])).toArray) (.agg #[.int .i64 q.1, .string q.2])).run Try.prog w = .ok (.bool r) w := by
  rw [hr]
  exact neq90 p q w
/-- marks that loops have left -/
def MkS (w : World) (Ds : List Nat) (X : World) : Prop := (∀ D ∈ Ds, X.heap[D]? = some (.deferred (some []))) ∧ (∀ D ∈ Ds, w.heap.size ≤ D) ∧ Ds.Nodup
theorem MkS.ext {w X Y : World} {Ds : List Nat} (h : MkS w Ds X) (k : Ext X Y) : MkS w Ds Y := ⟨fun D hD => (Below.block k D (Array.getElem?_eq_some_iff.1 (h.1 D hD)).1).trans (h.1 D hD), h.2⟩
theorem MkS.set {w X : World} {Ds : List Nat} {b n i : Nat} {g : Nat → Value} (h : MkS w Ds X) (hr : RowAt b n g X) (hn : 0 < n) (v : Value) : MkS w Ds (X.setCell ⟨b, i, none⟩ v) :=
  ⟨fun D hD => (Below.heap_setCell X ⟨b, i, none⟩ v D (hr.ne_mark hn (h.1 D hD))).trans (h.1 D hD), h.2⟩
theorem MkS.lts {w X : World} {Ds : List Nat} (h : MkS w Ds X) : ∀ D ∈ Ds, D < X.heap.size := fun D hD => (Array.getElem?_eq_some_iff.1 (h.1 D hD)).1
theorem MkS.cons {w X : World} {Ds : List Nat} {D : Nat} (h : MkS w Ds X) (hD : ∀ D' ∈ Ds, D' < D) (hw : w.heap.size ≤ D) (hK : X.heap[D]? = some (.deferred (some []))) : MkS w (D :: Ds) X :=
  ⟨fun D' h' => by
    rcases List.mem_cons.1 h' with rfl | h'
    · exact hK
    · exact h.1 D' h', fun D' h' => by
    rcases List.mem_cons.1 h' with rfl | h'
    · exact hw
    · exact h.2.1 D' h', List.nodup_cons.2 ⟨fun h' => by have := hD D h'; omega, h.2.2⟩⟩
theorem MkS.own {w X Y : World} {Ds : List Nat} {B : Nat} {r : Option Nat} (h : MkS w Ds X) (hB : ∀ D ∈ Ds, D < B) (hg : X.grownBy Y r) (hr : ∀ k, r = some k → B ≤ k ∧ ∃ o : Obj, X.heap[k]? = some o ∧ o.isCells = false) : MkS w Ds Y :=
  ⟨fun D hD => (hg.block D (Array.getElem?_eq_some_iff.1 (h.1 D hD)).1 fun e => by have := (hr D e.symm).1; have := hB D hD; omega).trans (h.1 D hD), h.2⟩
theorem OvI.marks {w W : World} {xb : Nat} {most rd : Int} {c4 c5 c6 c7 c8 : Nat} {Ds : List Nat} {m : Nat} (h : OvI w xb most rd c4 c5 c6 c7 c8 Ds m W) : MkS w Ds W := ⟨h.mks, h.ml, h.nd⟩
set_option maxRecDepth 20000 in
set_option maxHeartbeats 4000000 in
theorem nil_stops (n : Nat) (hn : 1 ≤ n) {bx B : Nat} {w : World} (hx : RowAt bx 1 (fun _ => .pointer none) w) :
    SeqStopsK Fence.wide n Try.prog 48 #[.pointer (some ⟨bx, 0, none⟩)] encV (KpC B) (fun xs => xs = []) (fun _ => False) 0 w := fun l J Jx W hW hJ hJx hY hJ0 => by
  obtain ⟨W0, hW0⟩ : ∃ W0, W0 = W.heap.size := ⟨_, rfl⟩
  rw [← hW0] at hJ
  have hXW : Ext w W := hW
  have kE := hideit (nil_entries W)
  have hB := hideit (hx.carry hXW)
  have hJs : Hid (JH W0 J [] W) := ⟨hJ, hJ0⟩
  clear hY
  clear hJ hJx hJ0 hW hx hXW hW0
  refine (callsIn_of_wp Try.func48 rfl trivial ?_ rfl)
  refine wpIn_wide.2 ?_
  simp only [Try.ntmps48, List.size_toArray, List.length_cons, List.length_nil, Nat.reduceAdd, Nat.reduceSub, Array.replicate_succ, Array.replicate_zero, List.push_toArray, List.append_toArray, List.nil_append, List.cons_append]
  go_upto_region 0 with (fail)
  refine wp_region_lit ?_
  have m1 : W.cell? ⟨bx, 0, none⟩ = some (.pointer none) := hB.out.1 0 (by decide)
  refine xm [some (.pointer none)] (by kernel_rfl) (by simp [xr, go_sem, m1]) ?_
  simp only [xw, p0, p1, p2, p3]
  clear m1
  refine wpList_call rfl (by simp [go_sem]) ((kE.out).mono ?_)
  rintro e W2 ⟨b, rfl, hX2⟩
  refine ⟨_, rfl, ?_⟩
  simp only [Act.put, List.setIfInBounds_toArray, List.set_cons_zero, List.set_cons_succ]
  replace hB := hideit (hB.out.carry hX2)
  replace hJs := hideit (hJs.out.ext hX2)
  clear hX2 kE
  refine xm [some (.int .i64 0), some (.int .i64 0)] (by kernel_rfl) (by simp [xr, go_sem]) ?_
  simp only [xw, p0, p1, p2, p3]
  go_wp2
  refine wp_loop_rounds 1 ?_
  rw [rounds_succ]
  go_wp2
  go_end0
  exact ⟨⟨_, rfl⟩, .inl ⟨[], rfl, hJs.out.2⟩⟩
end Go.Proofs.Ytboncdlihgpepaa
