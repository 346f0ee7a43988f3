/-
  Single operations whose run is known; blocks made at a function's beginning; what a function answers. No word of the program. Many operations at once, each with the value that it gives: a row of steps in one. No word of the program.
-/
import Derived.Test.YtiakkclabgelfaaDoorQc21
import Derived.Test.YtiakkclabgelfaaDoorQc32
namespace Go.Proofs.YtiakkclabgelfaaDoor
open Go.RowKit Go.BigFrame
section
variable {P : Program}
theorem RowAt.sub {b n : Nat} {g : Nat → Value} {w : World} (h : RowAt b n g w) (off m : Nat) (hm : off + m ≤ n) (g' : Nat → Value) (hg : ∀ j, j < m → g (off + j) = g' j) : w.rangeAt b off (row m g') := fun j v hv => by
  obtain ⟨hj, rfl⟩ := row_some hv
  rw [h.1 (off + j) (by omega), hg j hj]
theorem xbuild {o : Oper} {a : Act} {w : World} (t : TypeId) (l : List (Nat × Operand)) (ho : o.op = .build t l.toArray) (v : Value) (hr : (Instr.build t (l.map fun x => (x.1, a.eval x.2)).toArray).run P w = .ok v w) : (execOp a.eval o).run P w = .ok (.value v) w := by
  unfold execOp
  rw [ho]
  simp only [List.map_toArray, Sem.run_bind, hr, Result.andThen_ok, Sem.run_pure]
theorem xnot {ops : Array Oper} {rest : List Oper} {o : Oper} {a : Act} {Q : Exit → Act → World → Prop} {w : World} (hw : Region.wanted o (yielded ops a.tmps) = false) (h : wpList P ops Q rest (a.put o.dst undef) w) : wpList P ops Q (o :: rest) a w := by
  unfold wpList
  rw [if_neg (by rw [hw]; simp)]
  exact h
theorem xst {w : World} {ops : Array Oper} {rest : List Oper} {o : Oper} {a : Act} {Q : Exit → Act → World → Prop} (hg : o.guard = none) (w' : World) (hr : (execOp a.eval o).run P w = .ok .skip w') (h : wpList P ops Q rest (a.put o.dst undef) w') : wpList P ops Q (o :: rest) a w := by
  refine wpList_plain hg fun K hK => ?_
  unfold Oper.wp
  rw [hr]
  simp only [Oper.upon]
  exact hK _ _ h
theorem res3 {fn : Func} {t u v : Tmp} (h : fn.results = #[.tmp t, .tmp u, .tmp v]) (tmps : Array Value) (P : Program) (w : World) : (results fn tmps).run P w = .ok (.tuple #[tmps.getD t undef, tmps.getD u undef, tmps.getD v undef]) w := by
  simp [results, h]
end
end Go.Proofs.YtiakkclabgelfaaDoor
namespace Go.Proofs.YtiakkclabgelfaaDoor
open Go.RowKit Go.BigFrame
def xg (ops : Array Oper) : List Oper → Act → List (Option Value) → Bool
  | _, _, [] => true
  | [], _, _ :: _ => false
  | o :: os, a, v :: vs => (Region.wanted o (yielded ops a.tmps) == v.isSome) && xg ops os (a.put o.dst (v.getD undef)) vs
def xr (P : Program) (w : World) : List Oper → Act → List (Option Value) → Prop
  | _, _, [] => True
  | [], _, _ :: _ => True
  | o :: os, a, none :: vs => xr P w os (a.put o.dst undef) vs
  | o :: os, a, some v :: vs => (execOp a.eval o).run P w = .ok (.value v) w ∧ xr P w os (a.put o.dst v) vs
def xw (P : Program) (ops : Array Oper) (Q : Exit → Act → World → Prop) (w : World) : List Oper → Act → List (Option Value) → Prop
  | os, a, [] => wpList P ops Q os a w
  | [], _, _ :: _ => True
  | o :: os, a, none :: vs => xw P ops Q w os (a.put o.dst undef) vs
  | o :: os, a, some v :: vs => xw P ops Q w os (a.put o.dst v) vs
theorem xm {P : Program} {w : World} {ops : Array Oper} {Q : Exit → Act → World → Prop} : ∀ (vs : List (Option Value)) {os : List Oper} {a : Act} (_ : xg ops os a vs = true) (_ : xr P w os a vs) (_ : xw P ops Q w os a vs), wpList P ops Q os a w
  | [], os, a, _, _, h => by cases os <;> exact h
  | v :: vs, [], a, hg, _, _ => by cases hg
  | none :: vs, o :: os, a, hg, hr, h => by
    unfold xg at hg
    rw [Bool.and_eq_true] at hg
    exact xnot (by simpa using hg.1) (xm vs hg.2 hr h)
  | some v :: vs, o :: os, a, hg, hr, h => by
    unfold xg at hg
    rw [Bool.and_eq_true] at hg
    exact wpList_runW (by simpa using hg.1) v hr.1 (xm vs hg.2 hr.2 h)
theorem p0 (a : Act) (d : Tmp) (v : Value) : a.put (some d) v = { a with tmps := a.tmps.setIfInBounds d v } := rfl
theorem p1 {α : Type} (l : List α) (i : Nat) (a : α) : l.toArray.setIfInBounds i a = (l.set i a).toArray := List.setIfInBounds_toArray ..
theorem p2 {α : Type} (x a : α) (l : List α) : (x :: l).set 0 a = a :: l := rfl
theorem p3 {α : Type} (x a : α) (l : List α) (n : Nat) : (x :: l).set (n + 1) a = x :: l.set n a := rfl
end Go.Proofs.YtiakkclabgelfaaDoor
