/-
  Many operations at once, each with the value that it gives: a row of steps in one. No word of the program.
-/
import Derived.Test.YtboncdlihgpepaaEx
namespace Go.Proofs.Ytboncdlihgpepaa
open Go.RowKit Go.BigFrame
/-- which operations are wanted -/
def xg (ops : Array Oper) : List Oper → Act → List (Option Value) → Bool
  | _, _, [] => true
  | [], _, _ :: _ => false
  | o :: os, a, v :: vs => (Region.wanted o (yielded ops a.tmps) == v.isSome) && xg ops os (a.put o.dst (v.getD undef)) vs
/-- what those that are wanted give -/
def xr (P : Program) (w : World) : List Oper → Act → List (Option Value) → Prop
  | _, _, [] => True
  | [], _, _ :: _ => True
  | o :: os, a, none :: vs => xr P w os (a.put o.dst undef) vs
  | o :: os, a, some v :: vs => (execOp a.eval o).run P w = .ok (.value v) w ∧ xr P w os (a.put o.dst v) vs
/-- what is left behind them -/
def xw (P : Program) (ops : Array Oper) (Q : Exit → Act → World → Prop) (w : World) : List Oper → Act → List (Option Value) → Prop
  | os, a, [] => wpList P ops Q os a w
  | [], _, _ :: _ => True
  | o :: os, a, none :: vs => xw P ops Q w os (a.put o.dst undef) vs
  | o :: os, a, some v :: vs => xw P ops Q w os (a.put o.dst v) vs
theorem xm {P : Program} {w : World} {ops : Array Oper} {Q : Exit → Act → World → Prop} : ∀ (vs : List (Option Value)) {os : List Oper} {a : Act} (_ : xg ops os a vs = true) (_ : xr P w os a vs) (_ : xw P ops Q w os a vs), wpList P ops Q os a w
  | [], os, a, _, _, h => by cases os <;> exact h
  | v :: vs, [], a, hg, _, _ => by cases hg
  | none :: vs, o :: os, a, hg, hr, h => by
    unfold xg at hg
    rw [Bool.and_eq_true] at hg
    exact xnot (by simpa using hg.1) (xm vs hg.2 hr h)
  | some v :: vs, o :: os, a, hg, hr, h => by
    unfold xg at hg
    rw [Bool.and_eq_true] at hg
    exact wpList_runW (by simpa using hg.1) v hr.1 (xm vs hg.2 hr.2 h)
theorem p0 (a : Act) (d : Tmp) (v : Value) : a.put (some d) v = { a with tmps := a.tmps.setIfInBounds d v } := rfl
theorem p1 {α : Type} (l : List α) (i : Nat) (a : α) : l.toArray.setIfInBounds i a = (l.set i a).toArray := List.setIfInBounds_toArray ..
theorem p2 {α : Type} (x a : α) (l : List α) : (x :: l).set 0 a = a :: l := rfl
theorem p3 {α : Type} (x a : α) (l : List α) (n : Nat) : (x :: l).set (n + 1) a = x :: l.set n a := rfl
end Go.Proofs.Ytboncdlihgpepaa
