/-
  A region that draws its order, makes one block and ends with late operations: the quiet ones first in the text. A region that draws its order: pure operations taken first, then quiet ones, one block made, late ones behind: one walk serves every order. A region that draws its order: pure operations taken first, then quiet ones, late ones behind: one walk serves every order.
-/
import Derived.Test.YtgjabfjkokpkiaaDoorQ10
namespace Go.Proofs.YtgjabfjkokpkiaaDoor
open Go.RowKit
end Go.Proofs.YtgjabfjkokpkiaaDoor
namespace Go.Proofs.YtgjabfjkokpkiaaDoor
open Go.RowKit
section
variable {P : Program} {ops : Array Oper} {W : World} {Q : Exit → Act → World → Prop}
def wpPure (P : Program) (ops : Array Oper) (E : Act → Prop) : List Oper → Act → Prop
  | [], a => E a
  | o :: r, a => ∃ v, Yields P ops o v a ∧ wpPure P ops E r (a.put o.dst v)
theorem wpPure_nil {E : Act → Prop} {a : Act} (h : E a) : wpPure P ops E [] a := h
theorem wpPure_one {E : Act → Prop} {o : Oper} {r : List Oper} {a : Act} (v : Value) (hw : Region.wanted o (yielded ops a.tmps) = true) (hr : ∀ w, (execOp a.eval o).run P w = .ok (.value v) w) (h : wpPure P ops E r (a.put o.dst v)) : wpPure P ops E (o :: r) a := ⟨v, .inl ⟨hw, hr⟩, h⟩
def takesB (ops : Array Oper) : List Nat → Array Bool → Bool
  | [], _ => true
  | i :: r, L => Region.free .any ops L i && (Region.ready .any ops L).contains i && takesB ops r (L.setIfInBounds i true)
def listAll (fl : List Nat) (L : Array Bool) : Array Bool := fl.foldl (fun L i => L.setIfInBounds i true) L
theorem wpAny_pures (hs : Region.noSelect ops = true) (hQ : ∀ c a t v w, Q (.panic c) (a.put (some t) v) w → Q (.panic c) a w) {w : World} : ∀ (fl : List Nat) (lo : List Oper) (L : Array Bool) (a : Act) (fuel : Nat), fl.map (ops[·]?) = lo.map some → takesB ops fl L = true →
    wpPure P ops (fun a' => wpAny P .any ops Q fuel (listAll fl L) a' w) lo a → wpAny P .any ops Q (fuel + fl.length) L a w
  | [], lo, L, a, fuel, hl, _, h => by
    cases lo with
    | nil => exact h
    | cons _ _ => simp at hl
  | i :: fl, lo, L, a, fuel, hl, ht, h => by
    cases lo with
    | nil => simp at hl
    | cons o lo =>
      simp only [List.map_cons, List.cons.injEq] at hl
      unfold takesB at ht
      simp only [Bool.and_eq_true] at ht
      obtain ⟨v, h1, h2⟩ := h
      have h3 := wpAny_pures hs hQ fl lo (L.setIfInBounds i true) (a.put o.dst v) fuel hl.2 ht.2 h2
      exact wpAny_take (fuel := fuel + fl.length) hl.1 hs ht.1.1 ht.1.2 (fun c a w => by
        cases o.dst with
        | none => exact id
        | some t => exact hQ c a t _ w) h1 h3
def closedB (ops : Array Oper) (L : Array Bool) : Bool := (List.range ops.size).all fun i => match ops[i]? with
  | none => true
  | some o => !L.getD i false || o.after.all fun e => !Region.binds .any e || L.getD e.on false
theorem closedB_spec {L : Array Bool} (h : closedB ops L = true) : Closed ops L := by
  intro i o ho hi e he hb
  unfold closedB at h
  rw [List.all_eq_true] at h
  have h1 := h i (by simpa using (Array.getElem?_eq_some_iff.1 ho).1)
  simp only [ho, hi, Bool.not_true, Bool.false_or] at h1
  rw [Array.all_eq_true_iff_forall_mem] at h1
  have h2 := h1 e he
  simpa [hb] using h2
end
end Go.Proofs.YtgjabfjkokpkiaaDoor
namespace Go.Proofs.YtgjabfjkokpkiaaDoor
open Go.RowKit
section
variable {P : Program} {ops : Array Oper} {W : World} {Q : Exit → Act → World → Prop}
structure LateAt (P : Program) (ops : Array Oper) (W : World) (Q : Exit → Act → World → Prop) (ql ll : List Nat) (lops : List Oper) (L : Array Bool) (A : Act) (w : World) : Prop where
  size : L.size = ops.size
  closed : Closed ops L
  way : ((∀ i ∈ ll, L.getD i false = false) ∧ Ext W w ∧ wpS P ops W (fun A' => ∀ w', Ext W w' → wpList P ops Q lops A' w') (lf L ql) A) ∨
    ((∀ k ∈ ql, L.getD k false = true) ∧ ∃ l1 l2 lo2, ll = l1 ++ l2 ∧ (∀ k ∈ l1, L.getD k false = true) ∧ (∀ k ∈ l2, L.getD k false = false) ∧ l2.map (ops[·]?) = lo2.map some ∧ wpList P ops Q lo2 A w)
end
end Go.Proofs.YtgjabfjkokpkiaaDoor
