/-
  Slices of the call's own whose elements have one cell and any number of bytes: append to them; zeros behind nil; no word of the program. A law for regions that draw their order, in which one block is made: operations that only read and calls stand anywhere, the block's value and content hang on the frame, the late operations behind them all.
-/
import Derived.Test.YtiakkclabgelfaaDoorQc11
import Derived.Test.YtiakkclabgelfaaDoorQc3
namespace Go.Proofs.YtiakkclabgelfaaDoor
open Go.RowKit Go.BigFrame
structure ElemB (P : Program) (t e : TypeId) (B : Nat) : Prop where
  slice : P.underlying t = some (.slice e)
  info : ∃ i z, P.info? e = some i ∧ i.zero = some z ∧ i.size = 1 ∧ i.bytes = B ∧ z.cells.size = 1
theorem elem_b {P : Program} {t e : TypeId} {B : Nat} (hs : P.underlying t = some (.slice e)) (h1 : (P.info? e).map (·.size) = some 1) (h2 : (P.info? e).map (·.bytes) = some B) (h3 : ((P.info? e).bind (·.zero)).map (·.cells.size) = some 1) : ElemB P t e B := by
  refine ⟨hs, ?_⟩
  cases hi : P.info? e with
  | none => rw [hi] at h1; cases h1
  | some i =>
    rw [hi] at h1 h2 h3
    simp only [Option.map_some, Option.some.injEq, Option.bind_some] at h1 h2 h3
    cases hz : i.zero with
    | none => rw [hz] at h3; cases h3
    | some z =>
      rw [hz] at h3
      simp only [Option.map_some, Option.some.injEq] at h3
      exact ⟨i, z, rfl, hz, h1, h2, h3⟩
section
variable {base : Nat} {e : TypeId} {v : Value} {n B : Nat} {g g' : Nat → Value} {w w' : World}
theorem wpList_growE {P : Program} {ops : Array Oper} {rest : List Oper} {o : Oper} {a : Act} {Q : Exit → Act → World → Prop} {t : TypeId} (E : ElemB P t e B) (hgd : o.guard = none) (s x : Operand)
    (ho : o.op = .call { callee := .builtin .append, args := #[s, x], argTypes := #[t, t] }) (hs : a.eval s = v) (hown : OwnB base e v n g w)
    (ad : Addr) (m c : Nat) (u f : Nat → Value) (hx : a.eval x = .slice (some ad) m c) (hl : LieAt ad m u w) (h1 : ∀ j, j < m → (u j).oneCell' = true) (hf1 : ∀ j, j < n → g j = f j) (hf2 : ∀ j, j < m → u j = f (n + j))
    (hbytes : (n + m) * B ≤ 140737488355328) (h63 : n + m ≤ 140737488355328) (hbase : base ≤ w.heap.size)
    (h : ∀ v' w', OwnB base e v' (n + m) f w' → w.grownBy w' v.ownBlock → wpList P ops Q rest (a.put o.dst v') w') : wpList P ops Q (o :: rest) a w := by
  obtain ⟨i, z, e1, e2, e3, e4, e5⟩ := E.info
  refine wpList_append_own w hgd s x t ho base e i z 1 B E.slice e1 e2 e3 e4 e5 (by decide) v n (row n g) hs hown ad m c (row m u) hx (by rw [row_length]; omega) (fun j w0 hj => ?_) (fun w0 hw0 => ?_) (by unfold maxLen; omega) hbytes hbase fun v' w' h2 h3 _ => h v' w' ?_ h3
  · obtain ⟨hj', rfl⟩ := row_some hj
    exact hl.1 j hj'
  · obtain ⟨j, hj, rfl⟩ := List.mem_map.1 hw0
    exact h1 j (by simpa using hj)
  · unfold OwnB
    rwa [row_append n m g u f hf1 hf2] at h2
end
theorem wpList_appN {P : Program} {ops : Array Oper} {rest : List Oper} {o : Oper} {a : Act} {w : World} {Q : Exit → Act → World → Prop} (hgd : o.guard = none) (s x : Operand) (t u : TypeId) (ho : o.op = .call { callee := .builtin .append, args := #[s, x], argTypes := #[t, u] })
    (v y v' : Value) (w' : World) (hs : a.eval s = v) (hx : a.eval x = y) (hr : (Builtin.append_ #[t, u] o.type #[v, y]).run P w = .ok v' w') (h : wpList P ops Q rest (a.put o.dst v') w') : wpList P ops Q (o :: rest) a w := by
  refine wpList_plain hgd fun K hK => ?_
  unfold Oper.wp execOp
  simp only [ho, resolve, invoke, builtin, Sem.run_bind, Sem.run_pure, Result.andThen_ok, List.map_toArray, List.map_cons, List.map_nil, hs, hx, hr]
  exact hK _ _ h
end Go.Proofs.YtiakkclabgelfaaDoor
namespace Go.Proofs.YtiakkclabgelfaaDoor
open Go.RowKit
section
variable {P : Program} {ops : Array Oper} {W : World} {Q : Exit → Act → World → Prop}
def StrongM (P : Program) (ops : Array Oper) (W : World) (o : Oper) (n : Nat) (g : Nat → Value) (vf : Nat → Value) (a : Act) : Prop :=
  Region.wanted o (yielded ops a.tmps) = true ∧ ∀ w, Ext W w → ∃ C t, (execOp a.eval o).run P w = .ok (.value (vf w.heap.size)) (w.alloc (.cells C t)) ∧ ∀ j, j < n → C[j]? = some (g j)
theorem StrongM.put {o : Oper} {n : Nat} {g vf : Nat → Value} {u : Value} {a : Act} {d : Option Tmp} (hs : ∀ cs b, o.op ≠ .select cs b) (h : ∀ t, d = some t → t ∉ o.looksAt ops) : StrongM P ops W o n g vf (a.put d u) ↔ StrongM P ops W o n g vf a := by
  unfold StrongM
  rw [execOp_put (ops := ops) o hs a d u h, wanted_put o a d u h]
def MK (P : Program) (ops : Array Oper) (W : World) (Q : Exit → Act → World → Prop) (om : Oper) (lops : List Oper) (A : Act) : Prop :=
  ∃ n g vf, StrongM P ops W om n g vf A ∧ ∀ b w', W.heap.size ≤ b → Ext W w' → RowAt b n g w' → wpList P ops Q lops (A.put om.dst (vf b)) w'
def After (P : Program) (ops : Array Oper) (W : World) (Q : Exit → Act → World → Prop) (lops : List Oper) (b n : Nat) (g : Nat → Value) (A : Act) : Prop := ∀ w', Ext W w' → RowAt b n g w' → wpList P ops Q lops A w'
def lf (L : Array Bool) (l : List Nat) : List Nat := l.filter fun k => !L.getD k true
def edgeB (ops : Array Oper) (k j : Nat) : Bool := match ops[j]?, ops[k]? with
  | some o, some ok => o.after.any (fun e => Region.binds .any e && e.on == k) || ok.apart ops o
  | _, _ => false
theorem edgeB_spec {k j : Nat} {o ok : Oper} (hj : ops[j]? = some o) (hk : ops[k]? = some ok) (h : edgeB ops k j = true) : (∃ e ∈ o.after, Region.binds .any e = true ∧ e.on = k) ∨ ok.apart ops o = true := by
  unfold edgeB at h
  rw [hj, hk] at h
  simp only [Bool.or_eq_true] at h
  rcases h with h2 | h2
  · obtain ⟨e, he, h3⟩ := Array.any_eq_true'.1 h2
    simp only [Bool.and_eq_true, beq_iff_eq] at h3
    exact .inl ⟨e, he, h3.1, h3.2⟩
  · exact .inr h2
def textB (ops : Array Oper) : Bool := Region.noSelect ops && (List.range ops.size).all fun j => match ops[j]? with
  | none => false
  | some o => o.after.all (fun e => !Region.binds .any e || decide (e.on < j))
theorem textB_spec (h : textB ops = true) : (∀ (j : Nat) (o : Oper) cs b, ops[j]? = some o → o.op ≠ .select cs b) ∧ ∀ j o, ops[j]? = some o → ∀ e ∈ o.after, Region.binds .any e = true → e.on < j := by
  unfold textB at h
  rw [Bool.and_eq_true] at h
  refine ⟨Region.noSelect_spec h.1, fun j o ho e he hb => ?_⟩
  have hj : j < ops.size := (Array.getElem?_eq_some_iff.1 ho).1
  have h1 := List.all_eq_true.1 h.2 j (List.mem_range.2 hj)
  rw [ho] at h1
  have := Array.all_eq_true'.1 h1 e he
  simpa [hb] using this
structure MixAt' (P : Program) (ops : Array Oper) (W : World) (Q : Exit → Act → World → Prop) (ql : List Nat) (m : Nat) (om : Oper) (ll : List Nat) (lops : List Oper) (L : Array Bool) (A : Act) (w : World) : Prop where
  size : L.size = ops.size
  closed : Closed ops L
  way : (L.getD m false = false ∧ (∀ i ∈ ll, L.getD i false = false) ∧ Ext W w ∧ wpS P ops W (MK P ops W Q om lops) (lf L ql) A) ∨
    (L.getD m false = true ∧ (∀ i ∈ ll, L.getD i false = false) ∧ ∃ b n g, Ext W w ∧ RowAt b n g w ∧ wpS P ops W (After P ops W Q lops b n g) (lf L ql) A) ∨
    (L.getD m false = true ∧ (∀ k ∈ ql, L.getD k false = true) ∧ ∃ l1 l2 lo2, ll = l1 ++ l2 ∧ (∀ k ∈ l1, L.getD k false = true) ∧ (∀ k ∈ l2, L.getD k false = false) ∧ l2.map (ops[·]?) = lo2.map some ∧ wpList P ops Q lo2 A w)
theorem StrongM.wpOp {i : Nat} {o : Oper} {n : Nat} {g vf : Nat → Value} {a : Act} {w : World} {K : Act → World → Prop} (hi : ops[i]? = some o) (hw : Ext W w) (hy : StrongM P ops W o n g vf a)
    (hK : ∀ w', Ext w w' → RowAt w.heap.size n g w' → K (a.put o.dst (vf w.heap.size)) w') : wpOp P ops Q i K a w := by
  obtain ⟨h1, h2⟩ := hy
  obtain ⟨C, t, h3, h4⟩ := h2 w hw
  unfold Go.wpOp
  rw [hi]
  simp only [h1, if_true]
  refine .inl ?_
  unfold Oper.wp
  rw [h3]
  simp only [Oper.upon]
  exact hK _ ((Below.refl _ _).alloc (Nat.le_refl _) _) (RowAt.newOf w n g t C h4)
end
end Go.Proofs.YtiakkclabgelfaaDoor
