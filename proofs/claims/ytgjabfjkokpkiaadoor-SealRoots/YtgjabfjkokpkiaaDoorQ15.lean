/-
  A law for regions that draw their order and end with stores, in which operations that read what no store of the region writes may stand out till late: v[a], v[b] = f(..). One walk serves every order. A law for regions that draw their order: operations that read what the region never turns float; operations that turn memory, calls among them, stand one behind the other. One walk serves every order. Parts of rows; when arrays of bytes within structs are the same; no word of the program.
-/
import Derived.Test.YtgjabfjkokpkiaaDoorQ10
import Derived.Test.YtgjabfjkokpkiaaDoorQ7
namespace Go.Proofs.YtgjabfjkokpkiaaDoor
open Go.RowKit
section
variable {P : Program} {ops : Array Oper} {W : World} {Q : Exit → Act → World → Prop} {C : World → Prop}
def StrC (P : Program) (ops : Array Oper) (C : World → Prop) (o : Oper) (v : Value) (a : Act) : Prop :=
  (Region.wanted o (yielded ops a.tmps) = true ∧ ∀ w, C w → (execOp a.eval o).run P w = .ok (.value v) w) ∨ (Region.wanted o (yielded ops a.tmps) = false ∧ v = undef)
theorem StrC.put {o : Oper} {v u : Value} {a : Act} {d : Option Tmp} (hs : ∀ cs b, o.op ≠ .select cs b) (h : ∀ t, d = some t → t ∉ o.looksAt ops) : StrC P ops C o v (a.put d u) ↔ StrC P ops C o v a := by
  unfold StrC
  rw [execOp_put (ops := ops) o hs a d u h, wanted_put o a d u h]
theorem StrC.wpOp {i : Nat} {o : Oper} {v : Value} {a : Act} {w : World} {K : Act → World → Prop} (hi : ops[i]? = some o) (hC : C w) (hy : StrC P ops C o v a) (hK : K (a.put o.dst v) w) : wpOp P ops Q i K a w := by
  unfold Go.wpOp
  rw [hi]
  rcases hy with ⟨h1, h2⟩ | ⟨h1, rfl⟩
  · simp only [h1, if_true]
    refine .inl ?_
    unfold Oper.wp
    rw [h2 w hC]
    exact hK
  · simp only [h1, Bool.false_eq_true, if_false]
    exact hK
def PlainY (P : Program) (ops : Array Oper) (o : Oper) (v : Value) (w w' : World) (a : Act) : Prop :=
  Region.wanted o (yielded ops a.tmps) = true ∧ ((execOp a.eval o).run P w = .ok (.value v) w' ∨ ((execOp a.eval o).run P w = .ok .skip w' ∧ v = undef))
theorem PlainY.put {o : Oper} {v u : Value} {w w' : World} {a : Act} {d : Option Tmp} (hs : ∀ cs b, o.op ≠ .select cs b) (h : ∀ t, d = some t → t ∉ o.looksAt ops) : PlainY P ops o v w w' (a.put d u) ↔ PlainY P ops o v w w' a := by
  unfold PlainY
  rw [execOp_put (ops := ops) o hs a d u h, wanted_put o a d u h]
theorem PlainY.wpOp {i : Nat} {o : Oper} {v : Value} {a : Act} {w w' : World} {K : Act → World → Prop} (hi : ops[i]? = some o) (hy : PlainY P ops o v w w' a) (hK : K (a.put o.dst v) w') : wpOp P ops Q i K a w := by
  unfold Go.wpOp
  rw [hi]
  obtain ⟨h1, h2⟩ := hy
  simp only [h1, if_true]
  refine .inl ?_
  unfold Oper.wp
  rcases h2 with h2 | ⟨h2, rfl⟩
  · rw [h2]; exact hK
  · rw [h2]; exact hK
def wpF (P : Program) (ops : Array Oper) (C : World → Prop) (E : Act → Prop) : List Nat → Act → Prop
  | [], a => E a
  | i :: r, a => ∃ o v, ops[i]? = some o ∧ StrC P ops C o v a ∧ wpF P ops C E r (a.put o.dst v)
def wpL (P : Program) (ops : Array Oper) (C : World → Prop) (Q : Exit → Act → World → Prop) : List Nat → Act → World → Prop
  | [], a, w => Q .normal a w
  | i :: r, a, w => ∃ o v w', ops[i]? = some o ∧ PlainY P ops o v w w' a ∧ C w' ∧ wpL P ops C Q r (a.put o.dst v) w'
structure FloAt (P : Program) (ops : Array Oper) (W : World) (Q : Exit → Act → World → Prop) (C : World → Prop) (ql fl ll : List Nat) (L : Array Bool) (A : Act) (w : World) : Prop where
  size : L.size = ops.size
  closed : Closed ops L
  way : ((∀ i ∈ ll, L.getD i false = false) ∧ Ext W w ∧ wpS P ops W (fun A' => wpF P ops C (fun A'' => ∀ w', Ext W w' → wpL P ops C Q ll A'' w') (lf L fl) A') (lf L ql) A) ∨
    ((∀ k ∈ ql, L.getD k false = true) ∧ C w ∧ ∃ l1 l2, ll = l1 ++ l2 ∧ (∀ k ∈ l1, L.getD k false = true) ∧ (∀ k ∈ l2, L.getD k false = false) ∧ wpF P ops C (fun A'' => wpL P ops C Q l2 A'' w) (lf L fl) A)
end
end Go.Proofs.YtgjabfjkokpkiaaDoor
namespace Go.Proofs.YtgjabfjkokpkiaaDoor
open Go.RowKit
section
variable {P : Program} {ops : Array Oper} {Q : Exit → Act → World → Prop}
def effUpon (P : Program) (R : Value → World → Prop) : Result Next → Prop
  | .ok (.value v) w' => R v w'
  | .ok .skip w' => R undef w'
  | .ok (.enter f args) w' => Calls P f args w' fun e w'' => ∃ v, e = .returned v ∧ R v w''
  | _ => False
def EffY (P : Program) (ops : Array Oper) (o : Oper) (w : World) (R : Value → World → Prop) (a : Act) : Prop :=
  (Region.wanted o (yielded ops a.tmps) = true ∧ effUpon P R ((execOp a.eval o).run P w)) ∨ (Region.wanted o (yielded ops a.tmps) = false ∧ R undef w)
theorem effUpon_mono {R R' : Value → World → Prop} (h : ∀ v w, R v w → R' v w) : ∀ r : Result Next, effUpon P R r → effUpon P R' r
  | .ok (.value _) _, hh => h _ _ hh
  | .ok .skip _, hh => h _ _ hh
  | .ok (.enter _ _) _, hh => Calls.mono hh fun _ _ ⟨v, e, hr⟩ => ⟨v, e, h _ _ hr⟩
theorem EffY.mono {o : Oper} {w : World} {R R' : Value → World → Prop} {a : Act} (h : ∀ v w, R v w → R' v w) (hy : EffY P ops o w R a) : EffY P ops o w R' a := by
  rcases hy with ⟨h1, h2⟩ | ⟨h1, h2⟩
  · exact .inl ⟨h1, effUpon_mono h _ h2⟩
  · exact .inr ⟨h1, h _ _ h2⟩
theorem EffY.put {o : Oper} {w : World} {R : Value → World → Prop} {u : Value} {a : Act} {d : Option Tmp} (hs : ∀ cs b, o.op ≠ .select cs b) (h : ∀ t, d = some t → t ∉ o.looksAt ops) : EffY P ops o w R (a.put d u) ↔ EffY P ops o w R a := by
  unfold EffY
  rw [execOp_put (ops := ops) o hs a d u h, wanted_put o a d u h]
theorem EffY.wpOp {i : Nat} {o : Oper} {a : Act} {w : World} {R : Value → World → Prop} {K : Act → World → Prop} (hi : ops[i]? = some o) (hy : EffY P ops o w R a) (hK : ∀ v w', R v w' → K (a.put o.dst v) w') : wpOp P ops Q i K a w := by
  unfold Go.wpOp
  rw [hi]
  rcases hy with ⟨h1, h2⟩ | ⟨h1, h2⟩
  · simp only [h1, if_true]
    refine .inl ?_
    unfold Oper.wp
    generalize (execOp a.eval o).run P w = r at *
    cases r with
    | ok n w' =>
      cases n <;> simp only [effUpon] at h2 <;> simp only [Oper.upon]
      case value u => exact hK _ _ h2
      case skip => exact hK _ _ h2
      case enter f args => exact h2.mono fun e w'' ⟨v, he, hr⟩ => by subst he; exact hK _ _ hr
    | halt x w' => simp only [effUpon] at h2
  · simp only [h1, Bool.false_eq_true, if_false]
    exact hK _ _ h2
def wpX (P : Program) (ops : Array Oper) (Q : Exit → Act → World → Prop) : List (Bool × Nat) → (World → Prop) → Act → World → Prop
  | [], _, a, w => Q .normal a w
  | (false, i) :: r, C, a, w => ∃ o v, ops[i]? = some o ∧ StrC P ops C o v a ∧ wpX P ops Q r C (a.put o.dst v) w
  | (true, i) :: r, C, a, w => ∃ o, ops[i]? = some o ∧ EffY P ops o w (fun v w' => ∃ C' : World → Prop, (∀ X, C' X → C X) ∧ C' w' ∧ wpX P ops Q r C' (a.put o.dst v) w') a
theorem StrC.mono {C C' : World → Prop} {o : Oper} {v : Value} {a : Act} (hy : StrC P ops C o v a) (h : ∀ X, C' X → C X) : StrC P ops C' o v a := by
  rcases hy with ⟨h1, h2⟩ | h2
  · exact .inl ⟨h1, fun w hw => h2 w (h w hw)⟩
  · exact .inr h2
def lfx (L : Array Bool) (l : List (Bool × Nat)) : List (Bool × Nat) := l.filter fun p => !L.getD p.2 true
theorem lfx_split {R : Bool × Nat → Bool × Nat → Prop} {L : Array Bool} {l : List (Bool × Nat)} {p : Bool × Nat} (hn : (l.map (·.2)).Nodup) (hp : l.Pairwise R) (hi : p ∈ l) (hL : L.getD p.2 true = false) :
    ∃ r1 r2, lfx L l = r1 ++ p :: r2 ∧ lfx (L.setIfInBounds p.2 true) l = r1 ++ r2 ∧ ∀ k ∈ r1, R k p ∧ L.getD k.2 true = false := by
  obtain ⟨s, t, rfl⟩ := List.append_of_mem hi
  rw [List.map_append, List.map_cons] at hn
  obtain ⟨_, n2, n3⟩ := List.nodup_append.1 hn
  have n4 := (List.nodup_cons.1 n2).1
  obtain ⟨_, _, q3⟩ := List.pairwise_append.1 hp
  have hne : ∀ k, k ≠ p.2 → (L.setIfInBounds p.2 true).getD k true = L.getD k true := fun k hk => getD_set_ne true (Ne.symm hk)
  have hself : (L.setIfInBounds p.2 true).getD p.2 true = true := by
    unfold Array.getD
    split
    · simp
    · rfl
  refine ⟨s.filter fun k => !L.getD k.2 true, t.filter fun k => !L.getD k.2 true, ?_, ?_, ?_⟩
  · unfold lfx
    rw [List.filter_append, List.filter_cons, if_pos (by simp [hL])]
  · unfold lfx
    rw [List.filter_append, List.filter_cons, if_neg (by simp [hself])]
    congr 1
    · exact List.filter_congr fun k hk => by rw [hne k.2 (n3 k.2 (List.mem_map_of_mem hk) p.2 List.mem_cons_self)]
    · exact List.filter_congr fun k hk => by rw [hne k.2 (fun e => n4 (e ▸ List.mem_map_of_mem hk))]
  · intro k hk
    obtain ⟨hk1, hk2⟩ := List.mem_filter.1 hk
    exact ⟨q3 k hk1 p List.mem_cons_self, by simpa using hk2⟩
def reachA (ops : Array Oper) (k : Nat) : Nat → List Bool
  | 0 => []
  | n + 1 => reachA ops k n ++ [match ops[n]? with
    | some o => o.after.any fun e => Region.binds .any e && (e.on == k || (reachA ops k n).getD e.on false)
    | none => false]
theorem reachA_length (k : Nat) : ∀ n, (reachA ops k n).length = n
  | 0 => rfl
  | n + 1 => by simp [reachA, reachA_length k n]
theorem reachA_listed {L : Array Bool} (hC : Closed ops L) (k : Nat) : ∀ n j, (reachA ops k n).getD j false = true → L.getD j false = true → L.getD k false = true
  | 0, j, h, _ => by simp [reachA] at h
  | n + 1, j, h, hj => by
    by_cases hjn : j < n
    · refine reachA_listed hC k n j ?_ hj
      rw [List.getD_eq_getElem?_getD] at h ⊢
      rwa [reachA, List.getElem?_append_left (by rw [reachA_length]; exact hjn)] at h
    · by_cases hjn2 : j = n
      · subst hjn2
        rw [reachA, List.getD_eq_getElem?_getD, List.getElem?_append_right (by rw [reachA_length]; exact Nat.le_refl _), reachA_length] at h
        simp only [Nat.sub_self, List.getElem?_cons_zero, Option.getD_some] at h
        cases ho : ops[j]? with
        | none => rw [ho] at h; cases h
        | some o =>
          rw [ho] at h
          obtain ⟨e, he, h2⟩ := Array.any_eq_true'.1 h
          simp only [Bool.and_eq_true, Bool.or_eq_true, beq_iff_eq] at h2
          have h3 := hC j o ho hj e he h2.1
          rcases h2.2 with h4 | h4
          · rw [← h4]; exact h3
          · exact reachA_listed hC k j e.on h4 h3
      · rw [List.getD_eq_getElem?_getD, List.getElem?_eq_none (by rw [reachA_length]; omega)] at h
        cases h
def reachB (ops : Array Oper) (j k : Nat) : Bool := match ops[j]? with
  | some o => o.after.any fun e => Region.binds .any e && (e.on == k || (reachA ops k j).getD e.on false)
  | none => false
theorem reachB_listed {L : Array Bool} (hC : Closed ops L) (j k : Nat) (o : Oper) (ho : ops[j]? = some o) (hd : ∀ e ∈ o.after, Region.binds .any e = true → L.getD e.on false = true) (h : reachB ops j k = true) : L.getD k false = true := by
  unfold reachB at h
  rw [ho] at h
  obtain ⟨e, he, h2⟩ := Array.any_eq_true'.1 h
  simp only [Bool.and_eq_true, Bool.or_eq_true, beq_iff_eq] at h2
  have h3 := hd e he h2.1
  rcases h2.2 with h4 | h4
  · rw [← h4]; exact h3
  · exact reachA_listed hC k j e.on h4 h3
def ladB (ops : Array Oper) (p q : Bool × Nat) : Bool := if p.1 then reachB ops q.2 p.2 else edgeB ops p.2 q.2
structure LadAt (P : Program) (ops : Array Oper) (Q : Exit → Act → World → Prop) (l : List (Bool × Nat)) (L : Array Bool) (A : Act) (w : World) : Prop where
  size : L.size = ops.size
  closed : Closed ops L
  way : ∃ C : World → Prop, C w ∧ wpX P ops Q (lfx L l) C A w
end
end Go.Proofs.YtgjabfjkokpkiaaDoor
namespace Go.Proofs.YtgjabfjkokpkiaaDoor
open Go.RowKit Go.BigFrame
section
variable {P : Program}
theorem row_extract (n m off : Nat) (g : Nat → Value) (h : off + m ≤ n) : (row n g).toArray.extract off (off + m) = (row m fun j => g (off + j)).toArray := by
  apply Array.ext
  · simp [row_length]; omega
  · intro i h1 h2
    simp [row]
theorem part_arr {t : TypeId} {n m off : Nat} {g : Nat → Value} {w : World} (ha : (isAgg t).run P w = .ok true w) (hs : (sizeOf t).run P w = .ok m w) (h : off + m ≤ n) :
    (part t (row n g).toArray off).run P w = .ok (.agg (row m fun j => g (off + j)).toArray) w := by
  unfold part
  simp only [Sem.run_bind, ha, hs, Result.andThen_ok, if_true, Sem.run_pure, row_extract n m off g h]
theorem part_one {t : TypeId} {n off : Nat} {g : Nat → Value} {w : World} (ha : (isAgg t).run P w = .ok false w) (h : off < n) :
    (part t (row n g).toArray off).run P w = .ok (g off) w := by
  unfold part
  have hg : (row n g).toArray[off]? = some (g off) := by rw [List.getElem?_toArray]; exact row_get n g off h
  simp only [Sem.run_bind, ha, Result.andThen_ok, Bool.false_eq_true, if_false, hg, Sem.run_pure]
theorem equalIn_row (d : Nat) (t e : TypeId) (n : Nat) (k : IntKind) (ht : P.underlying t = some (.array n e)) (he : P.underlying e = some (.int k)) (hsz : ∀ w, (sizeOf e).run P w = .ok 1 w) (z z' : Nat → Int) (w : World) :
    (Op.equalIn (d + 2) t (.agg (row n fun j => .int k (z j)).toArray) (.agg (row n fun j => .int k (z' j)).toArray)).run P w = .ok ((List.range n).all fun j => z j == z' j) w := by
  rw [List.range_eq_range', Op.equalIn]
  simp only [Sem.run_bind, run_underlying ht, Result.andThen_ok, hsz, Std.Legacy.Range.forIn_eq_forIn_range', Std.Legacy.Range.size, Nat.sub_zero, Nat.add_sub_cancel, Nat.div_one]
  have hl : ∀ i ∈ List.range' 0 n 1, i < n := fun i hi => by simpa using (List.mem_range'_1.1 hi).2
  generalize List.range' 0 n 1 = l at hl ⊢
  induction l with
  | nil => simp
  | cons i l ih =>
    have hi : i < n := hl i (by simp)
    have px : (part e (row n fun j => .int k (z j)).toArray (i * 1)).run P w = .ok (.int k (z i)) w := by
      simp [part, isAgg, run_underlying he, row_get n (fun j => Value.int k (z j)) i hi]
    have py : (part e (row n fun j => .int k (z' j)).toArray (i * 1)).run P w = .ok (.int k (z' i)) w := by
      simp [part, isAgg, run_underlying he, row_get n (fun j => Value.int k (z' j)) i hi]
    have pe : (Op.equalIn (d + 1) e (.int k (z i)) (.int k (z' i))).run P w = .ok (z i == z' i) w := run_equalIn_int w d e k k _ _ he
    simp only [List.forIn_cons, Sem.run_bind, px, py, pe, Result.andThen_ok, List.all_cons]
    cases hb : (z i == z' i)
    · simp
    · simp only [Bool.not_true, Bool.false_eq_true, if_false, Sem.run_pure, Result.andThen_ok, Bool.true_and]
      exact ih fun j hj => hl j (by simp [hj])
theorem eqFields_cons (d : Nat) (xs ys : Array Value) (f : Field) (fs : List Field) (x y : Value) (r s : Bool) (w : World) (hn : f.name ≠ "_") (hx : (part f.type xs f.offset).run P w = .ok x w) (hy : (part f.type ys f.offset).run P w = .ok y w)
    (hr : (Op.equalIn d f.type x y).run P w = .ok r w) (hs : (Op.eqFields d xs ys fs).run P w = .ok s w) : (Op.eqFields d xs ys (f :: fs)).run P w = .ok (r && s) w := by
  rw [Op.eqFields, if_pos hn]
  simp only [Sem.run_bind, hx, hy, hr, Result.andThen_ok]
  cases r
  · simp
  · simp only [Bool.not_true, Bool.false_eq_true, if_false, Bool.true_and]
    exact hs
theorem eqFields_nil (d : Nat) (xs ys : Array Value) (w : World) : (Op.eqFields d xs ys []).run P w = .ok true w := by
  rw [Op.eqFields]; rfl
end
theorem all_iff (n : Nat) (f g : Nat → BitVec 8) : ((List.range n).all fun j => ((f j).toNat : Int) == ((g j).toNat : Int)) = decide (∀ j, j < n → f j = g j) := by
  rw [Bool.eq_iff_iff, List.all_eq_true, decide_eq_true_iff]
  constructor
  · intro h j hj
    have := h j (by simpa using hj)
    rw [beq_iff_eq] at this
    exact BitVec.eq_of_toNat_eq (by omega)
  · intro h j hj
    rw [h j (by simpa using hj)]
    exact beq_self_eq_true _
end Go.Proofs.YtgjabfjkokpkiaaDoor
