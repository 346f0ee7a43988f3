/-
  A law for regions that draw their order and end with stores, in which operations that read what no store of the region writes may stand out till late: v[a], v[b] = f(..). One walk serves every order. A law for regions that draw their order: operations that read what the region never turns float; operations that turn memory, calls among them, stand one behind the other. One walk serves every order.
-/
import Derived.Test.YtiakkclabgelfaaDoorQc20
namespace Go.Proofs.YtiakkclabgelfaaDoor
open Go.RowKit
section
variable {P : Program} {ops : Array Oper} {W : World} {Q : Exit → Act → World → Prop} {C : World → Prop}
def StrC (P : Program) (ops : Array Oper) (C : World → Prop) (o : Oper) (v : Value) (a : Act) : Prop :=
  (Region.wanted o (yielded ops a.tmps) = true ∧ ∀ w, C w → (execOp a.eval o).run P w = .ok (.value v) w) ∨ (Region.wanted o (yielded ops a.tmps) = false ∧ v = undef)
theorem StrC.put {o : Oper} {v u : Value} {a : Act} {d : Option Tmp} (hs : ∀ cs b, o.op ≠ .select cs b) (h : ∀ t, d = some t → t ∉ o.looksAt ops) : StrC P ops C o v (a.put d u) ↔ StrC P ops C o v a := by
  unfold StrC
  rw [execOp_put (ops := ops) o hs a d u h, wanted_put o a d u h]
theorem StrC.wpOp {i : Nat} {o : Oper} {v : Value} {a : Act} {w : World} {K : Act → World → Prop} (hi : ops[i]? = some o) (hC : C w) (hy : StrC P ops C o v a) (hK : K (a.put o.dst v) w) : wpOp P ops Q i K a w := by
  unfold Go.wpOp
  rw [hi]
  rcases hy with ⟨h1, h2⟩ | ⟨h1, rfl⟩
  · simp only [h1, if_true]
    refine .inl ?_
    unfold Oper.wp
    rw [h2 w hC]
    exact hK
  · simp only [h1, Bool.false_eq_true, if_false]
    exact hK
def PlainY (P : Program) (ops : Array Oper) (o : Oper) (v : Value) (w w' : World) (a : Act) : Prop :=
  Region.wanted o (yielded ops a.tmps) = true ∧ ((execOp a.eval o).run P w = .ok (.value v) w' ∨ ((execOp a.eval o).run P w = .ok .skip w' ∧ v = undef))
theorem PlainY.put {o : Oper} {v u : Value} {w w' : World} {a : Act} {d : Option Tmp} (hs : ∀ cs b, o.op ≠ .select cs b) (h : ∀ t, d = some t → t ∉ o.looksAt ops) : PlainY P ops o v w w' (a.put d u) ↔ PlainY P ops o v w w' a := by
  unfold PlainY
  rw [execOp_put (ops := ops) o hs a d u h, wanted_put o a d u h]
theorem PlainY.wpOp {i : Nat} {o : Oper} {v : Value} {a : Act} {w w' : World} {K : Act → World → Prop} (hi : ops[i]? = some o) (hy : PlainY P ops o v w w' a) (hK : K (a.put o.dst v) w') : wpOp P ops Q i K a w := by
  unfold Go.wpOp
  rw [hi]
  obtain ⟨h1, h2⟩ := hy
  simp only [h1, if_true]
  refine .inl ?_
  unfold Oper.wp
  rcases h2 with h2 | ⟨h2, rfl⟩
  · rw [h2]; exact hK
  · rw [h2]; exact hK
def wpF (P : Program) (ops : Array Oper) (C : World → Prop) (E : Act → Prop) : List Nat → Act → Prop
  | [], a => E a
  | i :: r, a => ∃ o v, ops[i]? = some o ∧ StrC P ops C o v a ∧ wpF P ops C E r (a.put o.dst v)
def wpL (P : Program) (ops : Array Oper) (C : World → Prop) (Q : Exit → Act → World → Prop) : List Nat → Act → World → Prop
  | [], a, w => Q .normal a w
  | i :: r, a, w => ∃ o v w', ops[i]? = some o ∧ PlainY P ops o v w w' a ∧ C w' ∧ wpL P ops C Q r (a.put o.dst v) w'
structure FloAt (P : Program) (ops : Array Oper) (W : World) (Q : Exit → Act → World → Prop) (C : World → Prop) (ql fl ll : List Nat) (L : Array Bool) (A : Act) (w : World) : Prop where
  size : L.size = ops.size
  closed : Closed ops L
  way : ((∀ i ∈ ll, L.getD i false = false) ∧ Ext W w ∧ wpS P ops W (fun A' => wpF P ops C (fun A'' => ∀ w', Ext W w' → wpL P ops C Q ll A'' w') (lf L fl) A') (lf L ql) A) ∨
    ((∀ k ∈ ql, L.getD k false = true) ∧ C w ∧ ∃ l1 l2, ll = l1 ++ l2 ∧ (∀ k ∈ l1, L.getD k false = true) ∧ (∀ k ∈ l2, L.getD k false = false) ∧ wpF P ops C (fun A'' => wpL P ops C Q l2 A'' w) (lf L fl) A)
end
end Go.Proofs.YtiakkclabgelfaaDoor
namespace Go.Proofs.YtiakkclabgelfaaDoor
open Go.RowKit
section
variable {P : Program} {ops : Array Oper} {Q : Exit → Act → World → Prop}
def effUpon (P : Program) (R : Value → World → Prop) : Result Next → Prop
  | .ok (.value v) w' => R v w'
  | .ok .skip w' => R undef w'
  | .ok (.enter f args) w' => Calls P f args w' fun e w'' => ∃ v, e = .returned v ∧ R v w''
  | _ => False
def EffY (P : Program) (ops : Array Oper) (o : Oper) (w : World) (R : Value → World → Prop) (a : Act) : Prop :=
  (Region.wanted o (yielded ops a.tmps) = true ∧ effUpon P R ((execOp a.eval o).run P w)) ∨ (Region.wanted o (yielded ops a.tmps) = false ∧ R undef w)
theorem effUpon_mono {R R' : Value → World → Prop} (h : ∀ v w, R v w → R' v w) : ∀ r : Result Next, effUpon P R r → effUpon P R' r
  | .ok (.value _) _, hh => h _ _ hh
  | .ok .skip _, hh => h _ _ hh
  | .ok (.enter _ _) _, hh => Calls.mono hh fun _ _ ⟨v, e, hr⟩ => ⟨v, e, h _ _ hr⟩
theorem EffY.mono {o : Oper} {w : World} {R R' : Value → World → Prop} {a : Act} (h : ∀ v w, R v w → R' v w) (hy : EffY P ops o w R a) : EffY P ops o w R' a := by
  rcases hy with ⟨h1, h2⟩ | ⟨h1, h2⟩
  · exact .inl ⟨h1, effUpon_mono h _ h2⟩
  · exact .inr ⟨h1, h _ _ h2⟩
theorem EffY.put {o : Oper} {w : World} {R : Value → World → Prop} {u : Value} {a : Act} {d : Option Tmp} (hs : ∀ cs b, o.op ≠ .select cs b) (h : ∀ t, d = some t → t ∉ o.looksAt ops) : EffY P ops o w R (a.put d u) ↔ EffY P ops o w R a := by
  unfold EffY
  rw [execOp_put (ops := ops) o hs a d u h, wanted_put o a d u h]
theorem EffY.wpOp {i : Nat} {o : Oper} {a : Act} {w : World} {R : Value → World → Prop} {K : Act → World → Prop} (hi : ops[i]? = some o) (hy : EffY P ops o w R a) (hK : ∀ v w', R v w' → K (a.put o.dst v) w') : wpOp P ops Q i K a w := by
  unfold Go.wpOp
  rw [hi]
  rcases hy with ⟨h1, h2⟩ | ⟨h1, h2⟩
  · simp only [h1, if_true]
    refine .inl ?_
    unfold Oper.wp
    generalize (execOp a.eval o).run P w = r at *
    cases r with
    | ok n w' =>
      cases n <;> simp only [effUpon] at h2 <;> simp only [Oper.upon]
      case value u => exact hK _ _ h2
      case skip => exact hK _ _ h2
      case enter f args => exact h2.mono fun e w'' ⟨v, he, hr⟩ => by subst he; exact hK _ _ hr
    | halt x w' => simp only [effUpon] at h2
  · simp only [h1, Bool.false_eq_true, if_false]
    exact hK _ _ h2
def wpX (P : Program) (ops : Array Oper) (Q : Exit → Act → World → Prop) : List (Bool × Nat) → (World → Prop) → Act → World → Prop
  | [], _, a, w => Q .normal a w
  | (false, i) :: r, C, a, w => ∃ o v, ops[i]? = some o ∧ StrC P ops C o v a ∧ wpX P ops Q r C (a.put o.dst v) w
  | (true, i) :: r, C, a, w => ∃ o, ops[i]? = some o ∧ EffY P ops o w (fun v w' => ∃ C' : World → Prop, (∀ X, C' X → C X) ∧ C' w' ∧ wpX P ops Q r C' (a.put o.dst v) w') a
theorem StrC.mono {C C' : World → Prop} {o : Oper} {v : Value} {a : Act} (hy : StrC P ops C o v a) (h : ∀ X, C' X → C X) : StrC P ops C' o v a := by
  rcases hy with ⟨h1, h2⟩ | h2
  · exact .inl ⟨h1, fun w hw => h2 w (h w hw)⟩
  · exact .inr h2
theorem wpX_float {C : World → Prop} (hsel : ∀ (j : Nat) (o : Oper) cs b, ops[j]? = some o → o.op ≠ .select cs b) {i : Nat} {o : Oper} (hi : ops[i]? = some o) (s2 : List (Bool × Nat)) {w : World} : ∀ (s1 : List (Bool × Nat)) (a : Act), (∀ p ∈ s1, p.1 = false ∧ ∀ ok, ops[p.2]? = some ok → ok.apart ops o = true) →
    wpX P ops Q (s1 ++ (false, i) :: s2) C a w → ∃ v, StrC P ops C o v a ∧ wpX P ops Q (s1 ++ s2) C (a.put o.dst v) w
  | [], a, _, ⟨o', v, h1, h2, h3⟩ => by
    rw [hi] at h1
    injection h1 with h1
    subst h1
    exact ⟨v, h2, h3⟩
  | (true, k) :: s1, a, hap, h => by have := (hap (true, k) List.mem_cons_self).1; cases this
  | (false, k) :: s1, a, hap, ⟨ok, vk, h1, h2, h3⟩ => by
    obtain ⟨p1, p2, p3⟩ := Oper.apart_spec ((hap (false, k) List.mem_cons_self).2 ok h1)
    obtain ⟨v, g1, g2⟩ := wpX_float hsel hi s2 s1 _ (fun k' hk' => hap k' (List.mem_cons_of_mem _ hk')) h3
    refine ⟨v, (StrC.put (fun cs b => hsel i o cs b hi) p1).1 g1, ok, vk, h1, (StrC.put (fun cs b => hsel k ok cs b h1) p3).2 h2, ?_⟩
    rw [← Act.put_comm a vk v p2]
    exact g2
theorem wpX_stand {C : World → Prop} (hsel : ∀ (j : Nat) (o : Oper) cs b, ops[j]? = some o → o.op ≠ .select cs b) {i : Nat} {o : Oper} (hi : ops[i]? = some o) (s2 : List (Bool × Nat)) {w : World} : ∀ (s1 : List (Bool × Nat)) (a : Act), (∀ p ∈ s1, p.1 = false ∧ ∀ ok, ops[p.2]? = some ok → ok.apart ops o = true) →
    wpX P ops Q (s1 ++ (true, i) :: s2) C a w → EffY P ops o w (fun v w' => ∃ C' : World → Prop, (∀ X, C' X → C X) ∧ C' w' ∧ wpX P ops Q (s1 ++ s2) C' (a.put o.dst v) w') a
  | [], a, _, ⟨o', h1, h2⟩ => by
    rw [hi] at h1
    injection h1 with h1
    subst h1
    exact h2
  | (true, k) :: s1, a, hap, h => by have := (hap (true, k) List.mem_cons_self).1; cases this
  | (false, k) :: s1, a, hap, ⟨ok, vk, h1, h2, h3⟩ => by
    obtain ⟨p1, p2, p3⟩ := Oper.apart_spec ((hap (false, k) List.mem_cons_self).2 ok h1)
    have g := wpX_stand hsel hi s2 s1 _ (fun k' hk' => hap k' (List.mem_cons_of_mem _ hk')) h3
    refine EffY.mono (fun v w' ⟨C', c1, c2, c3⟩ => ⟨C', c1, c2, ok, vk, h1, ((StrC.put (fun cs b => hsel k ok cs b h1) p3).2 h2).mono c1, ?_⟩) ((EffY.put (fun cs b => hsel i o cs b hi) p1).1 g)
    rw [← Act.put_comm a vk v p2]
    exact c3
def lfx (L : Array Bool) (l : List (Bool × Nat)) : List (Bool × Nat) := l.filter fun p => !L.getD p.2 true
theorem lfx_split {R : Bool × Nat → Bool × Nat → Prop} {L : Array Bool} {l : List (Bool × Nat)} {p : Bool × Nat} (hn : (l.map (·.2)).Nodup) (hp : l.Pairwise R) (hi : p ∈ l) (hL : L.getD p.2 true = false) :
    ∃ r1 r2, lfx L l = r1 ++ p :: r2 ∧ lfx (L.setIfInBounds p.2 true) l = r1 ++ r2 ∧ ∀ k ∈ r1, R k p ∧ L.getD k.2 true = false := by
  obtain ⟨s, t, rfl⟩ := List.append_of_mem hi
  rw [List.map_append, List.map_cons] at hn
  obtain ⟨_, n2, n3⟩ := List.nodup_append.1 hn
  have n4 := (List.nodup_cons.1 n2).1
  obtain ⟨_, _, q3⟩ := List.pairwise_append.1 hp
  have hne : ∀ k, k ≠ p.2 → (L.setIfInBounds p.2 true).getD k true = L.getD k true := fun k hk => getD_set_ne true (Ne.symm hk)
  have hself : (L.setIfInBounds p.2 true).getD p.2 true = true := by
    unfold Array.getD
    split
    · simp
    · rfl
  refine ⟨s.filter fun k => !L.getD k.2 true, t.filter fun k => !L.getD k.2 true, ?_, ?_, ?_⟩
  · unfold lfx
    rw [List.filter_append, List.filter_cons, if_pos (by simp [hL])]
  · unfold lfx
    rw [List.filter_append, List.filter_cons, if_neg (by simp [hself])]
    congr 1
    · exact List.filter_congr fun k hk => by rw [hne k.2 (n3 k.2 (List.mem_map_of_mem hk) p.2 List.mem_cons_self)]
    · exact List.filter_congr fun k hk => by rw [hne k.2 (fun e => n4 (e ▸ List.mem_map_of_mem hk))]
  · intro k hk
    obtain ⟨hk1, hk2⟩ := List.mem_filter.1 hk
    exact ⟨q3 k hk1 p List.mem_cons_self, by simpa using hk2⟩
def reachA (ops : Array Oper) (k : Nat) : Nat → List Bool
  | 0 => []
  | n + 1 => reachA ops k n ++ [match ops[n]? with
    | some o => o.after.any fun e => Region.binds .any e && (e.on == k || (reachA ops k n).getD e.on false)
    | none => false]
theorem reachA_length (k : Nat) : ∀ n, (reachA ops k n).length = n
  | 0 => rfl
  | n + 1 => by simp [reachA, reachA_length k n]
theorem reachA_listed {L : Array Bool} (hC : Closed ops L) (k : Nat) : ∀ n j, (reachA ops k n).getD j false = true → L.getD j false = true → L.getD k false = true
  | 0, j, h, _ => by simp [reachA] at h
  | n + 1, j, h, hj => by
    by_cases hjn : j < n
    · refine reachA_listed hC k n j ?_ hj
      rw [List.getD_eq_getElem?_getD] at h ⊢
      rwa [reachA, List.getElem?_append_left (by rw [reachA_length]; exact hjn)] at h
    · by_cases hjn2 : j = n
      · subst hjn2
        rw [reachA, List.getD_eq_getElem?_getD, List.getElem?_append_right (by rw [reachA_length]; exact Nat.le_refl _), reachA_length] at h
        simp only [Nat.sub_self, List.getElem?_cons_zero, Option.getD_some] at h
        cases ho : ops[j]? with
        | none => rw [ho] at h; cases h
        | some o =>
          rw [ho] at h
          obtain ⟨e, he, h2⟩ := Array.any_eq_true'.1 h
          simp only [Bool.and_eq_true, Bool.or_eq_true, beq_iff_eq] at h2
          have h3 := hC j o ho hj e he h2.1
          rcases h2.2 with h4 | h4
          · rw [← h4]; exact h3
          · exact reachA_listed hC k j e.on h4 h3
      · rw [List.getD_eq_getElem?_getD, List.getElem?_eq_none (by rw [reachA_length]; omega)] at h
        cases h
def reachB (ops : Array Oper) (j k : Nat) : Bool := match ops[j]? with
  | some o => o.after.any fun e => Region.binds .any e && (e.on == k || (reachA ops k j).getD e.on false)
  | none => false
theorem reachB_listed {L : Array Bool} (hC : Closed ops L) (j k : Nat) (o : Oper) (ho : ops[j]? = some o) (hd : ∀ e ∈ o.after, Region.binds .any e = true → L.getD e.on false = true) (h : reachB ops j k = true) : L.getD k false = true := by
  unfold reachB at h
  rw [ho] at h
  obtain ⟨e, he, h2⟩ := Array.any_eq_true'.1 h
  simp only [Bool.and_eq_true, Bool.or_eq_true, beq_iff_eq] at h2
  have h3 := hd e he h2.1
  rcases h2.2 with h4 | h4
  · rw [← h4]; exact h3
  · exact reachA_listed hC k j e.on h4 h3
def ladB (ops : Array Oper) (p q : Bool × Nat) : Bool := if p.1 then reachB ops q.2 p.2 else edgeB ops p.2 q.2
structure LadAt (P : Program) (ops : Array Oper) (Q : Exit → Act → World → Prop) (l : List (Bool × Nat)) (L : Array Bool) (A : Act) (w : World) : Prop where
  size : L.size = ops.size
  closed : Closed ops L
  way : ∃ C : World → Prop, C w ∧ wpX P ops Q (lfx L l) C A w
theorem wp_region_lad {id : Nat} {a : Act} {w : World} (C : World → Prop) (l : List (Bool × Nat)) (hmo : P.follows .mixedOrders = true) (hB : textB ops = true) (hnd : (l.map (·.2)).Nodup) (hcov : ∀ i ∈ List.range ops.size, i ∈ l.map (·.2)) (hin : ∀ p ∈ l, p.2 < ops.size)
    (hp : l.Pairwise (fun p q => ladB ops p q = true)) (hC : C w.drew) (h : wpX P ops Q l C a w.drew) : (Code.region id ops true).wp P Q a w := by
  obtain ⟨hsel, htx⟩ := textB_spec hB
  refine wp_region_inv (I := fun L A X => LadAt P ops Q l L A X) hmo ?h0 ?hs ?he
  case h0 =>
    have hf0 : ∀ k d, k < ops.size → (Array.replicate ops.size false).getD k d = false := fun k d hk => by unfold Array.getD; simp [hk]
    refine ⟨by simp, ?_, C, hC, ?_⟩
    · intro i o ho hi
      rw [hf0 i _ (Array.getElem?_eq_some_iff.1 ho).1] at hi
      cases hi
    · rw [show lfx (Array.replicate ops.size false) l = l from List.filter_eq_self.2 fun p hpm => by simp [hf0 p.2 true (hin p hpm)]]
      exact h
  case hs =>
    intro L A X i o hI ho hl hdeps
    have hil : i < ops.size := (Array.getElem?_eq_some_iff.1 ho).1
    have hsize : (L.setIfInBounds i true).size = ops.size := by simp [hI.size]
    have hclosed := hI.closed.step ho hdeps
    have hap : ∀ k, edgeB ops k i = true → L.getD k true = false → ∀ ok, ops[k]? = some ok → ok.apart ops o = true := by
      intro k hed hk ok hok
      rcases edgeB_spec ho hok hed with ⟨e, he, hbe, rfl⟩ | h2
      · have h3 := hdeps e he hbe
        rw [getD_flip hk] at h3
        cases h3
      · exact h2
    have hwt : ∀ k, reachB ops i k = true → L.getD k false = true := fun k hk => reachB_listed hI.closed i k o ho hdeps hk
    obtain ⟨p, hpl, rfl⟩ := List.mem_map.1 (hcov i (by simpa using hil))
    obtain ⟨r1, r2, s1, s2, s3⟩ := lfx_split hnd hp hpl hl
    have hr1 : ∀ q ∈ r1, q.1 = false ∧ ∀ ok, ops[q.2]? = some ok → ok.apart ops o = true := by
      intro q hq
      obtain ⟨t1, t2⟩ := s3 q hq
      unfold ladB at t1
      cases hb : q.1 with
      | true =>
        rw [hb, if_pos rfl] at t1
        have := hwt _ t1
        rw [getD_flip t2] at this
        cases this
      | false =>
        rw [hb, if_neg (by simp)] at t1
        exact ⟨rfl, hap q.2 t1 t2⟩
    obtain ⟨C1, hC1, hw⟩ := hI.way
    rw [s1] at hw
    obtain ⟨b, i⟩ := p
    cases b with
    | false =>
      obtain ⟨v, g1, g2⟩ := wpX_float hsel ho r2 r1 A hr1 hw
      exact StrC.wpOp ho hC1 g1 ⟨hsize, hclosed, C1, hC1, by rw [s2]; exact g2⟩
    | true => exact EffY.wpOp ho (wpX_stand hsel ho r2 r1 A hr1 hw) fun v w' ⟨C', c1, c2, c3⟩ => ⟨hsize, hclosed, C', c2, by rw [s2]; exact c3⟩
  case he =>
    intro L A X hI hr
    have hall : ∀ n k, k < n → k < ops.size → L.getD k false = true := by
      intro n
      induction n with
      | zero => intro k hk; omega
      | succ n ih =>
        intro k hk hkn
        cases hv : L.getD k false with
        | true => rfl
        | false =>
          exfalso
          have ho : ops[k]? = some ops[k] := Array.getElem?_eq_getElem hkn
          have hmem : k ∈ Region.ready .any ops L := mem_ready.2 ⟨by rw [← getD_flip' (by rw [hI.size]; omega)]; exact hv, ops[k], ho, fun e he hbe => ih e.on (by have := htx k _ ho e he hbe; omega) (by have := htx k _ ho e he hbe; omega)⟩
          rw [hr] at hmem
          cases hmem
    obtain ⟨C1, hC1, hw⟩ := hI.way
    rw [show lfx L l = [] from List.filter_eq_nil_iff.2 fun p hpm => by
      have := hall (p.2 + 1) p.2 (by omega) (hin p hpm)
      rw [getD_flip' (by rw [hI.size]; exact hin p hpm)] at this
      simp [this]] at hw
    exact hw
theorem wpX_nil {C : World → Prop} {a : Act} {w : World} (h : Q .normal a w) : wpX P ops Q [] C a w := h
theorem wpX_f {C : World → Prop} {a : Act} {w : World} {i : Nat} {r : List (Bool × Nat)} (o : Oper) (v : Value) (ho : ops[i]? = some o) (hw : Region.wanted o (yielded ops a.tmps) = true) (hr : ∀ X, C X → (execOp a.eval o).run P X = .ok (.value v) X) (h : wpX P ops Q r C (a.put o.dst v) w) : wpX P ops Q ((false, i) :: r) C a w := ⟨o, v, ho, .inl ⟨hw, hr⟩, h⟩
theorem wpX_fskip {C : World → Prop} {a : Act} {w : World} {i : Nat} {r : List (Bool × Nat)} (o : Oper) (ho : ops[i]? = some o) (hw : Region.wanted o (yielded ops a.tmps) = false) (h : wpX P ops Q r C (a.put o.dst undef) w) : wpX P ops Q ((false, i) :: r) C a w := ⟨o, undef, ho, .inr ⟨hw, rfl⟩, h⟩
theorem wpX_call {C : World → Prop} {a : Act} {w : World} {i : Nat} {r : List (Bool × Nat)} (o : Oper) {f : FuncId} {args : Array Value} (ho : ops[i]? = some o) (hw : Region.wanted o (yielded ops a.tmps) = true) (hr : (execOp a.eval o).run P w = .ok (.enter f args) w)
    (hc : Calls P f args w fun e w' => ∃ v, e = .returned v ∧ ∃ C' : World → Prop, (∀ X, C' X → C X) ∧ C' w' ∧ wpX P ops Q r C' (a.put o.dst v) w') : wpX P ops Q ((true, i) :: r) C a w := ⟨o, ho, .inl ⟨hw, by rw [hr]; exact hc⟩⟩
theorem wpX_to {C : World → Prop} {a : Act} {w : World} {i : Nat} {r : List (Bool × Nat)} (o : Oper) (v : Value) (w' : World) (ho : ops[i]? = some o) (hw : Region.wanted o (yielded ops a.tmps) = true) (hr : (execOp a.eval o).run P w = .ok (.value v) w') (C' : World → Prop) (h1 : ∀ X, C' X → C X) (h2 : C' w') (h : wpX P ops Q r C' (a.put o.dst v) w') : wpX P ops Q ((true, i) :: r) C a w := ⟨o, ho, .inl ⟨hw, by rw [hr]; exact ⟨C', h1, h2, h⟩⟩⟩
theorem wpX_st {C : World → Prop} {a : Act} {w : World} {i : Nat} {r : List (Bool × Nat)} (o : Oper) (w' : World) (ho : ops[i]? = some o) (hw : Region.wanted o (yielded ops a.tmps) = true) (hr : (execOp a.eval o).run P w = .ok .skip w') (C' : World → Prop) (h1 : ∀ X, C' X → C X) (h2 : C' w') (h : wpX P ops Q r C' (a.put o.dst undef) w') : wpX P ops Q ((true, i) :: r) C a w := ⟨o, ho, .inl ⟨hw, by rw [hr]; exact ⟨C', h1, h2, h⟩⟩⟩
end
end Go.Proofs.YtiakkclabgelfaaDoor
