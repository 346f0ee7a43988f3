/-
  A law for regions that draw their order: operations that read what the region never turns float; operations that turn memory, calls among them, stand one behind the other. One walk serves every order. The document's units.
-/
import Derived.Test.YtkoodgfadedeoaaQ36
import Derived.Test.YtkoodgfadedeoaaQ34
import Derived.Test.YtkoodgfadedeoaaQ35
import Derived.OrdersHeld
import Derived.Test.YtkoodgfadedeoaaQ22
import Derived.Test.YtkoodgfadedeoaaQ25
namespace Go.Proofs.Ytkoodgfadedeoaa
open Go.RowKit
section
variable {P : Program} {ops : Array Oper} {Q : Exit → Act → World → Prop}
def effUpon (P : Program) (R : Value → World → Prop) : Result Next → Prop
  | .ok (.value v) w' => R v w'
  | .ok .skip w' => R undef w'
  | .ok (.enter f args) w' => Calls P f args w' fun e w'' => ∃ v, e = .returned v ∧ R v w''
  | _ => False
/-- what an operation does in a frame, in one world -/
def EffY (P : Program) (ops : Array Oper) (o : Oper) (w : World) (R : Value → World → Prop) (a : Act) : Prop :=
  (Region.wanted o (yielded ops a.tmps) = true ∧ effUpon P R ((execOp a.eval o).run P w)) ∨ (Region.wanted o (yielded ops a.tmps) = false ∧ R undef w)
theorem effUpon_mono {R R' : Value → World → Prop} (h : ∀ v w, R v w → R' v w) : ∀ r : Result Next, effUpon P R r → effUpon P R' r
  | .ok (.value _) _, hh => h _ _ hh
  | .ok .skip _, hh => h _ _ hh
  | .ok (.enter _ _) _, hh => Calls.mono hh fun _ _ ⟨v, e, hr⟩ => ⟨v, e, h _ _ hr⟩
theorem EffY.mono {o : Oper} {w : World} {R R' : Value → World → Prop} {a : Act} (h : ∀ v w, R v w → R' v w) (hy : EffY P ops o w R a) : EffY P ops o w R' a := by
  rcases hy with ⟨h1, h2⟩ | ⟨h1, h2⟩
  · exact .inl ⟨h1, effUpon_mono h _ h2⟩
  · exact .inr ⟨h1, h _ _ h2⟩
theorem EffY.put {o : Oper} {w : World} {R : Value → World → Prop} {u : Value} {a : Act} {d : Option Tmp} (hs : ∀ cs b, o.op ≠ .select cs b) (h : ∀ t, d = some t → t ∉ o.looksAt ops) : EffY P ops o w R (a.put d u) ↔ EffY P ops o w R a := by
  unfold EffY
  rw [execOp_put (ops := ops) o hs a d u h, wanted_put o a d u h]
theorem EffY.wpOp {i : Nat} {o : Oper} {a : Act} {w : World} {R : Value → World → Prop} {K : Act → World → Prop} (hi : ops[i]? = some o) (hy : EffY P ops o w R a) (hK : ∀ v w', R v w' → K (a.put o.dst v) w') : wpOp P ops Q i K a w := by
  unfold Go.wpOp
  rw [hi]
  rcases hy with ⟨h1, h2⟩ | ⟨h1, h2⟩
  · simp only [h1, if_true]
    refine .inl ?_
    unfold Oper.wp
    generalize (execOp a.eval o).run P w = r at *
    cases r with
    | ok n w' =>
      cases n <;> simp only [effUpon] at h2 <;> simp only [Oper.upon]
      case value u => exact hK _ _ h2
      case skip => exact hK _ _ h2
      case enter f args => exact h2.mono fun e w'' ⟨v, he, hr⟩ => by subst he; exact hK _ _ hr
    | halt x w' => simp only [effUpon] at h2
  · simp only [h1, Bool.false_eq_true, if_false]
    exact hK _ _ h2
/-- the walk: (false, i) floats, (true, i) stands -/
def wpX (P : Program) (ops : Array Oper) (Q : Exit → Act → World → Prop) : List (Bool × Nat) → (World → Prop) → Act → World → Prop
  | [], _, a, w => Q .normal a w
  | (false, i) :: r, C, a, w => ∃ o v, ops[i]? = some o ∧ StrC P ops C o v a ∧ wpX P ops Q r C (a.put o.dst v) w
  | (true, i) :: r, C, a, w => ∃ o, ops[i]? = some o ∧ EffY P ops o w (fun v w' => ∃ C' : World → Prop, (∀ X, C' X → C X) ∧ C' w' ∧ wpX P ops Q r C' (a.put o.dst v) w') a
theorem StrC.mono {C C' : World → Prop} {o : Oper} {v : Value} {a : Act} (hy : StrC P ops C o v a) (h : ∀ X, C' X → C X) : StrC P ops C' o v a := by
  rcases hy with ⟨h1, h2⟩ | h2
  · exact .inl ⟨h1, fun w hw => h2 w (h w hw)⟩
  · exact .inr h2
theorem wpX_float {C : World → Prop} (hsel : ∀ (j : Nat) (o : Oper) cs b, ops[j]? = some o → o.op ≠ .select cs b) {i : Nat} {o : Oper} (hi : ops[i]? = some o) (s2 : List (Bool × Nat)) {w : World} : ∀ (s1 : List (Bool × Nat)) (a : Act), (∀ p ∈ s1, p.1 = false ∧ ∀ ok, ops[p.2]? = some ok → ok.apart ops o = true) →
    wpX P ops Q (s1 ++ (false, i) :: s2) C a w → ∃ v, StrC P ops C o v a ∧ wpX P ops Q (s1 ++ s2) C (a.put o.dst v) w
  | [], a, _, ⟨o', v, h1, h2, h3⟩ => by
    rw [hi] at h1
    injection h1 with h1
    subst h1
    exact ⟨v, h2, h3⟩
  | (true, k) :: s1, a, hap, h => by have := (hap (true, k) List.mem_cons_self).1; cases this
  | (false, k) :: s1, a, hap, ⟨ok, vk, h1, h2, h3⟩ => by
    obtain ⟨p1, p2, p3⟩ := Oper.apart_spec ((hap (false, k) List.mem_cons_self).2 ok h1)
    obtain ⟨v, g1, g2⟩ := wpX_float hsel hi s2 s1 _ (fun k' hk' => hap k' (List.mem_cons_of_mem _ hk')) h3
    refine ⟨v, (StrC.put (fun cs b => hsel i o cs b hi) p1).1 g1, ok, vk, h1, (StrC.put (fun cs b => hsel k ok cs b h1) p3).2 h2, ?_⟩
    rw [← Act.put_comm a vk v p2]
    exact g2
theorem wpX_stand {C : World → Prop} (hsel : ∀ (j : Nat) (o : Oper) cs b, ops[j]? = some o → o.op ≠ .select cs b) {i : Nat} {o : Oper} (hi : ops[i]? = some o) (s2 : List (Bool × Nat)) {w : World} : ∀ (s1 : List (Bool × Nat)) (a : Act), (∀ p ∈ s1, p.1 = false ∧ ∀ ok, ops[p.2]? = some ok → ok.apart ops o = true) →
    wpX P ops Q (s1 ++ (true, i) :: s2) C a w → EffY P ops o w (fun v w' => ∃ C' : World → Prop, (∀ X, C' X → C X) ∧ C' w' ∧ wpX P ops Q (s1 ++ s2) C' (a.put o.dst v) w') a
  | [], a, _, ⟨o', h1, h2⟩ => by
    rw [hi] at h1
    injection h1 with h1
    subst h1
    exact h2
  | (true, k) :: s1, a, hap, h => by have := (hap (true, k) List.mem_cons_self).1; cases this
  | (false, k) :: s1, a, hap, ⟨ok, vk, h1, h2, h3⟩ => by
    obtain ⟨p1, p2, p3⟩ := Oper.apart_spec ((hap (false, k) List.mem_cons_self).2 ok h1)
    have g := wpX_stand hsel hi s2 s1 _ (fun k' hk' => hap k' (List.mem_cons_of_mem _ hk')) h3
    refine EffY.mono (fun v w' ⟨C', c1, c2, c3⟩ => ⟨C', c1, c2, ok, vk, h1, ((StrC.put (fun cs b => hsel k ok cs b h1) p3).2 h2).mono c1, ?_⟩) ((EffY.put (fun cs b => hsel i o cs b hi) p1).1 g)
    rw [← Act.put_comm a vk v p2]
    exact c3
def lfx (L : Array Bool) (l : List (Bool × Nat)) : List (Bool × Nat) := l.filter fun p => !L.getD p.2 true
theorem lfx_split {R : Bool × Nat → Bool × Nat → Prop} {L : Array Bool} {l : List (Bool × Nat)} {p : Bool × Nat} (hn : (l.map (·.2)).Nodup) (hp : l.Pairwise R) (hi : p ∈ l) (hL : L.getD p.2 true = false) :
    ∃ r1 r2, lfx L l = r1 ++ p :: r2 ∧ lfx (L.setIfInBounds p.2 true) l = r1 ++ r2 ∧ ∀ k ∈ r1, R k p ∧ L.getD k.2 true = false := by
  obtain ⟨s, t, rfl⟩ := List.append_of_mem hi
  rw [List.map_append, List.map_cons] at hn
  obtain ⟨_, n2, n3⟩ := List.nodup_append.1 hn
  have n4 := (List.nodup_cons.1 n2).1
  obtain ⟨_, _, q3⟩ := List.pairwise_append.1 hp
  have hne : ∀ k, k ≠ p.2 → (L.setIfInBounds p.2 true).getD k true = L.getD k true := fun k hk => getD_set_ne true (Ne.symm hk)
  have hself : (L.setIfInBounds p.2 true).getD p.2 true = true := by
    unfold Array.getD
    split
    · simp
    · rfl
  refine ⟨s.filter fun k => !L.getD k.2 true, t.filter fun k => !L.getD k.2 true, ?_, ?_, ?_⟩
  · unfold lfx
    rw [List.filter_append, List.filter_cons, if_pos (by simp [hL])]
  · unfold lfx
    rw [List.filter_append, List.filter_cons, if_neg (by simp [hself])]
    congr 1
    · exact List.filter_congr fun k hk => by rw [hne k.2 (n3 k.2 (List.mem_map_of_mem hk) p.2 List.mem_cons_self)]
    · exact List.filter_congr fun k hk => by rw [hne k.2 (fun e => n4 (e ▸ List.mem_map_of_mem hk))]
  · intro k hk
    obtain ⟨hk1, hk2⟩ := List.mem_filter.1 hk
    exact ⟨q3 k hk1 p List.mem_cons_self, by simpa using hk2⟩
/-- which of the first n operations wait for operation k -/
def reachA (ops : Array Oper) (k : Nat) : Nat → List Bool
  | 0 => []
  | n + 1 => reachA ops k n ++ [match ops[n]? with
    | some o => o.after.any fun e => Region.binds .any e && (e.on == k || (reachA ops k n).getD e.on false)
    | none => false]
theorem reachA_length (k : Nat) : ∀ n, (reachA ops k n).length = n
  | 0 => rfl
  | n + 1 => by simp [reachA, reachA_length k n]
theorem reachA_listed {L : Array Bool} (hC : Closed ops L) (k : Nat) : ∀ n j, (reachA ops k n).getD j false = true → L.getD j false = true → L.getD k false = true
  | 0, j, h, _ => by simp [reachA] at h
  | n + 1, j, h, hj => by
    by_cases hjn : j < n
    · refine reachA_listed hC k n j ?_ hj
      rw [List.getD_eq_getElem?_getD] at h ⊢
      rwa [reachA, List.getElem?_append_left (by rw [reachA_length]; exact hjn)] at h
    · by_cases hjn2 : j = n
      · subst hjn2
        rw [reachA, List.getD_eq_getElem?_getD, List.getElem?_append_right (by rw [reachA_length]; exact Nat.le_refl _), reachA_length] at h
        simp only [Nat.sub_self, List.getElem?_cons_zero, Option.getD_some] at h
        cases ho : ops[j]? with
        | none => rw [ho] at h; cases h
        | some o =>
          rw [ho] at h
          obtain ⟨e, he, h2⟩ := Array.any_eq_true'.1 h
          simp only [Bool.and_eq_true, Bool.or_eq_true, beq_iff_eq] at h2
          have h3 := hC j o ho hj e he h2.1
          rcases h2.2 with h4 | h4
          · rw [← h4]; exact h3
          · exact reachA_listed hC k j e.on h4 h3
      · rw [List.getD_eq_getElem?_getD, List.getElem?_eq_none (by rw [reachA_length]; omega)] at h
        cases h
def reachB (ops : Array Oper) (j k : Nat) : Bool := match ops[j]? with
  | some o => o.after.any fun e => Region.binds .any e && (e.on == k || (reachA ops k j).getD e.on false)
  | none => false
theorem reachB_listed {L : Array Bool} (hC : Closed ops L) (j k : Nat) (o : Oper) (ho : ops[j]? = some o) (hd : ∀ e ∈ o.after, Region.binds .any e = true → L.getD e.on false = true) (h : reachB ops j k = true) : L.getD k false = true := by
  unfold reachB at h
  rw [ho] at h
  obtain ⟨e, he, h2⟩ := Array.any_eq_true'.1 h
  simp only [Bool.and_eq_true, Bool.or_eq_true, beq_iff_eq] at h2
  have h3 := hd e he h2.1
  rcases h2.2 with h4 | h4
  · rw [← h4]; exact h3
  · exact reachA_listed hC k j e.on h4 h3
def ladB (ops : Array Oper) (p q : Bool × Nat) : Bool := if p.1 then reachB ops q.2 p.2 else edgeB ops p.2 q.2
structure LadAt (P : Program) (ops : Array Oper) (Q : Exit → Act → World → Prop) (l : List (Bool × Nat)) (L : Array Bool) (A : Act) (w : World) : Prop where
  size : L.size = ops.size
  closed : Closed ops L
  way : ∃ C : World → Prop, C w ∧ wpX P ops Q (lfx L l) C A w
theorem wp_region_lad {id : Nat} {a : Act} {w : World} (C : World → Prop) (l : List (Bool × Nat)) (hmo : P.follows .mixedOrders = true) (hB : textB ops = true) (hnd : (l.map (·.2)).Nodup) (hcov : ∀ i ∈ List.range ops.size, i ∈ l.map (·.2)) (hin : ∀ p ∈ l, p.2 < ops.size)
    (hp : l.Pairwise (fun p q => ladB ops p q = true)) (hC : C w.drew) (h : wpX P ops Q l C a w.drew) : (Code.region id ops true).wp P Q a w := by
  obtain ⟨hsel, htx⟩ := textB_spec hB
  refine wp_region_inv (I := fun L A X => LadAt P ops Q l L A X) hmo ?h0 ?hs ?he
  case h0 =>
    have hf0 : ∀ k d, k < ops.size → (Array.replicate ops.size false).getD k d = false := fun k d hk => by unfold Array.getD; simp [hk]
    refine ⟨by simp, ?_, C, hC, ?_⟩
    · intro i o ho hi
      rw [hf0 i _ (Array.getElem?_eq_some_iff.1 ho).1] at hi
      cases hi
    · rw [show lfx (Array.replicate ops.size false) l = l from List.filter_eq_self.2 fun p hpm => by simp [hf0 p.2 true (hin p hpm)]]
      exact h
  case hs =>
    intro L A X i o hI ho hl hdeps
    have hil : i < ops.size := (Array.getElem?_eq_some_iff.1 ho).1
    have hsize : (L.setIfInBounds i true).size = ops.size := by simp [hI.size]
    have hclosed := hI.closed.step ho hdeps
    have hap : ∀ k, edgeB ops k i = true → L.getD k true = false → ∀ ok, ops[k]? = some ok → ok.apart ops o = true := by
      intro k hed hk ok hok
      rcases edgeB_spec ho hok hed with ⟨e, he, hbe, rfl⟩ | h2
      · have h3 := hdeps e he hbe
        rw [getD_flip hk] at h3
        cases h3
      · exact h2
    have hwt : ∀ k, reachB ops i k = true → L.getD k false = true := fun k hk => reachB_listed hI.closed i k o ho hdeps hk
    obtain ⟨p, hpl, rfl⟩ := List.mem_map.1 (hcov i (by simpa using hil))
    obtain ⟨r1, r2, s1, s2, s3⟩ := lfx_split hnd hp hpl hl
    have hr1 : ∀ q ∈ r1, q.1 = false ∧ ∀ ok, ops[q.2]? = some ok → ok.apart ops o = true := by
      intro q hq
      obtain ⟨t1, t2⟩ := s3 q hq
      unfold ladB at t1
      cases hb : q.1 with
      | true =>
        rw [hb, if_pos rfl] at t1
        have := hwt _ t1
        rw [getD_flip t2] at this
        cases this
      | false =>
        rw [hb, if_neg (by simp)] at t1
        exact ⟨rfl, hap q.2 t1 t2⟩
    obtain ⟨C1, hC1, hw⟩ := hI.way
    rw [s1] at hw
    obtain ⟨b, i⟩ := p
    cases b with
    | false =>
      obtain ⟨v, g1, g2⟩ := wpX_float hsel ho r2 r1 A hr1 hw
      exact StrC.wpOp ho hC1 g1 ⟨hsize, hclosed, C1, hC1, by rw [s2]; exact g2⟩
    | true => exact EffY.wpOp ho (wpX_stand hsel ho r2 r1 A hr1 hw) fun v w' ⟨C', c1, c2, c3⟩ => ⟨hsize, hclosed, C', c2, by rw [s2]; exact c3⟩
  case he =>
    intro L A X hI hr
    have hall : ∀ n k, k < n → k < ops.size → L.getD k false = true := by
      intro n
      induction n with
      | zero => intro k hk; omega
      | succ n ih =>
        intro k hk hkn
        cases hv : L.getD k false with
        | true => rfl
        | false =>
          exfalso
          have ho : ops[k]? = some ops[k] := Array.getElem?_eq_getElem hkn
          have hmem : k ∈ Region.ready .any ops L := mem_ready.2 ⟨by rw [← getD_flip' (by rw [hI.size]; omega)]; exact hv, ops[k], ho, fun e he hbe => ih e.on (by have := htx k _ ho e he hbe; omega) (by have := htx k _ ho e he hbe; omega)⟩
          rw [hr] at hmem
          cases hmem
    obtain ⟨C1, hC1, hw⟩ := hI.way
    rw [show lfx L l = [] from List.filter_eq_nil_iff.2 fun p hpm => by
      have := hall (p.2 + 1) p.2 (by omega) (hin p hpm)
      rw [getD_flip' (by rw [hI.size]; exact hin p hpm)] at this
      simp [this]] at hw
    exact hw
theorem wpX_nil {C : World → Prop} {a : Act} {w : World} (h : Q .normal a w) : wpX P ops Q [] C a w := h
/-- a float -/
theorem wpX_f {C : World → Prop} {a : Act} {w : World} {i : Nat} {r : List (Bool × Nat)} (o : Oper) (v : Value) (ho : ops[i]? = some o) (hw : Region.wanted o (yielded ops a.tmps) = true) (hr : ∀ X, C X → (execOp a.eval o).run P X = .ok (.value v) X) (h : wpX P ops Q r C (a.put o.dst v) w) : wpX P ops Q ((false, i) :: r) C a w := ⟨o, v, ho, .inl ⟨hw, hr⟩, h⟩
theorem wpX_fskip {C : World → Prop} {a : Act} {w : World} {i : Nat} {r : List (Bool × Nat)} (o : Oper) (ho : ops[i]? = some o) (hw : Region.wanted o (yielded ops a.tmps) = false) (h : wpX P ops Q r C (a.put o.dst undef) w) : wpX P ops Q ((false, i) :: r) C a w := ⟨o, undef, ho, .inr ⟨hw, rfl⟩, h⟩
/-- a call -/
theorem wpX_call {C : World → Prop} {a : Act} {w : World} {i : Nat} {r : List (Bool × Nat)} (o : Oper) {f : FuncId} {args : Array Value} (ho : ops[i]? = some o) (hw : Region.wanted o (yielded ops a.tmps) = true) (hr : (execOp a.eval o).run P w = .ok (.enter f args) w)
    (hc : Calls P f args w fun e w' => ∃ v, e = .returned v ∧ ∃ C' : World → Prop, (∀ X, C' X → C X) ∧ C' w' ∧ wpX P ops Q r C' (a.put o.dst v) w') : wpX P ops Q ((true, i) :: r) C a w := ⟨o, ho, .inl ⟨hw, by rw [hr]; exact hc⟩⟩
/-- a plain operation that stands: its run is known -/
theorem wpX_to {C : World → Prop} {a : Act} {w : World} {i : Nat} {r : List (Bool × Nat)} (o : Oper) (v : Value) (w' : World) (ho : ops[i]? = some o) (hw : Region.wanted o (yielded ops a.tmps) = true) (hr : (execOp a.eval o).run P w = .ok (.value v) w') (C' : World → Prop) (h1 : ∀ X, C' X → C X) (h2 : C' w') (h : wpX P ops Q r C' (a.put o.dst v) w') : wpX P ops Q ((true, i) :: r) C a w := ⟨o, ho, .inl ⟨hw, by rw [hr]; exact ⟨C', h1, h2, h⟩⟩⟩
theorem wpX_st {C : World → Prop} {a : Act} {w : World} {i : Nat} {r : List (Bool × Nat)} (o : Oper) (w' : World) (ho : ops[i]? = some o) (hw : Region.wanted o (yielded ops a.tmps) = true) (hr : (execOp a.eval o).run P w = .ok .skip w') (C' : World → Prop) (h1 : ∀ X, C' X → C X) (h2 : C' w') (h : wpX P ops Q r C' (a.put o.dst undef) w') : wpX P ops Q ((true, i) :: r) C a w := ⟨o, ho, .inl ⟨hw, by rw [hr]; exact ⟨C', h1, h2, h⟩⟩⟩
end
end Go.Proofs.Ytkoodgfadedeoaa
namespace Go.Proofs.Ytkoodgfadedeoaa
open Go.RowKit Go.BigFrame
/-- a whole array loaded: its run -/
theorem loadE {P : Program} {ρ : Operand → Value} {o : Oper} {X : World} (t : TypeId) (x : Operand) (b off n : Nat) (g : Nat → Value) {d : TypeDesc} (ho : o.op = .load t x) (hx : ρ x = .pointer (some ⟨b, off, none⟩)) (hc : X.rangeAt b off (row n g))
    (hu : P.underlying t = some d) (hd : d.isRow = true) (hi : (P.info? t).map (·.size) = some n) : (execOp ρ o).run P X = .ok (.value (.agg (row n g).toArray)) X := by
  unfold execOp
  simp only [ho, hx, Instr.loadAt, Instr.sureAddr, Sem.run_bind, Sem.run_pure, Result.andThen_ok, run_loadVar_mid (P := P) X b off t (row n g) _ hc hu hd (by rw [row_length]; exact hi)]
theorem wpAnyH_last {P : Program} {md : Region.Mode} {ops : Array Oper} {Q : Exit → Act → World → Prop} {St : World → Prop} {i fuel : Nat} {L : Array Bool} {a : Act} {w : World} (hr : Region.ready md ops L = [i]) (hi : i < ops.size) (hg : ops[i].guard = none) (hd : Region.ready md ops (L.setIfInBounds i true) = [])
    (h : ops[i].wp P a w (fun a' w' => St w' ∧ Q .normal a' w') Q) : wpAnyH P md ops Q St (fuel + 1) L a w :=
  wpAnyH_all hr (by simp) fun j hj => by
    obtain rfl := List.mem_singleton.1 hj
    exact wpOp_mono (fun a' w' hh => ⟨hh.1, wpAnyH_done hd hh.2 _⟩) (wpOp_plain (Array.getElem?_eq_getElem hi) hg h)
theorem idxE36 {ρ : Operand → Value} {o : Oper} {X : World} {x y : Operand} {tb L tc i : Nat} (ho : o.op = .indexAddr 36 x y) (hx : ρ x = .slice (some ⟨tb, 0, none⟩) L tc) (hy : ρ y = .int .i64 (i : Int)) (hi : i < L) : (execOp ρ o).run Try.prog X = .ok (.value (.pointer (some ⟨tb, i * 16, none⟩))) X := by
  have h0 : (0 : Int) ≤ (i : Int) := by omega
  have h1 : (i : Int) < (L : Int) := by omega
  unfold execOp
  simp [ho, hx, hy, go_sem, h0, h1]
theorem exec_store0 {P : Program} {o : Oper} {a : Act} {w : World} (t : TypeId) (x y : Operand) (ho : o.op = .store t x y) (b n : Nat) (g g' : Nat → Value) (hx : a.eval x = .pointer (some ⟨b, 0, none⟩)) (hy : a.eval y = .agg (row n g').toArray) (h : RowAt b n g w)
    (hi : (P.info? t).map (·.size) = some n) (h1 : ∀ j, j < n → (g' j).oneCell' = true) : (execOp a.eval o).run P w = .ok .skip (w.setCells b 0 (row n g')) := by
  unfold execOp
  simp only [ho, hx, hy, Instr.storeAt, Instr.sureAddr, Sem.run_bind, Sem.run_pure, Result.andThen_ok, run_storeVar_mid (P := P) w b 0 t (row n g').toArray (by rw [row_size]; exact h.there) (by rw [row_size]; exact hi) (row_one h1)]
theorem exec_append {P : Program} {o : Oper} {a : Act} {w w' : World} (s x : Operand) (t u : TypeId) (ho : o.op = .call { callee := .builtin .append, args := #[s, x], argTypes := #[t, u] }) (v y v' : Value) (hs : a.eval s = v) (hx : a.eval x = y) (hr : (Builtin.append_ #[t, u] o.type #[v, y]).run P w = .ok v' w') : (execOp a.eval o).run P w = .ok (.value v') w' := by
  unfold execOp
  simp only [ho, resolve, invoke, builtin, Sem.run_bind, Sem.run_pure, Result.andThen_ok, List.map_toArray, List.map_cons, List.map_nil, hs, hx, hr]
theorem run_growF {w : World} {base n : Nat} {v : Value} {g : Nat → Value} (ty : TypeId) (h : OwnB base 5 v n g w) (ad : Addr) (m c : Nat) (u f : Nat → Value) (hb : LieAt ad m u w) (h1 : ∀ j, j < m → (u j).oneCell' = true) (hf1 : ∀ j, j < n → g j = f j) (hf2 : ∀ j, j < m → u j = f (n + j)) (hnm : n + m ≤ 1000000) (hbase : base ≤ w.heap.size) :
    ∃ v' w', (Builtin.append_ #[22, 22] ty #[v, .slice (some ad) m c]).run Try.prog w = .ok v' w' ∧ OwnB base 5 v' (n + m) f w' ∧ w.grownBy w' v.ownBlock := by
  obtain ⟨i, z, e1, e2, e3, e4, e5⟩ := elem22.info
  obtain ⟨v', w', k1, k2, k3, _⟩ := run_append_own (P := Try.prog) w base 22 ty 5 i z 1 1 elem22.slice e1 e2 e3 e4 e5 (by decide) v n (row n g) h ad m c (row m u) (by rw [row_length, Nat.mul_one]) (fun j x hj => by
    obtain ⟨hj', rfl⟩ := row_some hj
    exact hb.1 j hj') (fun x hx => by
    obtain ⟨j, hj, rfl⟩ := List.mem_map.1 hx
    exact h1 j (by simpa using hj)) (by unfold maxLen; omega) (by omega) hbase
  refine ⟨v', w', k1, ?_, k3⟩
  unfold OwnB
  rw [row_append n m g u f hf1 hf2] at k2
  exact k2
theorem add_none (c o j : Nat) : (⟨c, o, none⟩ : Addr).add j = ⟨c, o + j, none⟩ := by
  unfold Addr.add
  by_cases h : j = 0
  · subst h; rw [if_pos rfl]; rfl
  · rw [if_neg h]
theorem cutU (a : Addr) (l cap n : Nat) (h1 : 16 * n + 16 ≤ l) (h2 : l ≤ cap) (h3 : 16 * n + 16 ≤ 65536) (X : World) : Sem.run Try.prog (Instr.sliceAt 22 (.slice (some a) l cap) (some (.int .i64 (16 * (n : Int)))) (some (.int .i64 (16 * (n : Int) + 16))) none) X = .ok (.slice (some (a.add (16 * n))) 16 (cap - 16 * n)) X := by
  have n0 : (0 : Int) ≤ (n : Int) := by omega
  have n3 : (0 : Int) ≤ 16 * (n : Int) := by omega
  have n4 : 16 * (n : Int) ≤ 16 * (n : Int) + 16 := by omega
  have n5 : (0 : Int) ≤ 16 * (n : Int) + 16 := by omega
  have n6 : 16 * (n : Int) + 16 ≤ (cap : Int) := by omega
  have n7 : ¬ cap = 16 * n := by omega
  have n8 : (16 * (n : Int)).toNat = 16 * n := by omega
  have n9 : (16 * (n : Int) + 16).toNat = 16 * n + 16 := by omega
  have n10 : 16 * n + 16 - 16 * n = 16 := by omega
  have n11 : IntKind.i64.wrap (16 * (n : Int)) = 16 * (n : Int) := by rw [IntKind.wrap_i64]; omega
  have n12 : IntKind.i64.wrap (16 * (n : Int) + 16) = 16 * (n : Int) + 16 := by rw [IntKind.wrap_i64]; omega
  simp [go_sem, n3, n4, n6, n7, n8, n9, n10]
theorem cutV2 (a : Addr) (l cap n sh : Nat) (h1 : l = 16 * n + 16 + sh) (h2 : l ≤ cap) (h3 : l ≤ 65536) (h4 : 0 < sh) (X : World) : Sem.run Try.prog (Instr.sliceAt 22 (.slice (some a) l cap) (some (.int .i64 (16 * (n : Int) + 16))) none none) X = .ok (.slice (some (a.add (16 * n + 16))) sh (cap - (16 * n + 16))) X := by
  have n0 : (0 : Int) ≤ (n : Int) := by omega
  have n5 : (0 : Int) ≤ 16 * (n : Int) + 16 := by omega
  have n6 : 16 * (n : Int) + 16 ≤ (l : Int) := by omega
  have n7 : ¬ cap = 16 * n + 16 := by omega
  have n9 : (16 * (n : Int) + 16).toNat = 16 * n + 16 := by omega
  have n10 : l - (16 * n + 16) = sh := by omega
  have n12 : IntKind.i64.wrap (16 * (n : Int) + 16) = 16 * (n : Int) + 16 := by rw [IntKind.wrap_i64]; omega
  simp [go_sem, n5, n6, n7, n9, n10]
theorem cutC (cb cc sh : Nat) (h1 : 16 ≤ cc) (h2 : sh < 16) (h3 : 0 < sh) (X : World) : Sem.run Try.prog (Instr.sliceAt 22 (.slice (some ⟨cb, 0, none⟩) 16 cc) (some (.int .i64 (sh : Int))) none none) X = .ok (.slice (some ⟨cb, sh, none⟩) (16 - sh) (cc - sh)) X := by
  have n5 : (0 : Int) ≤ (sh : Int) := by omega
  have n6 : (sh : Int) ≤ 16 := by omega
  have n7 : ¬ cc = sh := by omega
  have n8 : (⟨cb, 0, none⟩ : Addr).add sh = ⟨cb, sh, none⟩ := by rw [add_none, Nat.zero_add]
  have n12 : IntKind.i64.wrap (sh : Int) = (sh : Int) := by rw [IntKind.wrap_i64]; omega
  simp [go_sem, n5, n6, n7]
theorem cutD (cb cc sh : Nat) (h1 : 16 ≤ cc) (h2 : sh < 16) (X : World) : Sem.run Try.prog (Instr.sliceAt 22 (.slice (some ⟨cb, 0, none⟩) 16 cc) none (some (.int .i64 (sh : Int))) none) X = .ok (.slice (some ⟨cb, 0, none⟩) sh cc) X := by
  have n5 : (0 : Int) ≤ (sh : Int) := by omega
  have n6 : (sh : Int) ≤ (cc : Int) := by omega
  have n12 : IntKind.i64.wrap (sh : Int) = (sh : Int) := by rw [IntKind.wrap_i64]; omega
  simp [go_sem, n5, n6]
set_option maxRecDepth 20000 in
set_option maxHeartbeats 8000000 in
theorem runitE_any (base0 q r l cap : Nat) (S1 S2 : Nat → BitVec 8) (hr : 1 ≤ r) (hr2 : r ≤ 14) (u : BitVec 64) (a : Addr) (D : Nat → BitVec 8) (w : World) (hP : RPairAt base0 q r S1 S2 w) (hl1 : 16 ≤ l) (hl2 : l ≤ 65536) (hcap : l ≤ cap) (hD : LieAt a l (yv D) w) :
    Calls Try.prog 45 #[.pointer (some ⟨q, 0, none⟩), .int .u64 (u.toNat : Int), .slice (some a) l cap, .bool false] w fun e w' => ∃ v, e = .returned (.tuple #[v, .int .i64 0]) ∧ OwnB w.heap.size 5 v l (yv (xE S1 S2 r u D l)) w' ∧ Below w.heap.size w w' := by
  have i0 : ¬ (l : Int) < 16 := by omega
  have i1 : ¬ (65536 : Int) < (l : Int) := by omega
  have l0 : (0 : Int) ≤ (l : Int) := by omega
  obtain ⟨wh, hwh⟩ : ∃ wh, wh = l / 16 := ⟨_, rfl⟩
  obtain ⟨sh, hsh⟩ : ∃ sh, sh = l % 16 := ⟨_, rfl⟩
  have hdiv : (l : Int) / 16 = (wh : Int) := by omega
  have hmod : ((l : Int)).tmod 16 = (sh : Int) := by rw [hsh, Int.tmod_eq_emod_of_nonneg (by omega)]; omega
  have w0' : (0 : Int) ≤ (wh : Int) := by omega
  have w1' : (wh : Int) ≤ 4096 := by omega
  have htw := hideit (rtweaks_any base0 q r (wh + 1) S1 S2 hr hr2 u (by omega) w hP)
  obtain ⟨t0, ht0⟩ : ∃ t0, t0 = tw0 S2 r u := ⟨_, rfl⟩
  rw [← ht0] at htw
  obtain ⟨ch, hch⟩ : ∃ ch, ch = chF (encF S1 bxT twT r) := ⟨_, rfl⟩
  obtain ⟨nb, hnb⟩ : ∃ nb, nb = nbOf l := ⟨_, rfl⟩
  have hspec := nbOf_spec l hl1
  rw [← hnb] at hspec
  have htw' : Hid (Calls Try.prog 26 #[.pointer (some ⟨q, 0, none⟩), .int .u64 (u.toNat : Int), .int .i64 ((wh : Int) + 1)] w fun e w' => ∃ v, e = .returned v ∧ OwnN w.heap.size 23 16 v (wh + 1) (yv (twsF t0)) w' ∧ Below w.heap.size w w') := htw.out
  replace hP := hideit hP
  replace hD := hideit hD
  replace ht0 := hideit ht0
  replace hch := hideit hch
  replace hnb := hideit hnb
  clear htw
  rcases hspec with ⟨hm0, hlm⟩ | ⟨hm0, hlm⟩
  · have hs0 : ¬ (0 : Int) < (sh : Int) := by omega
    have hs1 : ((sh : Int) == 0) = true := by rw [beq_iff_eq]; omega
    obtain rfl : wh = nb := by omega
    have hle : 16 * wh ≤ l := by omega
    replace hlm := hideit hlm
    replace hm0 := hideit hm0
    clear hwh hsh
    go_enter Try.func45, Try.ntmps45
    go_upto_region 5 with (go_at_call 26; refine htw'.out.mono ?_; rintro e WB ⟨vt, rfl, hOt, hBt⟩)
    obtain ⟨tb, tc, hvt, htb, htc, _, hTW⟩ := hOt.lies (by omega)
    subst hvt
    have HTW := hideit hTW
    have HDB := hideit (hD.out.carry hBt)
    have HPB := hideit (hP.out.ext hBt)
    have HEB : Hid (Ext w WB) := hideit hBt
    clear hTW hOt hBt
    clear htw'
    go_upto_region 10 with (fail)
    go_loopw [13, 15] (fun v i wr => ∃ n : Nat, n ≤ wh ∧ i = .int .i64 (n : Int) ∧ OwnB WB.heap.size 5 v (16 * n) (yv (fronts ch t0 D)) wr ∧ Ext WB wr) (fun _ i _ => 5000 - (intOf i).toNat)
    case atStart => exact ⟨0, by omega, rfl, own_nil _ _ _ _, Ext.refl _⟩
    case round =>
      obtain ⟨n, hn, rfl, hO, hE⟩ := hrel
      have HO := hideit hO
      have HE := hideit hE
      clear hO hE
      by_cases hlt : n < wh
      · have n0 : (0 : Int) ≤ (n : Int) := by omega
        have n1 : (n : Int) < (wh : Int) := by omega
        have n3 : (0 : Int) ≤ 16 * (n : Int) := by omega
        have n4 : 16 * (n : Int) ≤ 16 * (n : Int) + 16 := by omega
        have n5 : 16 * (n : Int) + 16 ≤ (l : Int) := by omega
        have n6 : 16 * (n : Int) + 16 ≤ (cap : Int) := by omega
        have n7 : ¬ cap = 16 * n := by omega
        have n8 : (n : Int) < (wh : Int) + 1 := by omega
        have n9 : 16 * (n : Int) + 16 ≤ 65536 := by omega
        have n10 : 16 * n + 16 - 16 * n = 16 := by omega
        obtain ⟨f, hf⟩ : ∃ f : Nat → BitVec 8, f = fun j => D (16 * n + j) := ⟨_, rfl⟩
        obtain ⟨tt, htt⟩ : ∃ tt, tt = byB (dK 135#128 n t0) := ⟨_, rfl⟩
        have HTR : Hid (∀ X, Ext WB X → X.rangeAt tb (n * 16) (row 16 (yv tt))) := fun X hX j v hv => by
          obtain ⟨hj, rfl⟩ := row_some hv
          rw [(HTW.out.carry hX).1 (n * 16 + j) (by omega)]
          simp only [yv, twsF]
          rw [show (n * 16 + j) / 16 = n by omega, show (n * 16 + j) % 16 = j by omega, htt]
        have HL : Hid (∀ X, Ext WB X → LieAt (a.add (16 * n)) 16 (yv f) X) := fun X hX => by
          have h1 := HDB.out.carry hX
          refine ⟨fun j hj => ?_, by rw [add_block]; exact h1.2⟩
          rw [add_add', h1.1 (16 * n + j) (by omega), hf]
          rfl
        obtain ⟨G, hG⟩ : ∃ G, G = addF ((encF S1 bxT twT r) (addF f tt)) tt := ⟨_, rfl⟩
        have hGG : Hid (∀ j, j < 16 → G j = fronts ch t0 D (16 * n + j)) := fun j hj => by
          unfold fronts
          rw [show (16 * n + j) / 16 = n by omega, show (16 * n + j) % 16 = j by omega, hG, hch.out, htt, hf]
          rfl
        have hat : Hid (∀ X, Ext WB X → Calls Try.prog 60 #[.pointer (some ⟨q, 0, none⟩), .slice (some (a.add (16 * n))) 16 (cap - 16 * n), .agg (row 16 (yv tt)).toArray, .bool false] X fun e w' => ∃ v, e = .returned v ∧ OwnB X.heap.size 5 v 16 (yv G) w' ∧ Below X.heap.size X w') := fun X hX => by
          rw [hG]; exact ratE_any base0 q r S1 S2 hr hr2 (a.add (16 * n)) (cap - 16 * n) f tt X (HPB.out.ext hX) (HL.out X hX)
        clear hG hf htt HL
        have hne := kept_ne wr.drew
        go_upto_region 12 with (fail)
        refine wp_region_lateF [0] [_] [1, 2, 3, 4, 5, 6, 7, 8, 9, 10, 11, 12, 13] [_, _, _, _, _, _, _, _, _, _, _, _, _] [14, 15, 16] [_, _, _] (by kernel_rfl) (by kernel_rfl) (fun _ _ _ _ _ h => h) (by kernel_rfl) rfl (by kernel_rfl) rfl rfl (by decide +kernel) (by kernel_rfl) (by kernel_rfl) (by decide +kernel) (by decide +kernel) (by decide +kernel) (by decide +kernel) (by decide +kernel) (by decide +kernel) ?_
        simp only [List.getElem_toArray, List.getElem_cons_zero, List.getElem_cons_succ]
        refine wpPure_one u13 rfl (fun X => by simp [go_sem]) ?_
        simp only [Act.put, List.setIfInBounds_toArray, List.set_cons_zero, List.set_cons_succ]
        refine wpPure_nil ?_
        refine wpStrong_run 13 rfl ?_
        simp only [List.take_succ_cons, List.take_zero, List.drop_succ_cons, List.drop_zero]
        repeat (go_big_quiet_step (fail))
        go_big_quiet_want
        refine loadQ 23 (.tmp 61) tb (n * 16) 16 (yv tt) rfl rfl (fun w' hw' => HTR.out w' (Ext.trans (Ext.trans HE.out ((Below.refl _ _).drew)) hw')) Try.underlying23 rfl info32 ?_
        simp only [Act.put, List.setIfInBounds_toArray, List.set_cons_zero, List.set_cons_succ]
        go_big_quiet_on
        repeat (go_big_quiet_step (fail))
        refine wpQuiet_nil ?_
        refine wpStrong_nil ?_
        intro X hX
        have hX' : Ext wr X := Ext.trans ((Below.refl _ _).drew) hX
        have HOX := hideit (HO.out.ext hX')
        have HEX : Hid (Ext WB X) := hideit (Ext.trans HE.out hX')
        have hatX := hideit (hat.out X HEX.out)
        clear hne hX hX' HO HE HTR hat
        try rw [n10]
        refine wpList_call rfl (by simp [go_sem]) (hatX.out.mono ?_)
        rintro e w5 ⟨v5, rfl, hO5, h5⟩
        refine ⟨_, rfl, ?_⟩
        simp only [Act.put, List.setIfInBounds_toArray, List.set_cons_zero, List.set_cons_succ]
        have HO5 := HOX.out.ext h5
        have HE5 : Ext WB w5 := Ext.trans HEX.out h5
        refine wpList_growV (n := 16 * n) elem22 rfl (.tmp 50) (.tmp 64) rfl rfl HO5 v5 16 G (yv (fronts ch t0 D)) rfl hO5.bv (fun _ _ => rfl) (fun j hj => by simp only [yv]; rw [hGG.out j hj]) (by omega) (Below.size HE5) ?_
        intro v6 w6 ho hg
        have HE6 : Hid (Ext WB w6) := hideit (gr_ext HE5 hg (fun k h => (HO5.lt k h).1))
        rw [show 16 * n + 16 = 16 * (n + 1) by omega] at ho
        replace ho := hideit ho
        clear hg HO5 HE5 hO5 h5 HOX HEX hatX hGG
        simp only [Act.put, List.setIfInBounds_toArray, List.set_cons_zero, List.set_cons_succ]
        go_wp2
        go_roundw
        case rel =>
          first | exact ⟨(n + 1 : Nat), by omega, by go_num, ho.out, HE6.out⟩ | ((repeat apply Exists.intro); exact ⟨⟨n + 1, by omega, by go_num, ho.out, HE6.out⟩, rfl⟩)
        case measure => simp [intOf]; omega
      · obtain rfl : n = wh := by omega
        have n1 : ¬ (n : Int) < (n : Int) := by omega
        have HOF : OwnB w.heap.size 5 u13 l (yv (xE S1 S2 r u D l)) wr := by
          have h8 : xE S1 S2 r u D l = fronts ch t0 D := by
            rw [xE_unit]; unfold unitF; rw [if_pos hm0.out, hch.out, ht0.out]
          rw [h8]
          have h7 := HO.out
          rw [← hlm.out] at h7
          exact ⟨h7.1, h7.2.imp id fun ⟨g, cp, cur, k1, k2, k3⟩ => ⟨g, cp, cur, k1, by have := Below.size HEB.out; omega, k3⟩⟩
        have HBF : Hid (Ext w wr) := hideit (Ext.trans HEB.out HE.out)
        replace HOF := hideit HOF
        clear HO HE
        go_wp2
        refine bodyPost_ret (results_tmp2 Try.results45 _ _ _) rfl ?_
        exact ⟨u13, rfl, HOF.out, HBF.out⟩
  · have hs0 : (0 : Int) < (sh : Int) := by omega
    have hs1 : ((sh : Int) == 0) = false := by rw [beq_eq_false_iff_ne]; omega
    have hs2 : (sh : Int) < 16 := by omega
    have hw1 : (wh : Int) - 1 = (nb : Int) := by omega
    have hw2 : Hid (wh = nb + 1) := by unfold Hid; omega
    have hw3 : Hid (l = 16 * nb + 16 + sh ∧ sh < 16 ∧ 0 < sh ∧ sh = l % 16) := by unfold Hid; omega
    have hle : 16 * nb ≤ l := by omega
    have hle2 : nb + 1 ≤ wh := by omega
    replace hlm := hideit hlm
    replace hm0 := hideit hm0
    clear hwh hsh
    go_enter Try.func45, Try.ntmps45
    go_upto_region 5 with (go_at_call 26; refine htw'.out.mono ?_; rintro e WB ⟨vt, rfl, hOt, hBt⟩)
    obtain ⟨tb, tc, hvt, htb, htc, _, hTW⟩ := hOt.lies (by omega)
    subst hvt
    have HTW := hideit hTW
    have HDB := hideit (hD.out.carry hBt)
    have HPB := hideit (hP.out.ext hBt)
    have HEB : Hid (Ext w WB) := hideit hBt
    clear hTW hOt hBt
    clear htw'
    go_upto_region 10 with (fail)
    go_loopw [13, 15] (fun v i wr => ∃ n : Nat, n ≤ nb ∧ i = .int .i64 (n : Int) ∧ OwnB WB.heap.size 5 v (16 * n) (yv (fronts ch t0 D)) wr ∧ Ext WB wr) (fun _ i _ => 5000 - (intOf i).toNat)
    case atStart => exact ⟨0, by omega, rfl, own_nil _ _ _ _, Ext.refl _⟩
    case round =>
      obtain ⟨n, hn, rfl, hO, hE⟩ := hrel
      have HO := hideit hO
      have HE := hideit hE
      clear hO hE
      by_cases hlt : n < nb
      · have n0 : (0 : Int) ≤ (n : Int) := by omega
        have n1 : (n : Int) < (nb : Int) := by omega
        have n3 : (0 : Int) ≤ 16 * (n : Int) := by omega
        have n4 : 16 * (n : Int) ≤ 16 * (n : Int) + 16 := by omega
        have n5 : 16 * (n : Int) + 16 ≤ (l : Int) := by omega
        have n6 : 16 * (n : Int) + 16 ≤ (cap : Int) := by omega
        have n7 : ¬ cap = 16 * n := by omega
        have n8 : (n : Int) < (wh : Int) + 1 := by omega
        have n9 : 16 * (n : Int) + 16 ≤ 65536 := by omega
        have n10 : 16 * n + 16 - 16 * n = 16 := by omega
        obtain ⟨f, hf⟩ : ∃ f : Nat → BitVec 8, f = fun j => D (16 * n + j) := ⟨_, rfl⟩
        obtain ⟨tt, htt⟩ : ∃ tt, tt = byB (dK 135#128 n t0) := ⟨_, rfl⟩
        have HTR : Hid (∀ X, Ext WB X → X.rangeAt tb (n * 16) (row 16 (yv tt))) := fun X hX j v hv => by
          obtain ⟨hj, rfl⟩ := row_some hv
          rw [(HTW.out.carry hX).1 (n * 16 + j) (by omega)]
          simp only [yv, twsF]
          rw [show (n * 16 + j) / 16 = n by omega, show (n * 16 + j) % 16 = j by omega, htt]
        have HL : Hid (∀ X, Ext WB X → LieAt (a.add (16 * n)) 16 (yv f) X) := fun X hX => by
          have h1 := HDB.out.carry hX
          refine ⟨fun j hj => ?_, by rw [add_block]; exact h1.2⟩
          rw [add_add', h1.1 (16 * n + j) (by omega), hf]
          rfl
        obtain ⟨G, hG⟩ : ∃ G, G = addF ((encF S1 bxT twT r) (addF f tt)) tt := ⟨_, rfl⟩
        have hGG : Hid (∀ j, j < 16 → G j = fronts ch t0 D (16 * n + j)) := fun j hj => by
          unfold fronts
          rw [show (16 * n + j) / 16 = n by omega, show (16 * n + j) % 16 = j by omega, hG, hch.out, htt, hf]
          rfl
        have hat : Hid (∀ X, Ext WB X → Calls Try.prog 60 #[.pointer (some ⟨q, 0, none⟩), .slice (some (a.add (16 * n))) 16 (cap - 16 * n), .agg (row 16 (yv tt)).toArray, .bool false] X fun e w' => ∃ v, e = .returned v ∧ OwnB X.heap.size 5 v 16 (yv G) w' ∧ Below X.heap.size X w') := fun X hX => by
          rw [hG]; exact ratE_any base0 q r S1 S2 hr hr2 (a.add (16 * n)) (cap - 16 * n) f tt X (HPB.out.ext hX) (HL.out X hX)
        clear hG hf htt HL
        have hne := kept_ne wr.drew
        go_upto_region 12 with (fail)
        refine wp_region_lateF [0] [_] [1, 2, 3, 4, 5, 6, 7, 8, 9, 10, 11, 12, 13] [_, _, _, _, _, _, _, _, _, _, _, _, _] [14, 15, 16] [_, _, _] (by kernel_rfl) (by kernel_rfl) (fun _ _ _ _ _ h => h) (by kernel_rfl) rfl (by kernel_rfl) rfl rfl (by decide +kernel) (by kernel_rfl) (by kernel_rfl) (by decide +kernel) (by decide +kernel) (by decide +kernel) (by decide +kernel) (by decide +kernel) (by decide +kernel) ?_
        simp only [List.getElem_toArray, List.getElem_cons_zero, List.getElem_cons_succ]
        refine wpPure_one u13 rfl (fun X => by simp [go_sem]) ?_
        simp only [Act.put, List.setIfInBounds_toArray, List.set_cons_zero, List.set_cons_succ]
        refine wpPure_nil ?_
        refine wpStrong_run 13 rfl ?_
        simp only [List.take_succ_cons, List.take_zero, List.drop_succ_cons, List.drop_zero]
        repeat (go_big_quiet_step (fail))
        go_big_quiet_want
        refine loadQ 23 (.tmp 61) tb (n * 16) 16 (yv tt) rfl rfl (fun w' hw' => HTR.out w' (Ext.trans (Ext.trans HE.out ((Below.refl _ _).drew)) hw')) Try.underlying23 rfl info32 ?_
        simp only [Act.put, List.setIfInBounds_toArray, List.set_cons_zero, List.set_cons_succ]
        go_big_quiet_on
        repeat (go_big_quiet_step (fail))
        refine wpQuiet_nil ?_
        refine wpStrong_nil ?_
        intro X hX
        have hX' : Ext wr X := Ext.trans ((Below.refl _ _).drew) hX
        have HOX := hideit (HO.out.ext hX')
        have HEX : Hid (Ext WB X) := hideit (Ext.trans HE.out hX')
        have hatX := hideit (hat.out X HEX.out)
        clear hne hX hX' HO HE HTR hat
        try rw [n10]
        refine wpList_call rfl (by simp [go_sem]) (hatX.out.mono ?_)
        rintro e w5 ⟨v5, rfl, hO5, h5⟩
        refine ⟨_, rfl, ?_⟩
        simp only [Act.put, List.setIfInBounds_toArray, List.set_cons_zero, List.set_cons_succ]
        have HO5 := HOX.out.ext h5
        have HE5 : Ext WB w5 := Ext.trans HEX.out h5
        refine wpList_growV (n := 16 * n) elem22 rfl (.tmp 50) (.tmp 64) rfl rfl HO5 v5 16 G (yv (fronts ch t0 D)) rfl hO5.bv (fun _ _ => rfl) (fun j hj => by simp only [yv]; rw [hGG.out j hj]) (by omega) (Below.size HE5) ?_
        intro v6 w6 ho hg
        have HE6 : Hid (Ext WB w6) := hideit (gr_ext HE5 hg (fun k h => (HO5.lt k h).1))
        rw [show 16 * n + 16 = 16 * (n + 1) by omega] at ho
        replace ho := hideit ho
        clear hg HO5 HE5 hO5 h5 HOX HEX hatX hGG
        simp only [Act.put, List.setIfInBounds_toArray, List.set_cons_zero, List.set_cons_succ]
        go_wp2
        go_roundw
        case rel =>
          first | exact ⟨(n + 1 : Nat), by omega, by go_num, ho.out, HE6.out⟩ | ((repeat apply Exists.intro); exact ⟨⟨n + 1, by omega, by go_num, ho.out, HE6.out⟩, rfl⟩)
        case measure => simp [intOf]; omega
      · obtain rfl : n = nb := by omega
        have n1 : ¬ (n : Int) < (n : Int) := by omega
        have q0 : (0 : Int) ≤ (wh : Int) - 1 := by omega
        have q2 : (n : Int) < (wh : Int) + 1 := by omega
        have q3 : (n : Int) + 1 < (wh : Int) + 1 := by omega
        have q4 : (0 : Int) ≤ (n : Int) := by omega
        have q5 : (n : Int) ≤ 4096 := by omega
        obtain ⟨T1, hT1⟩ : ∃ T1, T1 = dK 135#128 n t0 := ⟨_, rfl⟩
        obtain ⟨T2, hT2⟩ : ∃ T2, T2 = dX 135#128 (dK 135#128 n t0) := ⟨_, rfl⟩
        obtain ⟨y1, hy1⟩ : ∃ y1, y1 = byB T1 := ⟨_, rfl⟩
        obtain ⟨y2, hy2⟩ : ∃ y2, y2 = byB T2 := ⟨_, rfl⟩
        have HTR : Hid (∀ X, Ext WB X → X.rangeAt tb (n * 16) (row 16 (yv y1)) ∧ X.rangeAt tb ((n + 1) * 16) (row 16 (yv y2))) := fun X hX => ⟨fun j v hv => by
          obtain ⟨hj, rfl⟩ := row_some hv
          rw [(HTW.out.carry hX).1 (n * 16 + j) (by omega)]
          simp only [yv, twsF]
          rw [show (n * 16 + j) / 16 = n by omega, show (n * 16 + j) % 16 = j by omega, hy1, hT1], fun j v hv => by
          obtain ⟨hj, rfl⟩ := row_some hv
          rw [(HTW.out.carry hX).1 ((n + 1) * 16 + j) (by omega)]
          simp only [yv, twsF]
          rw [show ((n + 1) * 16 + j) / 16 = n + 1 by omega, show ((n + 1) * 16 + j) % 16 = j by omega, hy2, hT2]
          rfl⟩
        obtain ⟨f, hf⟩ : ∃ f : Nat → BitVec 8, f = fun j => D (16 * n + j) := ⟨_, rfl⟩
        obtain ⟨L, hL⟩ : ∃ L, L = addF ((encF S1 bxT twT r) (addF f y1)) y1 := ⟨_, rfl⟩
        have hLL : Hid (L = lendF ch T1 D (16 * n)) := by unfold Hid lendF; rw [hL, hch.out, hf, hy1]; rfl
        obtain ⟨PF, hPF⟩ : ∃ PF, PF = fillF L D (16 * n) sh := ⟨_, rfl⟩
        obtain ⟨G, hG⟩ : ∃ G, G = addF ((encF S1 bxT twT r) (addF PF y2)) y2 := ⟨_, rfl⟩
        have hGG : Hid (G = ch T2 (fillF (lendF ch T1 D (16 * n)) D (16 * n) sh)) := by unfold Hid; rw [hG, hPF, ← hLL.out, hch.out, hy2]; rfl
        have hat1 : Hid (∀ X, Ext WB X → Calls Try.prog 60 #[.pointer (some ⟨q, 0, none⟩), .slice (some (a.add (16 * n))) 16 (cap - 16 * n), .agg (row 16 (yv y1)).toArray, .bool false] X fun e w' => ∃ v, e = .returned v ∧ OwnB X.heap.size 5 v 16 (yv L) w' ∧ Below X.heap.size X w') := fun X hX => by
          rw [hL]
          refine ratE_any base0 q r S1 S2 hr hr2 (a.add (16 * n)) (cap - 16 * n) f y1 X (HPB.out.ext hX) ?_
          have h1 := HDB.out.carry hX
          refine ⟨fun j hj => ?_, by rw [add_block]; exact h1.2⟩
          rw [add_add', h1.1 (16 * n + j) (by have := hw3.out; omega), hf]
          rfl
        have hat2 : Hid (∀ X, Ext WB X → ∀ lb lc, LieAt ⟨lb, 0, none⟩ 16 (yv PF) X → Calls Try.prog 60 #[.pointer (some ⟨q, 0, none⟩), .slice (some ⟨lb, 0, none⟩) 16 lc, .agg (row 16 (yv y2)).toArray, .bool false] X fun e w' => ∃ v, e = .returned v ∧ OwnB X.heap.size 5 v 16 (yv G) w' ∧ Below X.heap.size X w') := fun X hX lb lc h => by
          rw [hG]
          exact ratE_any base0 q r S1 S2 hr hr2 ⟨lb, 0, none⟩ lc PF y2 X (HPB.out.ext hX) h
        have HSA : Hid (∀ X, Ext WB X → LieAt (a.add (16 * n + 16)) sh (yv fun i => D (16 * n + 16 + i)) X) := fun X hX => by
          have h1 := HDB.out.carry hX
          refine ⟨fun j hj => ?_, by rw [add_block]; exact h1.2⟩
          rw [add_add', h1.1 (16 * n + 16 + j) (by have := hw3.out; omega)]
          rfl
        replace hPF := hideit hPF
        replace hT1 := hideit hT1
        replace hT2 := hideit hT2
        clear hL hG hy1 hy2 hf
        have hne := kept_ne wr.drew
        go_upto_region 16 with (fail)
        refine wp_region_made2s 9 16 (yv fun _ => 0#8) 16 (yv fun _ => 0#8) (yv y1) _ _ _ (by kernel_rfl) (by kernel_rfl) rfl rfl rfl (makes23 rfl rfl) (makes23 rfl rfl) ?_
        simp only [List.take_succ_cons, List.take_zero, List.drop_succ_cons, List.drop_zero]
        refine wpStrong_run 9 rfl ?_
        simp only [List.take_succ_cons, List.take_zero, List.drop_succ_cons, List.drop_zero]
        repeat (go_big_quiet_step (fail))
        go_big_quiet_want
        refine loadQ 23 (.tmp 73) tb (n * 16) 16 (yv y1) rfl rfl (fun w' hw' => (HTR.out w' (Ext.trans (Ext.trans HE.out ((Below.refl _ _).drew)) hw')).1) Try.underlying23 rfl info32 ?_
        simp only [Act.put, List.setIfInBounds_toArray, List.set_cons_zero, List.set_cons_succ]
        go_big_quiet_on
        repeat (go_big_quiet_step (fail))
        go_big_quiet_want
        refine loadQ 23 (.tmp 78) tb ((n + 1) * 16) 16 (yv y2) rfl rfl (fun w' hw' => (HTR.out w' (Ext.trans (Ext.trans HE.out ((Below.refl _ _).drew)) hw')).2) Try.underlying23 rfl info32 ?_
        simp only [Act.put, List.setIfInBounds_toArray, List.set_cons_zero, List.set_cons_succ]
        go_big_quiet_on
        refine wpQuiet_nil ?_
        refine wpStrong_nil ?_
        intro b1 b2 hb1 hb2 hb12
        simp only [Act.put, List.setIfInBounds_toArray, List.set_cons_zero, List.set_cons_succ]
        refine ⟨writes_row rfl 23 (.tmp 17) (.tmp 74) rfl b1 16 _ _ rfl rfl info32 (fun _ _ => rfl), fun X hX HR1 HR2 => ?_⟩
        have hX' : Ext wr X := Ext.trans ((Below.refl _ _).drew) hX
        have HEX : Ext WB X := Ext.trans HE.out hX'
        have HOX := HO.out.ext hX'
        have hu1 : u13.ownBlock ≠ some b1 := fun h => by have := (HO.out.lt b1 h).2; omega
        have hu2 : u13.ownBlock ≠ some b2 := fun h => by have := (HO.out.lt b2 h).2; omega
        have hWb1 : WB.heap.size ≤ b1 := by have := Below.size HE.out; omega
        have hWb2 : WB.heap.size ≤ b2 := by have := Below.size HE.out; omega
        replace HR2 := hideit HR2
        refine wpList_store_mid rfl 23 (.tmp 18) (.tmp 79) rfl b2 0 (row 16 (yv y2)).toArray rfl rfl (by rw [row_size]; exact HR2.out.there) (by rw [row_size]; exact info32) (row_one fun _ _ => rfl) ?_
        have HBu : But b2 X (X.setCells b2 0 (row 16 (yv y2))) := But.sets _ 0 _ (But.refl _ _)
        have R1 := hideit (RowAt.but HR1 HBu hb12)
        have R2 := hideit (HR2.out.cells (g' := yv y2))
        have HE1 : Hid (Ext WB (X.setCells b2 0 (row 16 (yv y2)))) := hideit (Ext.but HEX HBu hWb2)
        have HO1 := hideit (HOX.but HBu hu2)
        clear HR1 HR2 HBu HEX HOX hX hX' hne HO HE
        generalize X.setCells b2 0 (row 16 (yv y2)) = Y1 at *
        simp only [Act.put]
        have q6 : (n : Int) < (wh : Int) := by omega
        have q7 : n < wh := by omega
        have q9 : (0 : Int) ≤ (n : Int) + 1 := by omega
        have q11 : IntKind.i64.wrap ((n : Int) + 1) = (n : Int) + 1 := by rw [IntKind.wrap_i64]; omega
        go_upto_region 19 with (fail)
        generalize Y1 = Y2 at *
        have hD : Ext Y2 Y2.drew := (Ext.refl Y2).draw
        have R1a := hideit (R1.out.carry hD)
        have R2a := hideit (R2.out.carry hD)
        have HOa := hideit (HO1.out.ext hD)
        have HEa := hideit (Ext.trans HE1.out hD)
        clear R1 R2 HO1 HE1 hD HTR
        obtain ⟨F, hF⟩ : ∃ F, F = xE S1 S2 r u D l := ⟨_, rfl⟩
        have hst : Hid (F = stealF ch T1 T2 (fronts ch t0 D) D (16 * n) sh) := hideit (by
          rw [hF, xE_unit]
          unfold unitF
          rw [if_neg hm0.out, ← hnb.out, ← ht0.out, ← hch.out, hw3.out.2.2.2, hT1.out, hT2.out])
        have hF1 : Hid (∀ j, j < 16 * n → fronts ch t0 D j = F j) := hideit (fun j hj => by rw [hst.out]; unfold stealF; rw [if_pos hj])
        have hF2 : Hid (∀ j, j < 16 → G j = F (16 * n + j)) := hideit (fun j hj => by rw [hst.out, hGG.out]; unfold stealF; rw [if_neg (by omega), if_pos (by omega), Nat.add_sub_cancel_left])
        have hF3 : Hid (∀ j, j < sh → L j = F (16 * n + 16 + j)) := hideit (fun j hj => by rw [hst.out, hLL.out]; unfold stealF; rw [if_neg (by omega), if_neg (by omega), Nat.add_sub_cancel_left])
        have hP1 : Hid (∀ j, j < sh → D (16 * n + 16 + j) = PF j) := hideit (fun j hj => by rw [hPF.out]; unfold fillF; rw [if_pos hj])
        have hP2 : Hid (∀ j, L (sh + j) = PF (sh + j)) := hideit (fun j => by rw [hPF.out]; unfold fillF; rw [if_neg (by omega)])
        replace hF := hideit hF
        have HOf := hideit (HOa.out.congr (g' := yv F) fun j hj => by simp only [yv]; rw [hF1.out j hj])
        have u1 := cutU a l cap n (by have := hw3.out; omega) hcap (by have := hw3.out; have := hl2; omega)
        have u2 := cutV2 a l cap n sh hw3.out.1 hcap hl2 hw3.out.2.2.1
        have m16 : IntKind.i64.wrap (16 * (n : Int)) = 16 * (n : Int) := by rw [IntKind.wrap_i64]; omega
        have a16 : IntKind.i64.wrap (16 * (n : Int) + 16) = 16 * (n : Int) + 16 := by rw [IntKind.wrap_i64]; omega
        clear HOa hst hF1
        refine wp_region_lad (fun X => Ext Y2.drew X) [(false, 0), (false, 1), (false, 2), (false, 3), (false, 4), (false, 5), (false, 6), (false, 7), (false, 8), (false, 9), (true, 10), (false, 11)] (by kernel_rfl) (by kernel_rfl) (by decide +kernel) (by decide +kernel) (by decide +kernel) (by decide +kernel) (Ext.refl _) ?_
        refine wpX_f _ (.pointer (some ⟨q, 0, none⟩)) rfl rfl (fun X _ => by simp [go_sem]) ?_
        simp only [List.getElem_toArray, List.getElem_cons_zero, Act.put, List.setIfInBounds_toArray, List.set_cons_zero, List.set_cons_succ]
        refine wpX_f _ (.slice (some a) l cap) rfl rfl (fun X _ => by simp [go_sem]) ?_
        simp only [List.getElem_toArray, List.getElem_cons_zero, List.getElem_cons_succ, Act.put, List.setIfInBounds_toArray, List.set_cons_zero, List.set_cons_succ]
        refine wpX_f _ (.int .i64 (n : Int)) rfl rfl (fun X _ => by simp [go_sem]) ?_
        simp only [List.getElem_toArray, List.getElem_cons_zero, List.getElem_cons_succ, Act.put, List.setIfInBounds_toArray, List.set_cons_zero, List.set_cons_succ]
        refine wpX_f _ (.int .i64 (16 * (n : Int))) rfl rfl (fun X _ => by simp [go_sem, m16]) ?_
        simp only [List.getElem_toArray, List.getElem_cons_zero, List.getElem_cons_succ, Act.put, List.setIfInBounds_toArray, List.set_cons_zero, List.set_cons_succ]
        refine wpX_f _ (.int .i64 (n : Int)) rfl rfl (fun X _ => by simp [go_sem]) ?_
        simp only [List.getElem_toArray, List.getElem_cons_zero, List.getElem_cons_succ, Act.put, List.setIfInBounds_toArray, List.set_cons_zero, List.set_cons_succ]
        refine wpX_f _ (.int .i64 (16 * (n : Int))) rfl rfl (fun X _ => by simp [go_sem, m16]) ?_
        simp only [List.getElem_toArray, List.getElem_cons_zero, List.getElem_cons_succ, Act.put, List.setIfInBounds_toArray, List.set_cons_zero, List.set_cons_succ]
        refine wpX_f _ (.int .i64 (16 * (n : Int) + 16)) rfl rfl (fun X _ => by simp [go_sem, a16]) ?_
        simp only [List.getElem_toArray, List.getElem_cons_zero, List.getElem_cons_succ, Act.put, List.setIfInBounds_toArray, List.set_cons_zero, List.set_cons_succ]
        refine wpX_f _ (.slice (some (a.add (16 * n))) 16 (cap - 16 * n)) rfl rfl (fun X hX => by simp [go_sem, u1]) ?_
        simp only [List.getElem_toArray, List.getElem_cons_zero, List.getElem_cons_succ, Act.put, List.setIfInBounds_toArray, List.set_cons_zero, List.set_cons_succ]
        refine wpX_f _ (.agg (row 16 (yv y1)).toArray) rfl rfl (fun X hX => loadE 23 (.tmp 17) b1 0 16 (yv y1) rfl rfl (R1a.out.carry hX).range Try.underlying23 rfl info32) ?_
        simp only [List.getElem_toArray, List.getElem_cons_zero, List.getElem_cons_succ, Act.put, List.setIfInBounds_toArray, List.set_cons_zero, List.set_cons_succ]
        refine wpX_f _ (.bool false) rfl rfl (fun X _ => by simp [go_sem]) ?_
        simp only [List.getElem_toArray, List.getElem_cons_zero, List.getElem_cons_succ, Act.put, List.setIfInBounds_toArray, List.set_cons_zero, List.set_cons_succ]
        refine wpX_call _ rfl rfl (by simp [go_sem]) ((hat1.out Y2.drew HEa.out).mono ?_)
        rintro e Yb ⟨cv, rfl, hOc, hXb⟩
        obtain ⟨cb, cc, rfl, hcc, _, LC, hcb⟩ := lies_own hOc (by decide)
        refine ⟨_, rfl, fun X => Ext Yb X, fun X hX => Ext.trans hXb hX, Ext.refl _, ?_⟩
        simp only [List.getElem_toArray, List.getElem_cons_zero, List.getElem_cons_succ, Act.put, List.setIfInBounds_toArray, List.set_cons_zero, List.set_cons_succ]
        refine wpX_f _ (.slice (some ⟨cb, 0, none⟩) 16 cc) rfl rfl (fun X _ => by simp [go_sem]) ?_
        simp only [List.getElem_toArray, List.getElem_cons_zero, List.getElem_cons_succ, Act.put, List.setIfInBounds_toArray, List.set_cons_zero, List.set_cons_succ]
        refine wpX_nil ?_
        have hcu : Hid (∀ k, u13.ownBlock = some k → k ≠ cb) := hideit (fun k hk => by have := (HOf.out.lt k hk).2; omega)
        have R2b := hideit (R2a.out.carry hXb)
        have HOb := hideit (HOf.out.ext hXb)
        have HEb := hideit (Ext.trans HEa.out hXb)
        replace LC := hideit LC
        replace hcc := hideit hcc
        clear R1a R2a HOf HEa hXb hOc hcb hat1
        go_upto_region 20 with (fail)
        have hD : Ext Yb Yb.drew := (Ext.refl Yb).draw
        have O0 := own_empty Yb.drew Yb.drew.heap.size 5 (yv PF) (Nat.le_refl _)
        have hX0 : Ext Yb.drew (Yb.drew.alloc (.cells #[] 5)) := (Below.refl _ _).alloc (Nat.le_refl _) _
        obtain ⟨v6, Yd, hr6, O6, hg6⟩ := run_growF 22 O0 (a.add (16 * n + 16)) sh (cap - (16 * n + 16)) (yv fun i => D (16 * n + 16 + i)) (yv PF) (HSA.out _ (Ext.trans (Ext.trans HEb.out hD) hX0)) (fun _ _ => rfl) (fun j hj => absurd hj (by omega)) (fun j hj => by simp only [yv]; rw [hP1.out j hj, Nat.zero_add]) (by omega) (Below.size hX0)
        have hX6 : Ext Yb.drew Yd := gr_ext hX0 hg6 (fun k h => (O0.lt k h).1)
        have LC6 := (LC.out.carry hD).carry hX6
        have LL6 : LieAt ⟨cb, sh, none⟩ (16 - sh) (yv fun i => L (sh + i)) Yd := ⟨fun j hj => by rw [add_none, LC6.1 (sh + j) (by omega)]; rfl, LC6.2.2⟩
        obtain ⟨v10, Ye, hr10, O10, hg10⟩ := run_growF 22 O6 ⟨cb, sh, none⟩ (16 - sh) (cc - sh) (yv fun i => L (sh + i)) (yv PF) LL6 (fun _ _ => rfl) (fun _ _ => rfl) (fun j hj => by simp only [yv]; rw [hP2.out j, Nat.zero_add]) (by omega) (Below.size hX6)
        have hX10 : Ext Yb.drew Ye := gr_ext hX6 hg10 (fun k h => (O6.lt k h).1)
        have u3 := cutC cb cc sh hcc.out hw3.out.2.1 hw3.out.2.2.1
        have u4 := cutD cb cc sh hcc.out hw3.out.2.1
        refine wp_region_lad (fun _ => True) [(false, 1), (false, 2), (false, 3), (false, 4), (false, 5), (false, 7), (false, 8), (false, 9), (true, 0), (true, 6), (true, 10), (false, 11)] (by kernel_rfl) (by kernel_rfl) (by decide +kernel) (by decide +kernel) (by decide +kernel) (by decide +kernel) trivial ?_
        refine wpX_f _ (.slice (some a) l cap) rfl rfl (fun X _ => by simp [go_sem]) ?_
        simp only [List.getElem_toArray, List.getElem_cons_zero, List.getElem_cons_succ, Act.put, List.setIfInBounds_toArray, List.set_cons_zero, List.set_cons_succ]
        refine wpX_f _ (.int .i64 (n : Int)) rfl rfl (fun X _ => by simp [go_sem]) ?_
        simp only [List.getElem_toArray, List.getElem_cons_zero, List.getElem_cons_succ, Act.put, List.setIfInBounds_toArray, List.set_cons_zero, List.set_cons_succ]
        refine wpX_f _ (.int .i64 (16 * (n : Int))) rfl rfl (fun X _ => by simp [go_sem, m16]) ?_
        simp only [List.getElem_toArray, List.getElem_cons_zero, List.getElem_cons_succ, Act.put, List.setIfInBounds_toArray, List.set_cons_zero, List.set_cons_succ]
        refine wpX_f _ (.int .i64 (16 * (n : Int) + 16)) rfl rfl (fun X _ => by simp [go_sem, a16]) ?_
        simp only [List.getElem_toArray, List.getElem_cons_zero, List.getElem_cons_succ, Act.put, List.setIfInBounds_toArray, List.set_cons_zero, List.set_cons_succ]
        refine wpX_f _ (.slice (some (a.add (16 * n + 16))) sh (cap - (16 * n + 16))) rfl rfl (fun X hX => by simp [go_sem, u2]) ?_
        simp only [List.getElem_toArray, List.getElem_cons_zero, List.getElem_cons_succ, Act.put, List.setIfInBounds_toArray, List.set_cons_zero, List.set_cons_succ]
        refine wpX_f _ (.slice (some ⟨cb, 0, none⟩) 16 cc) rfl rfl (fun X _ => by simp [go_sem]) ?_
        simp only [List.getElem_toArray, List.getElem_cons_zero, List.getElem_cons_succ, Act.put, List.setIfInBounds_toArray, List.set_cons_zero, List.set_cons_succ]
        refine wpX_f _ (.int .i64 (sh : Int)) rfl rfl (fun X _ => by simp [go_sem]) ?_
        simp only [List.getElem_toArray, List.getElem_cons_zero, List.getElem_cons_succ, Act.put, List.setIfInBounds_toArray, List.set_cons_zero, List.set_cons_succ]
        refine wpX_f _ (.slice (some ⟨cb, sh, none⟩) (16 - sh) (cc - sh)) rfl rfl (fun X hX => by simp [go_sem, u3]) ?_
        simp only [List.getElem_toArray, List.getElem_cons_zero, List.getElem_cons_succ, Act.put, List.setIfInBounds_toArray, List.set_cons_zero, List.set_cons_succ]
        refine wpX_to _ (.slice (some ⟨Yb.drew.heap.size, 0, none⟩) 0 0) (Yb.drew.alloc (.cells #[] 5)) rfl rfl (by simp [go_sem]) (fun _ => True) (fun _ h => h) trivial ?_
        simp only [List.getElem_toArray, List.getElem_cons_zero, Act.put, List.setIfInBounds_toArray, List.set_cons_zero, List.set_cons_succ]
        refine wpX_to _ v6 Yd rfl rfl (exec_append (.tmp 101) (.tmp 106) 22 22 rfl _ _ _ rfl rfl hr6) (fun _ => True) (fun _ h => h) trivial ?_
        simp only [List.getElem_toArray, List.getElem_cons_zero, List.getElem_cons_succ, Act.put, List.setIfInBounds_toArray, List.set_cons_zero, List.set_cons_succ]
        refine wpX_to _ v10 Ye rfl rfl (exec_append (.tmp 107) (.tmp 110) 22 22 rfl _ _ _ rfl rfl hr10) (fun _ => True) (fun _ h => h) trivial ?_
        simp only [List.getElem_toArray, List.getElem_cons_zero, List.getElem_cons_succ, Act.put, List.setIfInBounds_toArray, List.set_cons_zero, List.set_cons_succ]
        obtain ⟨lb, lc, rfl, hlc, LP, _, _⟩ := lies_own O10 (by omega)
        rw [show 0 + sh + (16 - sh) = 16 by omega] at LP ⊢
        refine wpX_f _ (.slice (some ⟨lb, 0, none⟩) 16 lc) rfl rfl (fun X _ => by simp [go_sem]) ?_
        simp only [List.getElem_toArray, List.getElem_cons_zero, List.getElem_cons_succ, Act.put, List.setIfInBounds_toArray, List.set_cons_zero, List.set_cons_succ]
        refine wpX_nil ?_
        have hXe := Ext.trans hD hX10
        have R2e := hideit (R2b.out.carry hXe)
        have HOe := hideit (HOb.out.ext hXe)
        have HEe := hideit (Ext.trans HEb.out hXe)
        have LCe := hideit (LC.out.carry hXe)
        have k2 := hideit (hat2.out Ye HEe.out lb lc LP)
        clear R2b HOb HEb LC hXe hX10 hg10 O10 hr10 LL6 LC6 hX6 hg6 O6 hr6 hX0 O0 hD hlc LP hat2 HSA
        go_upto_region 21 with (fail)
        refine wp_region_lit ?_
        refine wpList_run rfl (u13) (by simp [go_sem]) ?_
        simp only [Act.put, List.setIfInBounds_toArray, List.set_cons_zero, List.set_cons_succ]
        refine wpList_run rfl (.pointer (some ⟨q, 0, none⟩)) (by simp [go_sem]) ?_
        simp only [Act.put, List.setIfInBounds_toArray, List.set_cons_zero, List.set_cons_succ]
        refine wpList_run rfl (.slice (some ⟨lb, 0, none⟩) 16 lc) (by simp [go_sem]) ?_
        simp only [Act.put, List.setIfInBounds_toArray, List.set_cons_zero, List.set_cons_succ]
        refine wpList_run rfl (.agg (row 16 (yv y2)).toArray) (loadE 23 (.tmp 18) b2 0 16 (yv y2) rfl rfl R2e.out.range Try.underlying23 rfl info32) ?_
        simp only [Act.put, List.setIfInBounds_toArray, List.set_cons_zero, List.set_cons_succ]
        refine wpList_run rfl (.bool false) (by simp [go_sem]) ?_
        simp only [Act.put, List.setIfInBounds_toArray, List.set_cons_zero, List.set_cons_succ]
        refine wpList_call rfl (by simp [go_sem]; exact ⟨rfl, rfl⟩) ?_
        refine (k2.out).mono ?_
        rintro e Yf ⟨ov, rfl, hOo, hXf⟩
        refine ⟨_, rfl, ?_⟩
        simp only [Act.put, List.setIfInBounds_toArray, List.set_cons_zero, List.set_cons_succ]
        have HOg := HOe.out.ext hXf
        have HEg := Ext.trans HEe.out hXf
        have LCg := LCe.out.carry hXf
        refine wpList_growV (n := 16 * n) elem22 rfl (.tmp 112) (.tmp 117) rfl rfl HOg ov 16 G (yv F) rfl hOo.bv (fun _ _ => rfl) (fun j hj => by simp only [yv]; rw [hF2.out j hj]) (by omega) (Below.size HEg) ?_
        intro v13 Yh ho hg
        have HEh := hideit (gr_ext HEg hg (fun k h => (HOg.lt k h).1))
        have LCh := hideit (LCg.grown hg (fun h => hcu.out cb h.symm rfl))
        replace ho := hideit ho
        clear HOg HEg LCg hg hOo hXf R2e HOe HEe LCe k2
        simp only [Act.put, List.setIfInBounds_toArray, List.set_cons_zero, List.set_cons_succ]
        go_upto_region 22 with (fail)
        refine wp_region_lit ?_
        refine wpList_run rfl (v13) (by simp [go_sem]) ?_
        simp only [Act.put, List.setIfInBounds_toArray, List.set_cons_zero, List.set_cons_succ]
        refine wpList_run rfl (.slice (some ⟨cb, 0, none⟩) 16 cc) (by simp [go_sem]) ?_
        simp only [Act.put, List.setIfInBounds_toArray, List.set_cons_zero, List.set_cons_succ]
        refine wpList_run rfl (.int .i64 (sh : Int)) (by simp [go_sem]) ?_
        simp only [Act.put, List.setIfInBounds_toArray, List.set_cons_zero, List.set_cons_succ]
        refine wpList_run rfl (.slice (some ⟨cb, 0, none⟩) sh cc) (by simp [go_sem, u4]) ?_
        simp only [Act.put, List.setIfInBounds_toArray, List.set_cons_zero, List.set_cons_succ]
        refine wpList_growV (n := 16 * n + 16) elem22 rfl (.tmp 119) (.tmp 122) rfl rfl ho.out (.slice (some ⟨cb, 0, none⟩) sh cc) sh L (yv F) rfl (.inr ⟨_, cc, rfl, by have := hcc.out; have := hw3.out; omega, fun j hj => (lie_of_row LCh.out).1 j (by have := hw3.out; omega), LCh.out.2.2⟩) (fun _ _ => rfl) (fun j hj => by simp only [yv]; rw [hF3.out j hj]) (by have := hw3.out; have := hl2; omega) (Below.size HEh.out) ?_
        intro v8 Yi hoi hgi
        have HEi := hideit (gr_ext HEh.out hgi (fun k h => (ho.out.lt k h).1))
        have HOF : Hid (OwnB w.heap.size 5 v8 l (yv (xE S1 S2 r u D l)) Yi) := hideit (by
          rw [← hF.out]
          rw [← hw3.out.1] at hoi
          exact ⟨hoi.1, hoi.2.imp id fun ⟨g, cp, cur, k1, k2, k3⟩ => ⟨g, cp, cur, k1, by have := Below.size HEB.out; omega, k3⟩⟩)
        have HBF := hideit (Ext.trans HEB.out HEi.out)
        clear ho hgi hoi HEh LCh HEi hF2 hF3 hP1 hP2 u1 u2 u3 u4
        simp only [Act.put, List.setIfInBounds_toArray, List.set_cons_zero, List.set_cons_succ]
        go_wp2
        refine bodyPost_ret (results_tmp2 Try.results45 _ _ _) rfl ?_
        exact ⟨v8, rfl, HOF.out, HBF.out⟩
end Go.Proofs.Ytkoodgfadedeoaa
