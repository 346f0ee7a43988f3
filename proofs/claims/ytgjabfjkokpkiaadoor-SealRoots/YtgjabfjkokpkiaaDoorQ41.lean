/-
  A region that draws its order, told as in Lad; besides, an operation that waits for all that is listed ahead of it may turn what the floating reads saw; no word of the program. A block of tags with another record.
-/
import Derived.Test.YtgjabfjkokpkiaaDoorQ22
import Derived.Test.YtgjabfjkokpkiaaDoorQ40
namespace Go.Proofs.YtgjabfjkokpkiaaDoor
open Go.RowKit
section
variable {P : Program} {ops : Array Oper} {Q : Exit → Act → World → Prop} {brk : List Nat}
def wpZ (P : Program) (ops : Array Oper) (Q : Exit → Act → World → Prop) (brk : List Nat) : List (Bool × Nat) → (World → Prop) → Act → World → Prop
  | [], _, a, w => Q .normal a w
  | (false, i) :: r, C, a, w => ∃ o v, ops[i]? = some o ∧ StrC P ops C o v a ∧ wpZ P ops Q brk r C (a.put o.dst v) w
  | (true, i) :: r, C, a, w => ∃ o, ops[i]? = some o ∧ EffY P ops o w (fun v w' => ∃ C' : World → Prop, (i ∈ brk ∨ ∀ X, C' X → C X) ∧ C' w' ∧ wpZ P ops Q brk r C' (a.put o.dst v) w') a
theorem wpZ_float {C : World → Prop} (hsel : ∀ (j : Nat) (o : Oper) cs b, ops[j]? = some o → o.op ≠ .select cs b) {i : Nat} {o : Oper} (hi : ops[i]? = some o) (s2 : List (Bool × Nat)) {w : World} : ∀ (s1 : List (Bool × Nat)) (a : Act), (∀ p ∈ s1, p.1 = false ∧ ∀ ok, ops[p.2]? = some ok → ok.apart ops o = true) →
    wpZ P ops Q brk (s1 ++ (false, i) :: s2) C a w → ∃ v, StrC P ops C o v a ∧ wpZ P ops Q brk (s1 ++ s2) C (a.put o.dst v) w
  | [], a, _, ⟨o', v, h1, h2, h3⟩ => by
    rw [hi] at h1
    injection h1 with h1
    subst h1
    exact ⟨v, h2, h3⟩
  | (true, k) :: s1, a, hap, h => by have := (hap (true, k) List.mem_cons_self).1; cases this
  | (false, k) :: s1, a, hap, ⟨ok, vk, h1, h2, h3⟩ => by
    obtain ⟨p1, p2, p3⟩ := Oper.apart_spec ((hap (false, k) List.mem_cons_self).2 ok h1)
    obtain ⟨v, g1, g2⟩ := wpZ_float hsel hi s2 s1 _ (fun k' hk' => hap k' (List.mem_cons_of_mem _ hk')) h3
    refine ⟨v, (StrC.put (fun cs b => hsel i o cs b hi) p1).1 g1, ok, vk, h1, (StrC.put (fun cs b => hsel k ok cs b h1) p3).2 h2, ?_⟩
    rw [← Act.put_comm a vk v p2]
    exact g2
theorem wpZ_stand {C : World → Prop} (hsel : ∀ (j : Nat) (o : Oper) cs b, ops[j]? = some o → o.op ≠ .select cs b) {i : Nat} {o : Oper} (hi : ops[i]? = some o) (s2 : List (Bool × Nat)) {w : World} : ∀ (s1 : List (Bool × Nat)) (a : Act), (s1 = [] ∨ i ∉ brk) → (∀ p ∈ s1, p.1 = false ∧ ∀ ok, ops[p.2]? = some ok → ok.apart ops o = true) →
    wpZ P ops Q brk (s1 ++ (true, i) :: s2) C a w → EffY P ops o w (fun v w' => ∃ C' : World → Prop, (i ∈ brk ∨ ∀ X, C' X → C X) ∧ C' w' ∧ wpZ P ops Q brk (s1 ++ s2) C' (a.put o.dst v) w') a
  | [], a, _, _, ⟨o', h1, h2⟩ => by
    rw [hi] at h1
    injection h1 with h1
    subst h1
    exact h2
  | (true, k) :: s1, a, _, hap, h => by have := (hap (true, k) List.mem_cons_self).1; cases this
  | (false, k) :: s1, a, hb, hap, ⟨ok, vk, h1, h2, h3⟩ => by
    have hnb : i ∉ brk := by
      rcases hb with hb | hb
      · cases hb
      · exact hb
    obtain ⟨p1, p2, p3⟩ := Oper.apart_spec ((hap (false, k) List.mem_cons_self).2 ok h1)
    have g := wpZ_stand hsel hi s2 s1 _ (.inr hnb) (fun k' hk' => hap k' (List.mem_cons_of_mem _ hk')) h3
    refine EffY.mono (fun v w' ⟨C', c1, c2, c3⟩ => ⟨C', c1, c2, ok, vk, h1, ((StrC.put (fun cs b => hsel k ok cs b h1) p3).2 h2).mono (c1.resolve_left hnb), ?_⟩) ((EffY.put (fun cs b => hsel i o cs b hi) p1).1 g)
    rw [← Act.put_comm a vk v p2]
    exact c3
structure LadZAt (P : Program) (ops : Array Oper) (Q : Exit → Act → World → Prop) (brk : List Nat) (l : List (Bool × Nat)) (L : Array Bool) (A : Act) (w : World) : Prop where
  size : L.size = ops.size
  closed : Closed ops L
  way : ∃ C : World → Prop, C w ∧ wpZ P ops Q brk (lfx L l) C A w
def ladZB (ops : Array Oper) (brk : List Nat) (p q : Bool × Nat) : Bool := ladB ops p q && (!brk.contains q.2 || reachB ops q.2 p.2)
theorem wp_region_ladz {id : Nat} {a : Act} {w : World} (C : World → Prop) (brk : List Nat) (l : List (Bool × Nat)) (hmo : P.follows .mixedOrders = true) (hB : textB ops = true) (hnd : (l.map (·.2)).Nodup) (hcov : ∀ i ∈ List.range ops.size, i ∈ l.map (·.2)) (hin : ∀ p ∈ l, p.2 < ops.size)
    (hp : l.Pairwise (fun p q => ladZB ops brk p q = true)) (hC : C w.drew) (h : wpZ P ops Q brk l C a w.drew) : (Code.region id ops true).wp P Q a w := by
  obtain ⟨hsel, htx⟩ := textB_spec hB
  refine wp_region_inv (I := fun L A X => LadZAt P ops Q brk l L A X) hmo ?h0 ?hs ?he
  case h0 =>
    have hf0 : ∀ k d, k < ops.size → (Array.replicate ops.size false).getD k d = false := fun k d hk => by unfold Array.getD; simp [hk]
    refine ⟨by simp, ?_, C, hC, ?_⟩
    · intro i o ho hi
      rw [hf0 i _ (Array.getElem?_eq_some_iff.1 ho).1] at hi
      cases hi
    · rw [show lfx (Array.replicate ops.size false) l = l from List.filter_eq_self.2 fun p hpm => by simp [hf0 p.2 true (hin p hpm)]]
      exact h
  case hs =>
    intro L A X i o hI ho hl hdeps
    have hil : i < ops.size := (Array.getElem?_eq_some_iff.1 ho).1
    have hsize : (L.setIfInBounds i true).size = ops.size := by simp [hI.size]
    have hclosed := hI.closed.step ho hdeps
    have hap : ∀ k, edgeB ops k i = true → L.getD k true = false → ∀ ok, ops[k]? = some ok → ok.apart ops o = true := by
      intro k hed hk ok hok
      rcases edgeB_spec ho hok hed with ⟨e, he, hbe, rfl⟩ | h2
      · have h3 := hdeps e he hbe
        rw [getD_flip hk] at h3
        cases h3
      · exact h2
    have hwt : ∀ k, reachB ops i k = true → L.getD k false = true := fun k hk => reachB_listed hI.closed i k o ho hdeps hk
    obtain ⟨p, hpl, rfl⟩ := List.mem_map.1 (hcov i (by simpa using hil))
    obtain ⟨r1, r2, s1, s2, s3⟩ := lfx_split hnd hp hpl hl
    have hr1 : ∀ q ∈ r1, q.1 = false ∧ ∀ ok, ops[q.2]? = some ok → ok.apart ops o = true := by
      intro q hq
      obtain ⟨t1, t2⟩ := s3 q hq
      unfold ladZB at t1
      rw [Bool.and_eq_true] at t1
      replace t1 := t1.1
      unfold ladB at t1
      cases hb : q.1 with
      | true =>
        rw [hb, if_pos rfl] at t1
        have := hwt _ t1
        rw [getD_flip t2] at this
        cases this
      | false =>
        rw [hb, if_neg (by simp)] at t1
        exact ⟨rfl, hap q.2 t1 t2⟩
    have hr2 : r1 = [] ∨ p.2 ∉ brk := by
      by_cases hbk : p.2 ∈ brk
      · refine .inl ?_
        cases hr : r1 with
        | nil => rfl
        | cons q r =>
          exfalso
          obtain ⟨t1, t2⟩ := s3 q (by rw [hr]; exact List.mem_cons_self)
          unfold ladZB at t1
          rw [Bool.and_eq_true, Bool.or_eq_true] at t1
          rcases t1.2 with h9 | h9
          · simp [hbk] at h9
          · have := hwt _ h9
            rw [getD_flip t2] at this
            cases this
      · exact .inr hbk
    obtain ⟨C1, hC1, hw⟩ := hI.way
    rw [s1] at hw
    obtain ⟨b, i⟩ := p
    cases b with
    | false =>
      obtain ⟨v, g1, g2⟩ := wpZ_float hsel ho r2 r1 A hr1 hw
      exact StrC.wpOp ho hC1 g1 ⟨hsize, hclosed, C1, hC1, by rw [s2]; exact g2⟩
    | true => exact EffY.wpOp ho (wpZ_stand hsel ho r2 r1 A hr2 hr1 hw) fun v w' ⟨C', c1, c2, c3⟩ => ⟨hsize, hclosed, C', c2, by rw [s2]; exact c3⟩
  case he =>
    intro L A X hI hr
    have hall : ∀ n k, k < n → k < ops.size → L.getD k false = true := by
      intro n
      induction n with
      | zero => intro k hk; omega
      | succ n ih =>
        intro k hk hkn
        cases hv : L.getD k false with
        | true => rfl
        | false =>
          exfalso
          have ho : ops[k]? = some ops[k] := Array.getElem?_eq_getElem hkn
          have hmem : k ∈ Region.ready .any ops L := mem_ready.2 ⟨by rw [← getD_flip' (by rw [hI.size]; omega)]; exact hv, ops[k], ho, fun e he hbe => ih e.on (by have := htx k _ ho e he hbe; omega) (by have := htx k _ ho e he hbe; omega)⟩
          rw [hr] at hmem
          cases hmem
    obtain ⟨C1, hC1, hw⟩ := hI.way
    rw [show lfx L l = [] from List.filter_eq_nil_iff.2 fun p hpm => by
      have := hall (p.2 + 1) p.2 (by omega) (hin p hpm)
      rw [getD_flip' (by rw [hI.size]; exact hin p hpm)] at this
      simp [this]] at hw
    exact hw
theorem wpZ_nil {C : World → Prop} {a : Act} {w : World} (h : Q .normal a w) : wpZ P ops Q brk [] C a w := h
theorem wpZ_f {C : World → Prop} {a : Act} {w : World} {i : Nat} {r : List (Bool × Nat)} (o : Oper) (v : Value) (ho : ops[i]? = some o) (hw : Region.wanted o (yielded ops a.tmps) = true) (hr : ∀ X, C X → (execOp a.eval o).run P X = .ok (.value v) X) (h : wpZ P ops Q brk r C (a.put o.dst v) w) : wpZ P ops Q brk ((false, i) :: r) C a w := ⟨o, v, ho, .inl ⟨hw, hr⟩, h⟩
theorem wpZ_call {C : World → Prop} {a : Act} {w : World} {i : Nat} {r : List (Bool × Nat)} (o : Oper) {f : FuncId} {args : Array Value} (ho : ops[i]? = some o) (hw : Region.wanted o (yielded ops a.tmps) = true) (hr : (execOp a.eval o).run P w = .ok (.enter f args) w)
    (hc : Calls P f args w fun e w' => ∃ v, e = .returned v ∧ ∃ C' : World → Prop, (i ∈ brk ∨ ∀ X, C' X → C X) ∧ C' w' ∧ wpZ P ops Q brk r C' (a.put o.dst v) w') : wpZ P ops Q brk ((true, i) :: r) C a w := ⟨o, ho, .inl ⟨hw, by rw [hr]; exact hc⟩⟩
theorem wpZ_to {C : World → Prop} {a : Act} {w : World} {i : Nat} {r : List (Bool × Nat)} (o : Oper) (v : Value) (w' : World) (ho : ops[i]? = some o) (hw : Region.wanted o (yielded ops a.tmps) = true) (hr : (execOp a.eval o).run P w = .ok (.value v) w') (C' : World → Prop) (h1 : i ∈ brk ∨ ∀ X, C' X → C X) (h2 : C' w') (h : wpZ P ops Q brk r C' (a.put o.dst v) w') : wpZ P ops Q brk ((true, i) :: r) C a w := ⟨o, ho, .inl ⟨hw, by rw [hr]; exact ⟨C', h1, h2, h⟩⟩⟩
theorem wpZ_st {C : World → Prop} {a : Act} {w : World} {i : Nat} {r : List (Bool × Nat)} (o : Oper) (w' : World) (ho : ops[i]? = some o) (hw : Region.wanted o (yielded ops a.tmps) = true) (hr : (execOp a.eval o).run P w = .ok .skip w') (C' : World → Prop) (h1 : i ∈ brk ∨ ∀ X, C' X → C X) (h2 : C' w') (h : wpZ P ops Q brk r C' (a.put o.dst undef) w') : wpZ P ops Q brk ((true, i) :: r) C a w := ⟨o, ho, .inl ⟨hw, by rw [hr]; exact ⟨C', h1, h2, h⟩⟩⟩
end
end Go.Proofs.YtgjabfjkokpkiaaDoor
namespace Go.Proofs.YtgjabfjkokpkiaaDoor
open Go.RowKit Go.BigFrame
set_option linter.unusedVariables false
set_option maxRecDepth 20000
end Go.Proofs.YtgjabfjkokpkiaaDoor
