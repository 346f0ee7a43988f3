/-
  Lists of numbers and texts, by rising numbers: looked up, struck, set; no word of the program.
-/
import GoSem.Core.Value
namespace Go.Proofs.Ytboncdlihgpepaa
abbrev KV := Int × ByteArray
def kd : KV := (0, ByteArray.empty)
def Ris (L : List KV) : Prop := L.Pairwise fun a b => a.1 < b.1
def kget : List KV → Int → Option ByteArray
  | [], _ => none
  | p :: L, x => if p.1 = x then some p.2 else kget L x
def kdel (L : List KV) (x : Int) : List KV := L.filter fun p => decide (p.1 ≠ x)
def kset (L : List KV) (x : Int) (t : ByteArray) : List KV := (L.filter fun p => decide (p.1 < x)) ++ (x, t) :: L.filter fun p => decide (x < p.1)
theorem kget_none : ∀ {L : List KV} {x : Int}, kget L x = none ↔ ∀ p ∈ L, p.1 ≠ x
  | [], x => by simp [kget]
  | p :: L, x => by
    unfold kget
    by_cases h : p.1 = x
    · simp [h]
    · simp [h, kget_none (L := L) (x := x)]
theorem kget_some : ∀ {L : List KV} {x : Int} {t : ByteArray}, kget L x = some t → (x, t) ∈ L
  | p :: L, x, t, h => by
    unfold kget at h
    by_cases e : p.1 = x
    · rw [if_pos e] at h
      cases h
      exact List.mem_cons.2 (.inl (by cases p; simp_all))
    · rw [if_neg e] at h
      exact List.mem_cons_of_mem _ (kget_some h)
theorem Ris.get : ∀ {L : List KV}, Ris L → ∀ {x : Int} {t : ByteArray}, (x, t) ∈ L → kget L x = some t
  | p :: L, h, x, t, hm => by
    obtain ⟨h1, h2⟩ := List.pairwise_cons.1 h
    unfold kget
    rcases List.mem_cons.1 hm with rfl | hm
    · simp
    · have := h1 _ hm
      rw [if_neg (by simp at this; omega)]
      exact Ris.get h2 hm
theorem Ris.iff {L : List KV} (h : Ris L) {x : Int} {t : ByteArray} : kget L x = some t ↔ (x, t) ∈ L := ⟨kget_some, h.get⟩
theorem Ris.filter {L : List KV} (h : Ris L) (q : KV → Bool) : Ris (L.filter q) := List.Pairwise.filter q h
theorem Ris.del {L : List KV} (h : Ris L) (x : Int) : Ris (kdel L x) := h.filter _
theorem Ris.set {L : List KV} (h : Ris L) (x : Int) (t : ByteArray) : Ris (kset L x t) := by
  unfold Ris kset
  refine List.pairwise_append.2 ⟨h.filter _, List.pairwise_cons.2 ⟨fun p hp => ?_, h.filter _⟩, fun p hp q hq => ?_⟩
  · have := (List.mem_filter.1 hp).2
    simpa using this
  · have h1 : p.1 < x := by simpa using (List.mem_filter.1 hp).2
    rcases List.mem_cons.1 hq with rfl | hq
    · exact h1
    · have h2 : x < q.1 := by simpa using (List.mem_filter.1 hq).2
      omega
theorem kget_del {L : List KV} (h : Ris L) (x y : Int) : kget (kdel L x) y = if y = x then none else kget L y := by
  by_cases e : y = x
  · rw [if_pos e]
    refine kget_none.2 fun p hp => ?_
    have := (List.mem_filter.1 hp).2
    simp at this
    omega
  · rw [if_neg e]
    cases hg : kget L y with
    | none =>
      rw [kget_none] at hg ⊢
      exact fun p hp => hg p (List.mem_filter.1 hp).1
    | some t => exact (h.del x).get (List.mem_filter.2 ⟨kget_some hg, by simpa using e⟩)
theorem kget_set {L : List KV} (h : Ris L) (x y : Int) (t : ByteArray) : kget (kset L x t) y = if y = x then some t else kget L y := by
  by_cases e : y = x
  · rw [if_pos e, e]
    exact (h.set x t).get (by simp [kset])
  · rw [if_neg e]
    cases hg : kget L y with
    | none =>
      rw [kget_none] at hg ⊢
      intro p hp
      rcases List.mem_append.1 hp with hp | hp
      · exact hg p (List.mem_filter.1 hp).1
      · rcases List.mem_cons.1 hp with rfl | hp
        · exact fun e2 => e e2.symm
        · exact hg p (List.mem_filter.1 hp).1
    | some u =>
      refine (h.set x t).get ?_
      have hm := kget_some hg
      by_cases l : y < x
      · exact List.mem_append.2 (.inl (List.mem_filter.2 ⟨hm, by simpa using l⟩))
      · exact List.mem_append.2 (.inr (List.mem_cons_of_mem _ (List.mem_filter.2 ⟨hm, by simp; omega⟩)))
theorem kdel_none : ∀ {L : List KV} {x : Int}, kget L x = none → kdel L x = L := fun {L x} h => by
  unfold kdel
  rw [List.filter_eq_self]
  intro p hp
  simpa using kget_none.1 h p hp
theorem ris_split : ∀ {L : List KV}, Ris L → ∀ (x : Int), L = (L.filter fun p => decide (p.1 < x)) ++ ((L.filter fun p => decide (p.1 = x)) ++ L.filter fun p => decide (x < p.1))
  | [], _, _ => rfl
  | p :: L, h, x => by
    obtain ⟨h1, h2⟩ := List.pairwise_cons.1 h
    have ih := ris_split h2 x
    by_cases l : p.1 < x
    · rw [List.filter_cons_of_pos (by simpa using l), List.filter_cons_of_neg (by simp; omega), List.filter_cons_of_neg (by simp; omega), List.cons_append, ← ih]
    · have e1 : (L.filter fun p => decide (p.1 < x)) = [] := List.filter_eq_nil_iff.2 fun q hq => by have := h1 q hq; simp; omega
      have e2 : (L.filter fun p => decide (p.1 = x)) = [] := List.filter_eq_nil_iff.2 fun q hq => by have := h1 q hq; simp; omega
      rw [e1, e2] at ih
      rw [List.filter_cons_of_neg (by simpa using l), e1]
      by_cases e : p.1 = x
      · rw [List.filter_cons_of_pos (by simpa using e), List.filter_cons_of_neg (by simp; omega), e2]
        rw [List.nil_append, List.nil_append] at ih
        rw [← ih]
        rfl
      · rw [List.filter_cons_of_neg (by simpa using e), List.filter_cons_of_pos (by simp; omega), e2]
        rw [List.nil_append, List.nil_append] at ih
        rw [← ih]
        rfl
/-- a place where the number x stands -/
theorem del_at {L : List KV} (h : Ris L) {i : Nat} (hi : i < L.length) : kdel L (L.getD i kd).1 = L.take i ++ L.drop (i + 1) := by
  have e : L = L.take i ++ L.getD i kd :: L.drop (i + 1) := by
    rw [List.getD_eq_getElem?_getD, List.getElem?_eq_getElem hi, Option.getD_some, ← List.drop_eq_getElem_cons hi, List.take_append_drop]
  generalize L.getD i kd = p at e ⊢
  generalize L.take i = A at e ⊢
  generalize L.drop (i + 1) = C at e ⊢
  subst e
  obtain ⟨h1, h2, h3⟩ := List.pairwise_append.1 h
  obtain ⟨h4, h5⟩ := List.pairwise_cons.1 h2
  unfold kdel
  rw [List.filter_append, List.filter_cons_of_neg (by simp)]
  congr 1
  · rw [List.filter_eq_self]
    intro q hq
    have := h3 q hq p (List.mem_cons_self ..)
    simp
    omega
  · rw [List.filter_eq_self]
    intro q hq
    have := h4 q hq
    simp
    omega
/-- the place where x belongs in a list without it -/
theorem set_at {L : List KV} (h : Ris L) {x : Int} {t : ByteArray} {k : Nat} (hk : k ≤ L.length) (hlt : ∀ j, j < k → (L.getD j kd).1 < x) (hge : k < L.length → x < (L.getD k kd).1) : kset L x t = (L.take k ++ [(x, t)]) ++ L.drop k := by
  have e1 : (L.filter fun p => decide (p.1 < x)) = L.take k := by
    conv => lhs; rw [← List.take_append_drop k L]
    rw [List.filter_append, List.filter_eq_self.2, List.filter_eq_nil_iff.2, List.append_nil]
    · intro p hp
      obtain ⟨j, hj, rfl⟩ := List.mem_iff_getElem.1 hp
      rw [List.length_drop] at hj
      have hkl : k < L.length := by omega
      have a1 := hge hkl
      rw [List.getElem_drop]
      rw [List.getD_eq_getElem?_getD, List.getElem?_eq_getElem hkl, Option.getD_some] at a1
      rcases Nat.eq_zero_or_pos j with rfl | hj0
      · simp only [Nat.add_zero]; simp; omega
      · have := List.pairwise_iff_getElem.1 h k (k + j) hkl (by omega) (by omega)
        simp; omega
    · intro p hp
      obtain ⟨j, hj, rfl⟩ := List.mem_iff_getElem.1 hp
      rw [List.length_take] at hj
      have a1 := hlt j (by omega)
      rw [List.getD_eq_getElem?_getD, List.getElem?_eq_getElem (by omega), Option.getD_some] at a1
      rw [List.getElem_take]
      simpa using a1
  have e2 : (L.filter fun p => decide (x < p.1)) = L.drop k := by
    conv => lhs; rw [← List.take_append_drop k L]
    rw [List.filter_append, List.filter_eq_nil_iff.2, List.nil_append, List.filter_eq_self.2]
    · intro p hp
      obtain ⟨j, hj, rfl⟩ := List.mem_iff_getElem.1 hp
      rw [List.length_drop] at hj
      have hkl : k < L.length := by omega
      have a1 := hge hkl
      rw [List.getElem_drop]
      rw [List.getD_eq_getElem?_getD, List.getElem?_eq_getElem hkl, Option.getD_some] at a1
      rcases Nat.eq_zero_or_pos j with rfl | hj0
      · simp only [Nat.add_zero]; simpa using a1
      · have := List.pairwise_iff_getElem.1 h k (k + j) hkl (by omega) (by omega)
        simp; omega
    · intro p hp
      obtain ⟨j, hj, rfl⟩ := List.mem_iff_getElem.1 hp
      rw [List.length_take] at hj
      have a1 := hlt j (by omega)
      rw [List.getD_eq_getElem?_getD, List.getElem?_eq_getElem (by omega), Option.getD_some] at a1
      rw [List.getElem_take]
      simp; omega
  unfold kset
  rw [e1, e2, List.append_assoc]
  rfl
theorem kset_del {L : List KV} (x : Int) (t : ByteArray) : kset (kdel L x) x t = kset L x t := by
  unfold kset kdel
  rw [List.filter_filter, List.filter_filter]
  have e1 : (fun p : KV => decide (p.1 < x) && decide (p.1 ≠ x)) = fun p => decide (p.1 < x) := by
    funext p
    by_cases l : p.1 < x
    · simp [l]; omega
    · simp [l]
  have e2 : (fun p : KV => decide (x < p.1) && decide (p.1 ≠ x)) = fun p => decide (x < p.1) := by
    funext p
    by_cases l : x < p.1
    · simp [l]; omega
    · simp [l]
  rw [e1, e2]
theorem kset_length {L : List KV} (h : Ris L) (x : Int) (t : ByteArray) : (kset L x t).length = if (kget L x).isSome then L.length else L.length + 1 := by
  have e := congrArg List.length (ris_split h x)
  rw [List.length_append, List.length_append] at e
  have e2 : (L.filter fun p => decide (p.1 = x)).length = if (kget L x).isSome then 1 else 0 := by
    cases hg : kget L x with
    | none =>
      rw [List.filter_eq_nil_iff.2 (fun p hp => by simpa using kget_none.1 hg p hp)]
      rfl
    | some u =>
      have hm := kget_some hg
      have : (L.filter fun p => decide (p.1 = x)) = [(x, u)] := by
        have hr := h.filter fun p => decide (p.1 = x)
        have hmm : (x, u) ∈ (L.filter fun p => decide (p.1 = x)) := List.mem_filter.2 ⟨hm, by simp⟩
        match hL : (L.filter fun p => decide (p.1 = x)) with
        | [] => rw [hL] at hmm; cases hmm
        | [p] =>
          rw [hL] at hmm
          rw [List.mem_singleton.1 hmm]
          exact hL
        | p :: q :: r =>
          exfalso
          rw [hL] at hr
          have a1 := (List.pairwise_cons.1 hr).1 q (by simp)
          have a2 : p ∈ (L.filter fun p => decide (p.1 = x)) := by rw [hL]; simp
          have a3 : q ∈ (L.filter fun p => decide (p.1 = x)) := by rw [hL]; simp
          have a4 := (List.mem_filter.1 a2).2
          have a5 := (List.mem_filter.1 a3).2
          simp at a4 a5
          omega
      rw [this]
      rfl
  rw [e2] at e
  have e3 : (kset L x t).length = (L.filter fun p => decide (p.1 < x)).length + ((L.filter fun p => decide (x < p.1)).length + 1) := by
    unfold kset
    rw [List.length_append, List.length_cons]
  rw [e3]
  by_cases hs : (kget L x).isSome = true
  · rw [if_pos hs] at e ⊢
    omega
  · rw [if_neg hs] at e ⊢
    omega
theorem kdel_length {L : List KV} (h : Ris L) (x : Int) : (kdel L x).length + (if (kget L x).isSome then 1 else 0) = L.length := by
  cases hg : kget L x with
  | none =>
    rw [kdel_none hg]
    rfl
  | some u =>
    obtain ⟨i, hi, e⟩ := List.mem_iff_getElem.1 (kget_some hg)
    have e1 : (L.getD i kd).1 = x := by rw [List.getD_eq_getElem?_getD, List.getElem?_eq_getElem hi, Option.getD_some, e]
    have := del_at h hi
    rw [e1] at this
    rw [this, List.length_append, List.length_take, List.length_drop]
    simp
    omega
/-- two lists by rising numbers that have the same are one -/
theorem ris_ext : ∀ {A B : List KV}, Ris A → Ris B → (∀ p, p ∈ A ↔ p ∈ B) → A = B
  | [], [], _, _, _ => rfl
  | [], q :: B, _, _, h => by have := (h q).2 (List.mem_cons_self ..); cases this
  | p :: A, [], _, _, h => by have := (h p).1 (List.mem_cons_self ..); cases this
  | p :: A, q :: B, hA, hB, h => by
    obtain ⟨a1, a2⟩ := List.pairwise_cons.1 hA
    obtain ⟨b1, b2⟩ := List.pairwise_cons.1 hB
    have e : p = q := by
      rcases List.mem_cons.1 ((h p).1 (List.mem_cons_self ..)) with e | hp
      · exact e
      · rcases List.mem_cons.1 ((h q).2 (List.mem_cons_self ..)) with e | hq
        · exact e.symm
        · have := a1 q hq
          have := b1 p hp
          omega
    subst e
    rw [ris_ext a2 b2 fun r => ?_]
    constructor
    · intro hr
      rcases List.mem_cons.1 ((h r).1 (List.mem_cons_of_mem _ hr)) with e | hr'
      · have := a1 r hr
        rw [e] at this
        omega
      · exact hr'
    · intro hr
      rcases List.mem_cons.1 ((h r).2 (List.mem_cons_of_mem _ hr)) with e | hr'
      · have := b1 r hr
        rw [e] at this
        omega
      · exact hr'
end Go.Proofs.Ytboncdlihgpepaa
