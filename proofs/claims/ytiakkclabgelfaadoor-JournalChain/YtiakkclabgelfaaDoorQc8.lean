/-
  A law for regions that draw their order, in which two blocks are made and one of them is written while operations that only read may still stand out: a, b := x, y. The digest of what came to a Hash, for every Hash in every world, of which nothing that was there turns.
-/
import Derived.Test.YtiakkclabgelfaaDoorQc3
import Derived.Test.YtiakkclabgelfaaDoorQc1
import Derived.Test.YtiakkclabgelfaaDoorQc7
namespace Go.Proofs.YtiakkclabgelfaaDoor
open Go.RowKit
section
variable {P : Program} {ops : Array Oper} {W : World} {Q : Exit → Act → World → Prop}
def Writes (P : Program) (ops : Array Oper) (o : Oper) (b n : Nat) (g g' : Nat → Value) (a : Act) : Prop :=
  Region.wanted o (yielded ops a.tmps) = true ∧ ∀ w, RowAt b n g w → (execOp a.eval o).run P w = .ok .skip (w.setCells b 0 (row n g'))
theorem Writes.put {o : Oper} {b n : Nat} {g g' : Nat → Value} {u : Value} {a : Act} {d : Option Tmp} (hs : ∀ cs b, o.op ≠ .select cs b) (h : ∀ t, d = some t → t ∉ o.looksAt ops) : Writes P ops o b n g g' (a.put d u) ↔ Writes P ops o b n g g' a := by
  unfold Writes
  rw [execOp_put (ops := ops) o hs a d u h, wanted_put o a d u h]
def SE (P : Program) (ops : Array Oper) (W : World) (Q : Exit → Act → World → Prop) (os : Oper) (n1 : Nat) (g1 : Nat → Value) (n2 : Nat) (g2 g1' : Nat → Value) (rest : List Oper) (b1 b2 : Nat) (A : Act) : Prop :=
  Writes P ops os b1 n1 g1 g1' A ∧ ∀ w', Ext W w' → RowAt b1 n1 g1' w' → RowAt b2 n2 g2 w' → wpList P ops Q rest (A.put os.dst undef) w'
def SF (P : Program) (ops : Array Oper) (W : World) (Q : Exit → Act → World → Prop) (n1 : Nat) (n2 : Nat) (g2 g1' : Nat → Value) (rest : List Oper) (b1 b2 : Nat) (A : Act) : Prop :=
  ∀ w', Ext W w' → RowAt b1 n1 g1' w' → RowAt b2 n2 g2 w' → wpList P ops Q rest A w'
theorem wpS_out (C : Nat → Nat → Prop) (E : Nat → Nat → Act → Prop) : ∀ (r : List Nat) (a : Act), wpS P ops W (fun A' => ∃ b1 b2, C b1 b2 ∧ E b1 b2 A') r a → ∃ b1 b2, C b1 b2 ∧ wpS P ops W (E b1 b2) r a
  | [], _, h => h
  | _ :: r, _, ⟨ok, vk, k1, k2, k3⟩ => by
    obtain ⟨b1, b2, c1, c2⟩ := wpS_out C E r _ k3
    exact ⟨b1, b2, c1, ok, vk, k1, k2, c2⟩
theorem se_take {os : Oper} {n1 n2 : Nat} {g1 g2 g1' : Nat → Value} {rest : List Oper} {b1 b2 s : Nat} (hsel : ∀ (j : Nat) (o : Oper) cs b, ops[j]? = some o → o.op ≠ .select cs b) (hs : ops[s]? = some os) : ∀ (r : List Nat) (a : Act), (∀ k ∈ r, ∀ ok, ops[k]? = some ok → ok.apart ops os = true) →
    wpS P ops W (SE P ops W Q os n1 g1 n2 g2 g1' rest b1 b2) r a → Writes P ops os b1 n1 g1 g1' a ∧ wpS P ops W (SF P ops W Q n1 n2 g2 g1' rest b1 b2) r (a.put os.dst undef)
  | [], a, _, ⟨h1, h2⟩ => ⟨h1, h2⟩
  | k :: r, a, hap, ⟨ok, vk, h1, h2, h3⟩ => by
    obtain ⟨p1, p2, p3⟩ := Oper.apart_spec (hap k List.mem_cons_self ok h1)
    obtain ⟨g1, g2⟩ := se_take hsel hs r _ (fun k' hk' => hap k' (List.mem_cons_of_mem _ hk')) h3
    refine ⟨(Writes.put (fun cs b => hsel s os cs b hs) p1).1 g1, ok, vk, h1, (StrongY.put (fun cs b => hsel k ok cs b h1) p3).2 h2, ?_⟩
    rw [← Act.put_comm a vk _ p2]
    exact g2
def mildC (ops : Array Oper) (q : Nat) : Bool :=
  Region.noSelect ops && (List.range ops.size).all fun j => match ops[j]? with
    | none => false
    | some o => o.after.all (fun e => !Region.binds .any e || decide (e.on < j)) && (List.range j).all (fun k =>
        if j < q + 3 then o.after.any (fun e => Region.binds .any e && e.on == k) || (match ops[k]? with | none => false | some ok => ok.apart ops o) else waits ops ops.size j k) && (if j = q + 2 then waits ops ops.size j q && waits ops ops.size j (q + 1) else true)
theorem mildC_spec {q : Nat} (h : mildC ops q = true) : (∀ (j : Nat) (o : Oper) cs b, ops[j]? = some o → o.op ≠ .select cs b) ∧ ∀ j o, ops[j]? = some o → (∀ e ∈ o.after, Region.binds .any e = true → e.on < j) ∧
    (j < q + 3 → ∀ k ok, k < j → ops[k]? = some ok → (∃ e ∈ o.after, Region.binds .any e = true ∧ e.on = k) ∨ ok.apart ops o = true) ∧ (q + 3 ≤ j → ∀ k, k < j → waits ops ops.size j k = true) ∧ (j = q + 2 → waits ops ops.size j q = true ∧ waits ops ops.size j (q + 1) = true) := by
  unfold mildC at h
  rw [Bool.and_eq_true] at h
  refine ⟨Region.noSelect_spec h.1, fun j o ho => ?_⟩
  have hj : j < ops.size := (Array.getElem?_eq_some_iff.1 ho).1
  have h1 := List.all_eq_true.1 h.2 j (List.mem_range.2 hj)
  rw [ho] at h1
  simp only [Bool.and_eq_true] at h1
  refine ⟨fun e he hb => ?_, fun hm k ok hk hok => ?_, fun hm k hk => ?_, fun hm => ?_⟩
  · have := Array.all_eq_true'.1 h1.1.1 e he
    simpa [hb] using this
  · have := List.all_eq_true.1 h1.1.2 k (List.mem_range.2 hk)
    rw [if_pos hm, hok, Bool.or_eq_true] at this
    rcases this with h2 | h2
    · obtain ⟨e, he, h3⟩ := Array.any_eq_true'.1 h2
      simp only [Bool.and_eq_true, beq_iff_eq] at h3
      exact .inl ⟨e, he, h3.1, h3.2⟩
    · exact .inr h2
  · have := List.all_eq_true.1 h1.1.2 k (List.mem_range.2 hk)
    rwa [if_neg (by omega)] at this
  · have := h1.2
    rw [if_pos hm, Bool.and_eq_true] at this
    exact this
structure MildCAt (P : Program) (ops : Array Oper) (W : World) (Q : Exit → Act → World → Prop) (q : Nat) (mk : Nat → Nat × (Nat → Value)) (E : Act → List Made → Prop) (n1 n2 : Nat) (g2 g1' : Nat → Value) (L : Array Bool) (A : Act) (w : World) : Prop where
  size : L.size = ops.size
  closed : Closed ops L
  way : ((∀ i, q + 2 ≤ i → i < ops.size → L.getD i false = false) ∧ ∃ T, Ext W w ∧ Holds T w ∧ wpS P ops W (fun A' => wpM ops W.heap.size mk E (left L q 2) A' T) (left L 0 q) A) ∨
    ((∀ i, q ≤ i → i < q + 3 → L.getD i false = true) ∧ (∀ i, q + 3 ≤ i → i < ops.size → L.getD i false = false) ∧ ∃ b1 b2, Ext W w ∧ RowAt b1 n1 g1' w ∧ RowAt b2 n2 g2 w ∧ wpS P ops W (fun A' => ∀ w', Ext W w' → RowAt b1 n1 g1' w' → RowAt b2 n2 g2 w' → wpList P ops Q (ops.toList.drop (q + 3)) A' w') (left L 0 q) A) ∨
    (∃ j, q + 3 < j ∧ j ≤ ops.size ∧ (∀ i, i < j → L.getD i false = true) ∧ (∀ i, j ≤ i → i < ops.size → L.getD i false = false) ∧ wpList P ops Q (ops.toList.drop j) A w)
theorem wp_region_mildC {id : Nat} {a : Act} {w : World} (q : Nat) (n1 : Nat) (g1 : Nat → Value) (n2 : Nat) (g2 g1' : Nat → Value) (os : Oper) (hm : P.follows .mixedOrders = true) (hB : mildC ops q = true) (hs : ops[q + 2]? = some os)
    (hmk : ∀ i, q ≤ i → i < q + 2 → ∃ o, ops[i]? = some o ∧ Makes P o (if i = q then (n1, g1) else (n2, g2)).1 (if i = q then (n1, g1) else (n2, g2)).2)
    (h : wpS P ops w.drew (fun A => wpM ops w.drew.heap.size (fun i => if i = q then (n1, g1) else (n2, g2)) (fun A' T => ∃ b1 b2, b1 ≠ b2 ∧ w.drew.heap.size ≤ b1 ∧ (b1, n1, g1) ∈ T ∧ (b2, n2, g2) ∈ T ∧ SE P ops w.drew Q os n1 g1 n2 g2 g1' (ops.toList.drop (q + 3)) b1 b2 A') (List.range' q 2) A []) (List.range' 0 q) a) : (Code.region id ops true).wp P Q a w := by
  obtain ⟨hsel, hb⟩ := mildC_spec hB
  have hsz3 : q + 2 < ops.size := (Array.getElem?_eq_some_iff.1 hs).1
  have hE : ∀ (A : Act) (T T' : List Made), (∀ y, y ∈ T ↔ y ∈ T') → (∃ b1 b2, b1 ≠ b2 ∧ w.drew.heap.size ≤ b1 ∧ (b1, n1, g1) ∈ T ∧ (b2, n2, g2) ∈ T ∧ SE P ops w.drew Q os n1 g1 n2 g2 g1' (ops.toList.drop (q + 3)) b1 b2 A) → (∃ b1 b2, b1 ≠ b2 ∧ w.drew.heap.size ≤ b1 ∧ (b1, n1, g1) ∈ T' ∧ (b2, n2, g2) ∈ T' ∧ SE P ops w.drew Q os n1 g1 n2 g2 g1' (ops.toList.drop (q + 3)) b1 b2 A) :=
    fun A T T' hT ⟨b1, b2, hne, hb1, h1, h2, h3⟩ => ⟨b1, b2, hne, hb1, (hT _).1 h1, (hT _).1 h2, h3⟩
  refine wp_region_inv (I := MildCAt P ops w.drew Q q (fun i => if i = q then (n1, g1) else (n2, g2)) (fun A' T => ∃ b1 b2, b1 ≠ b2 ∧ w.drew.heap.size ≤ b1 ∧ (b1, n1, g1) ∈ T ∧ (b2, n2, g2) ∈ T ∧ SE P ops w.drew Q os n1 g1 n2 g2 g1' (ops.toList.drop (q + 3)) b1 b2 A') n1 n2 g2 g1') hm ?h0 ?hs ?he
  case h0 =>
    have hf : ∀ k d, k < ops.size → (Array.replicate ops.size false).getD k d = false := fun k d hk => by unfold Array.getD; simp [hk]
    refine ⟨by simp, ?_, .inl ⟨fun i _ hi => hf i _ hi, [], Ext.refl _, (fun y hy => by cases hy), ?_⟩⟩
    · intro i o ho hi
      rw [hf i _ (Array.getElem?_eq_some_iff.1 ho).1] at hi
      cases hi
    · rw [left_all fun k _ hk => hf k _ (by omega), left_all fun k _ hk => hf k _ (by omega)]
      exact h
  case hs =>
    intro L A X i o hI ho hl hdeps
    have hin : i < ops.size := (Array.getElem?_eq_some_iff.1 ho).1
    have hiL : i < L.size := by rw [hI.size]; exact hin
    have hlf := getD_flip hl
    obtain ⟨_, b2, b3, b4⟩ := hb i o ho
    have hsize : (L.setIfInBounds i true).size = ops.size := by simp [hI.size]
    have hclosed := hI.closed.step ho hdeps
    have hap : i < q + 3 → ∀ k, k < i → L.getD k true = false → ∀ ok, ops[k]? = some ok → ok.apart ops o = true := by
      intro him k hk hkl ok hok
      rcases b2 him k ok hk hok with ⟨e, he, hbe, rfl⟩ | h2
      · have h3 := hdeps e he hbe
        rw [getD_flip hkl] at h3
        cases h3
      · exact h2
    have hall : q + 3 ≤ i → ∀ k, k < i → L.getD k false = true := fun hmi k hk => waits_listed hI.closed _ i k o ho hdeps (b3 hmi k hk)
    have hst : i = q + 2 → L.getD q false = true ∧ L.getD (q + 1) false = true := fun e => ⟨waits_listed hI.closed _ i q o ho hdeps (b4 e).1, waits_listed hI.closed _ i (q + 1) o ho hdeps (b4 e).2⟩
    rcases hI.way with ⟨h1, T, hX, hT, hw⟩ | ⟨h1, h1', c1, c2, hX, hR1, hR2, hw⟩ | ⟨j, hj1, hj2, hj3, hj4, hw⟩
    · by_cases hiq : i < q
      · obtain ⟨r1, r2, e1, e2, e3⟩ := left_split (L := L) (b := 0) (n := q) (i := i) (by omega) (by omega) hl
        rw [e1] at hw
        obtain ⟨v, hv, hr⟩ := wpS_take hsel ho r2 r1 A (fun k hk => hap (by omega) k (e3 k hk).1 (e3 k hk).2) hw
        refine StrongY.wpOp ho hX hv fun w' hw' => ⟨hsize, hclosed, .inl ⟨fun k hk hkn => ?_, T, hX.trans hw', hT.ext hw', ?_⟩⟩
        · rw [getD_set_ne false (by omega)]; exact h1 k hk hkn
        · rw [left_other (b := q) (n := 2) (by omega), e2]; exact hr
      · by_cases him : i < q + 2
        · obtain ⟨o', ho', hg, hrun⟩ := hmk i (by omega) him
          rw [ho] at ho'
          injection ho' with ho'
          subst ho'
          obtain ⟨r1, r2, e1, e2, e3⟩ := left_split (L := L) (b := q) (n := 2) (i := i) (by omega) (by omega) hl
          rw [e1] at hw
          obtain ⟨C, t, hr1, hr2⟩ := hrun A.eval X
          refine wpOp_plain ho hg ?_
          unfold Oper.wp
          rw [hr1]
          simp only [Oper.upon]
          have hXs : w.drew.heap.size ≤ X.heap.size := Below.size hX
          have hXa : Ext X (X.alloc (.cells C t)) := (Below.refl _ _).alloc (Nat.le_refl _) _
          have hfresh : ∀ y ∈ T, y.1 ≠ X.heap.size := fun y hy => Nat.ne_of_lt (hT y hy).2.2
          have hnew := wpSM_take (P := P) (W := w.drew) hE hsel ho r1 r2 T (fun k hk => hap (by omega) k (e3 k hk).1 (e3 k hk).2) X.heap.size hXs hfresh (left L 0 q) A (fun k hk => by
            obtain ⟨k1, k2⟩ := List.mem_filter.1 hk
            have := List.mem_range'_1.1 k1
            exact hap (by omega) k (by omega) (by simpa using k2)) hw
          refine ⟨hsize, hclosed, .inl ⟨fun k hk hkn => ?_, (X.heap.size, (if i = q then (n1, g1) else (n2, g2)).1, (if i = q then (n1, g1) else (n2, g2)).2) :: T, hX.trans hXa, ?_, ?_⟩⟩
          · rw [getD_set_ne false (by omega)]; exact h1 k hk hkn
          · intro y hy
            rcases List.mem_cons.1 hy with rfl | hy
            · exact RowAt.newOf X _ _ t C hr2
            · exact (hT y hy).carry hXa
          · rw [left_other (b := 0) (n := q) (by omega), e2]; exact hnew
        · have hi2 : i = q + 2 := by
            rcases Nat.lt_or_ge (q + 2) i with h2 | h2
            · have h3 := hall (by omega) (q + 2) h2
              rw [h1 (q + 2) (Nat.le_refl _) (by omega)] at h3
              cases h3
            · omega
          subst hi2
          obtain ⟨m1, m2⟩ := hst rfl
          have n2' : left L q 2 = [] := left_nil fun k hk1 hk2 => by
            rw [← getD_flip' (by rw [hI.size]; omega)]
            rcases (by omega : k = q ∨ k = q + 1) with rfl | rfl
            · exact m1
            · exact m2
          rw [n2'] at hw
          rw [hs] at ho
          injection ho with ho
          subst ho
          obtain ⟨c1, c2, ⟨hne, hc1, t1, t2⟩, hw1⟩ := wpS_out (fun b1 b2 => b1 ≠ b2 ∧ w.drew.heap.size ≤ b1 ∧ (b1, n1, g1) ∈ T ∧ (b2, n2, g2) ∈ T) (SE P ops w.drew Q os n1 g1 n2 g2 g1' (ops.toList.drop (q + 3))) (left L 0 q) A (wpS_mono (fun A' ⟨b1, b2, c1, c2, c3, c4, c5⟩ => ⟨b1, b2, ⟨c1, c2, c3, c4⟩, c5⟩) _ _ hw)
          obtain ⟨⟨hwa, hrn⟩, hw2⟩ := se_take hsel hs (left L 0 q) A (fun k hk => by
            obtain ⟨k1, k2⟩ := List.mem_filter.1 hk
            have := List.mem_range'_1.1 k1
            exact hap (by omega) k (by omega) (by simpa using k2)) hw1
          have R1 := hT _ t1
          have R2 := hT _ t2
          unfold wpOp
          rw [hs]
          simp only [hwa, if_true]
          refine .inl ?_
          unfold Oper.wp
          rw [hrn X R1]
          simp only [Oper.upon]
          refine ⟨hsize, hclosed, .inr (.inl ⟨fun k hk1 hk2 => ?_, fun k hk hkn => ?_, c1, c2, below_setCells _ hc1 _ _ _ hX, R1.cells, R2.cellsOther hne _ _, ?_⟩)⟩
          · rcases (by omega : k = q ∨ k = q + 1 ∨ k = q + 2) with rfl | rfl | rfl
            · rw [getD_set_ne false (by omega)]; exact m1
            · rw [getD_set_ne false (by omega)]; exact m2
            · exact getD_same hiL
          · rw [getD_set_ne false (by omega)]; exact h1 k (by omega) hkn
          · rw [left_other (b := 0) (n := q) (by omega)]; exact hw2
    · by_cases hiq : i < q
      · obtain ⟨r1, r2, e1, e2, e3⟩ := left_split (L := L) (b := 0) (n := q) (i := i) (by omega) (by omega) hl
        rw [e1] at hw
        obtain ⟨v, hv, hr⟩ := wpS_take hsel ho r2 r1 A (fun k hk => hap (by omega) k (e3 k hk).1 (e3 k hk).2) hw
        refine StrongY.wpOp ho hX hv fun w' hw' => ⟨hsize, hclosed, .inr (.inl ⟨fun k hk1 hk2 => ?_, fun k hk hkn => ?_, c1, c2, hX.trans hw', hR1.carry hw', hR2.carry hw', ?_⟩)⟩
        · rw [getD_set_ne false (by omega)]; exact h1 k hk1 hk2
        · rw [getD_set_ne false (by omega)]; exact h1' k hk hkn
        · rw [e2]; exact hr
      · have hi3 : i = q + 3 := by
          rcases Nat.lt_or_ge i (q + 3) with h2 | h2
          · rw [h1 i (by omega) h2] at hlf; cases hlf
          · rcases Nat.lt_or_ge (q + 3) i with h3 | h3
            · have h4 := hall (by omega) (q + 3) h3
              rw [h1' (q + 3) (Nat.le_refl _) (by omega)] at h4
              cases h4
            · omega
        subst hi3
        have hk := hall (Nat.le_refl _)
        have n1' : left L 0 q = [] := left_nil fun k _ hk2 => by rw [← getD_flip' (by rw [hI.size]; omega)]; exact hk k (by omega)
        rw [n1'] at hw
        have hw2 : wpList P ops Q (ops.toList.drop (q + 3)) A X := hw X hX hR1 hR2
        rw [drop_at ho] at hw2
        refine wpOp_of_list ho hw2 fun a' w' hh => ⟨hsize, hclosed, .inr (.inr ⟨q + 3 + 1, by omega, by omega, fun k hk2 => ?_, fun k hk2 hkn => ?_, hh⟩)⟩
        · rcases Nat.lt_or_ge k (q + 3) with h3 | h3
          · rw [getD_set_ne false (by omega)]; exact hk k h3
          · obtain rfl : k = q + 3 := by omega
            exact getD_same hiL
        · rw [getD_set_ne false (by omega)]; exact h1' k (by omega) hkn
    · have hij : i = j := by
        rcases Nat.lt_or_ge i j with h2 | h2
        · rw [hj3 i h2] at hlf; cases hlf
        · rcases Nat.lt_or_ge j i with h3 | h3
          · have h4 := hall (by omega) j h3
            rw [hj4 j (Nat.le_refl _) (by omega)] at h4
            cases h4
          · omega
      subst hij
      rw [drop_at ho] at hw
      refine wpOp_of_list ho hw fun a' w' hh => ⟨hsize, hclosed, .inr (.inr ⟨i + 1, by omega, by omega, fun k hk2 => ?_, fun k hk2 hkn => ?_, hh⟩)⟩
      · rcases Nat.lt_or_ge k i with h3 | h3
        · rw [getD_set_ne false (by omega)]; exact hj3 k h3
        · obtain rfl : k = i := by omega
          exact getD_same hiL
      · rw [getD_set_ne false (by omega)]; exact hj4 k (by omega) hkn
  case he =>
    intro L A X hI hr
    have hall : ∀ n k, k < n → k < ops.size → L.getD k false = true := by
      intro n
      induction n with
      | zero => intro k hk; omega
      | succ n ih =>
        intro k hk hkn
        cases hv : L.getD k false with
        | true => rfl
        | false =>
          exfalso
          have ho : ops[k]? = some ops[k] := Array.getElem?_eq_getElem hkn
          have hmem : k ∈ Region.ready .any ops L := mem_ready.2 ⟨by rw [← getD_flip' (by rw [hI.size]; omega)]; exact hv, ops[k], ho, fun e he hbe => ih e.on (by have := (hb k _ ho).1 e he hbe; omega) (by have := (hb k _ ho).1 e he hbe; omega)⟩
          rw [hr] at hmem
          cases hmem
    have hk : ∀ k, k < ops.size → L.getD k false = true := fun k hk => hall (k + 1) k (by omega) hk
    rcases hI.way with ⟨h1, T, hX, hT, hw⟩ | ⟨h1, h1', c1, c2, hX, hR1, hR2, hw⟩ | ⟨j, hj1, hj2, hj3, hj4, hw⟩
    · have h4 := hk _ hsz3
      rw [h1 _ (Nat.le_refl _) hsz3] at h4
      cases h4
    · have n1' : left L 0 q = [] := left_nil fun k _ hk2 => by rw [← getD_flip' (by rw [hI.size]; omega)]; exact hk k (by omega)
      rw [n1'] at hw
      have hw2 : wpList P ops Q (ops.toList.drop (q + 3)) A X := hw X hX hR1 hR2
      have hnm : q + 3 = ops.size := by
        rcases Nat.lt_or_ge (q + 3) ops.size with h3 | h3
        · have h4 := hk _ h3
          rw [h1' _ (Nat.le_refl _) h3] at h4
          cases h4
        · omega
      rw [List.drop_of_length_le (by simp [hnm])] at hw2
      exact hw2
    · have hnm : j = ops.size := by
        rcases Nat.lt_or_ge j ops.size with h3 | h3
        · have h4 := hk _ h3
          rw [hj4 _ (Nat.le_refl _) h3] at h4
          cases h4
        · omega
      rw [List.drop_of_length_le (by simp [hnm])] at hw
      exact hw
theorem wp_region_made2s {id : Nat} {a : Act} {w : World} {l : List Oper} (q n1 : Nat) (g1 : Nat → Value) (n2 : Nat) (g2 g1' : Nat → Value) (o1 o2 os : Oper) (hm : P.follows .mixedOrders = true) (hB : mildC l.toArray q = true) (ho1 : l[q]? = some o1) (ho2 : l[q + 1]? = some o2) (hos : l[q + 2]? = some os) (hmk1 : Makes P o1 n1 g1) (hmk2 : Makes P o2 n2 g2)
    (h : wpStrong P l.toArray w.drew (fun A => ∀ b1 b2, w.heap.size ≤ b1 → w.heap.size ≤ b2 → b1 ≠ b2 → Writes P l.toArray os b1 n1 g1 g1' ((A.put o1.dst (.pointer (some ⟨b1, 0, none⟩))).put o2.dst (.pointer (some ⟨b2, 0, none⟩))) ∧
      ∀ w', Ext w.drew w' → RowAt b1 n1 g1' w' → RowAt b2 n2 g2 w' → wpList P l.toArray Q (l.drop (q + 3)) (((A.put o1.dst (.pointer (some ⟨b1, 0, none⟩))).put o2.dst (.pointer (some ⟨b2, 0, none⟩))).put os.dst undef) w') (l.take q) a) : (Code.region id l.toArray true).wp P Q a w := by
  have hlt : q + 2 < l.length := (List.getElem?_eq_some_iff.1 hos).1
  have hat : ∀ i, q ≤ i → i < q + 2 → ∃ o, l.toArray[i]? = some o ∧ Makes P o (if i = q then (n1, g1) else (n2, g2)).1 (if i = q then (n1, g1) else (n2, g2)).2 := by
    intro i h1 h2
    by_cases e : i = q
    · subst e
      rw [if_pos rfl]
      exact ⟨o1, by simpa using ho1, hmk1⟩
    · obtain rfl : i = q + 1 := by omega
      rw [if_neg e]
      exact ⟨o2, by simpa using ho2, hmk2⟩
  refine wp_region_mildC q n1 g1 n2 g2 g1' os hm hB (by simpa using hos) hat ?_
  have hlen : (l.take q).length = q := by simp; omega
  have := wpS_of_strong (l.take q) 0 a (fun j hj => by simp [show j < q by omega]) h
  rw [hlen] at this
  refine wpS_mono (fun A hA => ?_) _ _ this
  intro o' ho' b hb _ o'' ho'' b' hb' hn'
  have e1 : l[q]? = some o' := by simpa using ho'
  rw [ho1] at e1
  injection e1 with e1
  subst e1
  have e2 : l[q + 1]? = some o'' := by simpa using ho''
  rw [ho2] at e2
  injection e2 with e2
  subst e2
  have hne : b ≠ b' := fun e => hn' _ List.mem_cons_self e
  obtain ⟨k1, k2⟩ := hA b b' hb hb' hne
  refine ⟨b, b', hne, hb, by simp, by simp, k1, fun w' hw' r1 r2 => ?_⟩
  exact k2 w' hw' r1 r2
theorem writes_row {o : Oper} {a : Act} (hg : o.guard = none) (t : TypeId) (x y : Operand) (ho : o.op = .store t x y) (b n : Nat) (g g' : Nat → Value) (hx : a.eval x = .pointer (some ⟨b, 0, none⟩)) (hy : a.eval y = .agg (row n g').toArray) (hi : (P.info? t).map (·.size) = some n) (h1 : ∀ j, j < n → (g' j).oneCell' = true) : Writes P ops o b n g g' a :=
  ⟨by unfold Region.wanted; rw [hg], fun w h => by
    unfold execOp
    simp only [ho, hx, hy, Sem.run_bind, Sem.run_pure, run_storeAt_mid (P := P) w b 0 t (row n g').toArray (by rw [row_size]; exact h.there) (by rw [row_size]; exact hi) (row_one h1), Result.andThen_ok]⟩
end
end Go.Proofs.YtiakkclabgelfaaDoor
namespace Go.Proofs.YtiakkclabgelfaaDoor
open Go.RowKit Go.BigFrame
def lenB (n i : Nat) : BitVec 8 := BitVec.ofNat 8 (n * 8 / 2 ^ (56 - 8 * i))
def pieces (n : Nat) : Nat := (n + 8) / 64 + 1
def fillF (m : Nat → BitVec 8) (n j : Nat) : BitVec 8 := if j < n then m j else if j = n then 128#8 else if j < 64 * pieces n - 8 then 0#8 else lenB n (j - (64 * pieces n - 8))
def shaF (m : Nat → BitVec 8) (n : Nat) : Nat → BitVec 8 := digF (chain (fillF m n) (pieces n))
theorem lenB_fact (n i : Nat) : (n : Int) * 8 / 2 ^ (56 - 8 * i) % 256 = ((lenB n i).toNat : Int) := by
  unfold lenB
  rw [BitVec.toNat_ofNat]
  simp
theorem makes28 {o : Oper} (hg : o.guard = none) (ho : o.op = .alloc 132) : Makes Tryd.prog o 8 (wv fun _ => 0#32) := ⟨hg, fun ρ w => ⟨(row 8 (wv fun _ => 0#32)).toArray, 132, by
  unfold execOp
  rw [ho]
  simp [go_sem]
  rfl, fun j hj => by rw [List.getElem?_toArray]; exact row_get 8 _ j hj⟩⟩
theorem makes29 {o : Oper} (hg : o.guard = none) (ho : o.op = .alloc 134) : Makes Tryd.prog o 64 (yv fun _ => 0#8) := ⟨hg, fun ρ w => ⟨(row 64 (yv fun _ => 0#8)).toArray, 134, by
  unfold execOp
  rw [ho]
  simp [go_sem]
  rfl, fun j hj => by rw [List.getElem?_toArray]; exact row_get 64 _ j hj⟩⟩
def SAt (B b1 b2 : Nat) (w : World) (s : Nat → BitVec 32) (p : Nat → BitVec 8) (X : World) : Prop :=
  RowAt b1 8 (wv s) X ∧ RowAt b2 64 (yv p) X ∧ RowAt B 32 (yv fun _ => 0#8) X ∧ Ext w X ∧ w.heap.size ≤ B ∧ B < b1 ∧ B < b2 ∧ b1 ≠ b2
section
variable {B b1 b2 : Nat} {w X Y : World} {s : Nat → BitVec 32} {p : Nat → BitVec 8}
theorem SAt.ext (h : SAt B b1 b2 w s p X) (k : Ext X Y) : SAt B b1 b2 w s p Y :=
  ⟨h.1.carry k, h.2.1.carry k, h.2.2.1.carry k, Ext.trans h.2.2.2.1 k, h.2.2.2.2⟩
theorem SAt.setS (h : SAt B b1 b2 w s p X) (s' : Nat → BitVec 32) : SAt B b1 b2 w s' p (X.setCells b1 0 (row 8 (wv s'))) := by
  obtain ⟨h1, h2, h3, h4, h5, h6, h7, h8⟩ := h
  exact ⟨h1.cells, h2.cellsOther h8 _ _, h3.cellsOther (by omega) _ _, below_setCells _ (by omega) _ _ _ h4, h5, h6, h7, h8⟩
theorem SAt.setP (h : SAt B b1 b2 w s p X) (p' : Nat → BitVec 8) : SAt B b1 b2 w s p' (X.setCells b2 0 (row 64 (yv p'))) := by
  obtain ⟨h1, h2, h3, h4, h5, h6, h7, h8⟩ := h
  exact ⟨h1.cellsOther (Ne.symm h8) _ _, h2.cells, h3.cellsOther (by omega) _ _, below_setCells _ (by omega) _ _ _ h4, h5, h6, h7, h8⟩
theorem SAt.setB (h : SAt B b1 b2 w s p X) (i : Nat) (v : BitVec 8) : SAt B b1 b2 w s (fun j => if j = i then v else p j) (X.setCell ⟨b2, i, none⟩ (.int .u8 (v.toNat : Int))) := by
  obtain ⟨h1, h2, h3, h4, h5, h6, h7, h8⟩ := h
  refine ⟨h1.other _ _ (Ne.symm h8), (h2.set i _).congr fun j _ => ?_, h3.other _ _ (by show b2 ≠ B; omega), h4.setCell (by show _ ≤ b2; omega) _, h5, h6, h7, h8⟩
  simp only [yv]
  by_cases e : j = i <;> simp [e]
theorem SAt.congr (h : SAt B b1 b2 w s p X) {p' : Nat → BitVec 8} (e : ∀ j, j < 64 → p j = p' j) : SAt B b1 b2 w s p' X :=
  ⟨h.1, h.2.1.congr fun j hj => by simp only [yv, e j hj], h.2.2⟩
end
set_option maxRecDepth 20000 in
set_option maxHeartbeats 4000000 in
theorem sum_any (c n : Nat) (m : Nat → BitVec 8) (w : World) (h : HashOf c m n w) (hC : TabC w) (hN : n < 1152921504606846976) :
    Calls Tryd.prog 76 #[.pointer (some ⟨c, 0, none⟩)] w fun e w' => e = .returned (.agg (row 32 (yv (shaF m n))).toArray) ∧ Below w.heap.size w w' := by
  have hz := zero24
  have HH : HashAt c (chain m (n / 64)) (pend m n) n (w.alloc (.cells (row 32 (yv fun _ => 0#8)).toArray 112)) := RowAt.alloc h _
  have HZ := RowAt.new w 32 (yv fun _ => 0#8) 112
  have H0 := hideit h
  replace HH := hideit HH
  replace HZ := hideit HZ
  replace hC := hideit hC
  obtain ⟨F, hF⟩ : ∃ F, F = fillF m n := ⟨_, rfl⟩
  obtain ⟨R, hR⟩ : ∃ R, R = shaF m n := ⟨_, rfl⟩
  rw [← hR]
  obtain ⟨wt, hwt⟩ : ∃ wt, wt = n % 64 := ⟨_, rfl⟩
  have hwl : wt < 64 := by omega
  replace hwt := hideit hwt
  replace hF := hideit hF
  replace hR := hideit hR
  clear h
  have hwq : Hid (∀ X, Ext w X → Calls Tryd.prog 90 #[.pointer (some ⟨c, 0, none⟩)] X fun e w' => e = .returned (.int .i64 (wt : Int)) ∧ w' = X) := fun X hX => by
    have hq := waiting_any c n _ _ X (RowAt.carry H0.out hX)
    rw [← hwt.out] at hq
    exact hq
  generalize hs0 : chain m (n / 64) = s0 at *
  generalize hp0 : pend m n = p0 at *
  replace hs0 := hideit hs0
  replace hp0 := hideit hp0
  have hne := kept_ne ((w.alloc (.cells (row 32 (yv fun _ => 0#8)).toArray 112)).drew)
  go_enter Tryd.func76, Tryd.ntmps76
  go_wp2
  refine wp_region_made2s 8 8 (wv fun _ => 0#32) 64 (yv fun _ => 0#8) (wv s0) _ _ _ (by kernel_rfl) (by kernel_rfl) rfl rfl rfl (makes28 rfl rfl) (makes29 rfl rfl) ?_
  simp only [List.take_succ_cons, List.take_zero, List.drop_succ_cons, List.drop_zero]
  refine wpStrong_run 8 rfl ?_
  simp only [List.take_succ_cons, List.take_zero, List.drop_succ_cons, List.drop_zero]
  go_big_quiet_step (fail)
  go_big_quiet_step (fail)
  go_big_quiet_step (fail)
  go_big_quiet_want
  refine loadQ 132 (.tmp 12) c 0 8 (wv s0) rfl rfl (fun w' hw' => HashAt.state (RowAt.carry (RowAt.drew HH.out) hw')) Tryd.underlying132 rfl info28 ?_
  simp only [zp0, zp1, zp2, zp3]
  go_big_quiet_on
  go_big_quiet_step (fail)
  go_big_quiet_step (fail)
  go_big_quiet_step (fail)
  go_big_quiet_want
  refine loadQ 134 (.tmp 16) c 8 64 (yv p0) rfl rfl (fun w' hw' => HashAt.piece (RowAt.carry (RowAt.drew HH.out) hw')) Tryd.underlying134 rfl info29 ?_
  simp only [zp0, zp1, zp2, zp3]
  go_big_quiet_on
  refine wpQuiet_nil ?_
  refine wpStrong_nil ?_
  intro b1 b2 hb1 hb2 hb12
  simp only [zp0, zp1, zp2, zp3]
  refine ⟨writes_row rfl 132 (.tmp 3) (.tmp 13) rfl b1 8 _ _ rfl rfl info28 (fun _ _ => rfl), fun X hX HR1 HR2 => ?_⟩
  replace HR1 := hideit HR1
  replace HR2 := hideit HR2
  refine wpList_store_mid rfl 134 (.tmp 4) (.tmp 17) rfl b2 0 (row 64 (yv p0)).toArray rfl rfl (by rw [row_size]; exact HR2.out.there) (by rw [row_size]; exact info29) (row_one fun _ _ => rfl) ?_
  have HS : SAt w.heap.size b1 b2 w s0 p0 (X.setCells b2 0 (row 64 (yv p0))) := by
    have hsz : (w.alloc (.cells (row 32 (yv fun _ => 0#8)).toArray 112)).heap.size = w.heap.size + 1 := by simp
    have hE : Ext w X := Ext.trans (((Below.refl _ _).alloc (Nat.le_refl _) _).drew) hX
    have h0 : SAt w.heap.size b1 b2 w s0 (fun _ => 0#8) X := ⟨HR1.out, HR2.out, HZ.out.drew.carry hX, hE, Nat.le_refl _, by omega, by omega, hb12⟩
    exact h0.setP p0
  replace HS := hideit HS
  clear HR1 HR2 hX hne HH HZ
  generalize X.setCells b2 0 (row 64 (yv p0)) = Y at *
  simp only [Act.put]
  have w0 : (0 : Int) ≤ (wt : Int) := by omega
  have w1 : (wt : Int) < 64 := by omega
  have eb := HS.out.2.1.1 wt hwl
  have gb := HS.out.2.1.2.1 wt hwl
  go_upto_region 5 with (go_at_call 90; refine (hwq.out _ HS.out.2.2.2.1).mono ?_; rintro e w' ⟨rfl, hw'⟩; subst hw')
  have HT0 := hideit (HS.out.setB wt 128#8)
  have hYe : (w'.setCell ⟨b2, wt, none⟩ (.int .u8 ((128#8 : BitVec 8).toNat : Int))) = w'.setCell ⟨b2, wt, none⟩ (.int .u8 128) := rfl
  rw [hYe] at HT0
  clear hYe HS eb gb
  generalize w'.setCell ⟨b2, wt, none⟩ (.int .u8 128) = Z at *
  by_cases hge : 56 ≤ wt
  · have hge56 : (56 : Int) ≤ (wt : Int) := by omega
    obtain ⟨pA, hpA⟩ : ∃ pA, pA = fun j => F (64 * (n / 64) + j) := ⟨_, rfl⟩
    obtain ⟨pB, hpB⟩ : ∃ pB, pB = fun j => F (64 * (n / 64 + 1) + j) := ⟨_, rfl⟩
    obtain ⟨s1, hs1⟩ : ∃ s1, s1 = chain F (n / 64 + 1) := ⟨_, rfl⟩
    obtain ⟨pz, hpz⟩ : ∃ pz : Nat → BitVec 8, pz = fun _ => 0#8 := ⟨_, rfl⟩
    have HT1 := hideit (HT0.out.congr (p' := pA) fun j hj => by
      rw [hpA, hF.out]
      show _ = fillF m n (64 * (n / 64) + j)
      have hw' := hwt.out
      unfold fillF
      have hpc : pieces n = n / 64 + 2 := by unfold pieces; omega
      rw [hpc]
      by_cases h1 : j = wt
      · rw [if_pos h1, if_neg (by omega), if_pos (by omega)]
      · rw [if_neg h1, ← hp0.out]
        unfold pend
        by_cases h2 : 64 * (n / 64) + j < n
        · rw [if_pos h2, if_pos h2]
        · rw [if_neg h2, if_neg h2, if_neg (by omega), if_pos (by omega)])
    have hblk := block_any s0 pA
    have hs2 : blockF s0 pA = s1 := by
      rw [hs1, hpA, ← hs0.out, hF.out]
      show _ = blockF (chain (fillF m n) (n / 64)) fun j => fillF m n (64 * (n / 64) + j)
      rw [chain_congr (m := fillF m n) (m' := m) (n / 64) fun j hj => by unfold fillF; rw [if_pos (by omega)]]
    rw [hs2] at hblk
    replace hblk := hideit hblk
    replace hpA := hideit hpA
    replace hpB := hideit hpB
    replace hs1 := hideit hs1
    replace hpz := hideit hpz
    clear hs2 HT0
    go_upto_region 6 with (go_at_call 90; refine (hwq.out _ HT1.out.2.2.2.1).mono ?_; rintro e w' ⟨rfl, hw'⟩; subst hw')
    refine wp_region_lit ?_
    refine wpList_load_mid rfl 132 (.tmp 3) rfl b1 0 rfl (row 8 (wv s0)) _ HT1.out.1.range Tryd.underlying132 rfl (by rw [row_length]; exact info28) ?_
    refine wpList_load_mid rfl 134 (.tmp 4) rfl b2 0 rfl (row 64 (yv pA)) _ HT1.out.2.1.range Tryd.underlying134 rfl (by rw [row_length]; exact info29) ?_
    simp only [zp0, zp1, zp2, zp3]
    refine wpList_call rfl (by simp [go_sem]) ((hblk.out _ (hC.out.ext HT1.out.2.2.2.1)).mono ?_)
    rintro e V ⟨rfl, hV⟩
    refine ⟨_, rfl, ?_⟩
    simp only [zp0, zp1, zp2, zp3]
    have HV := hideit (HT1.out.ext hV)
    clear hblk hV HT1
    refine wpList_store_mid rfl 132 (.tmp 3) (.tmp 26) rfl b1 0 (row 8 (wv s1)).toArray rfl rfl (by rw [row_size]; exact HV.out.1.there) (by rw [row_size]; exact info28) (row_one fun _ _ => rfl) ?_
    have HV1 := hideit (HV.out.setS s1)
    clear HV
    generalize V.setCells b1 0 (row 8 (wv s1)) = V1 at *
    simp only [Act.put]
    go_upto_region 7 with (fail)
    refine wp_region_lit ?_
    have hzb := zbuild29
    rw [← hpz.out] at hzb
    refine wpList_build rfl 134 [] rfl _ (hzb _) ?_
    simp only [zp0, zp1, zp2, zp3]
    refine wpList_store_mid rfl 134 (.tmp 4) (.tmp 27) rfl b2 0 (row 64 (yv pz)).toArray rfl rfl (by rw [row_size]; exact HV1.out.2.1.there) (by rw [row_size]; exact info29) (row_one fun _ _ => rfl) ?_
    have HT := hideit (HV1.out.setP pz)
    clear HV1 hzb
    generalize V1.setCells b2 0 (row 64 (yv pz)) = V2 at *
    simp only [Act.put]
    go_upto_region 8 with (fail)
    have n0 : (0 : Int) ≤ (n : Int) := by omega
    have n1 : (n : Int) < 1152921504606846976 := by omega
    have el : ∀ j, j < 1 → True := fun _ _ => trivial
    have eL : V2.cell? ⟨c, 72, none⟩ = some (.int .i64 (n : Int)) := HashAt.len (RowAt.carry H0.out HT.out.2.2.2.1)
    go_upto_region 9 with (fail)
    clear eL el
    go_wp2
    go_loopw [34] (fun i wr => ∃ q : Nat, q ≤ 8 ∧ i = .int .i64 q ∧ SAt w.heap.size b1 b2 w s1 (fun j => if 56 ≤ j ∧ j < 56 + q then lenB n (j - 56) else pz j) wr) (fun i _ => 8 - (intOf i).toNat)
    case atStart => exact ⟨0, by omega, rfl, HT.out.congr fun j _ => by rw [if_neg (by omega)]⟩
    case round =>
      clear HT
      obtain ⟨q, hq, rfl, hT⟩ := hrel
      have HT := hideit hT
      by_cases hlt : q < 8
      · have eb := hT.2.1.1 (56 + q) (by omega)
        have gb := hT.2.1.2.1 (56 + q) (by omega)
        clear hT
        have q0 : (0 : Int) ≤ (q : Int) := by omega
        have q1 : (q : Int) < 8 := by omega
        go_wp2
        rw [lenB_fact]
        refine ⟨⟨q + 1, by omega, by go_num, (HT.out.setB (56 + q) (lenB n q)).congr fun j _ => ?_⟩, by simp [intOf]; omega⟩
        by_cases e : j = 56 + q
        · subst e; rw [if_pos rfl, if_pos (by omega), show 56 + q - 56 = q by omega]
        · rw [if_neg e]
          by_cases h : 56 ≤ j ∧ j < 56 + q
          · rw [if_pos h, if_pos (by omega)]
          · rw [if_neg h, if_neg (by omega)]
      · obtain rfl : q = 8 := by omega
        have HU := hideit (hT.congr (p' := pB) fun j hj => by
          rw [hpB.out, hF.out, hpz.out]
          show _ = fillF m n (64 * (n / 64 + 1) + j)
          have hw' := hwt.out
          unfold fillF
          have hpc : pieces n = n / 64 + 2 := by unfold pieces; omega
          rw [hpc]
          by_cases h56 : 56 ≤ j
          · rw [if_pos (by omega), if_neg (by omega), if_neg (by omega), if_neg (by omega), show 64 * (n / 64 + 1) + j - (64 * (n / 64 + 2) - 8) = j - 56 by omega]
          · rw [if_neg (by omega), if_neg (by omega), if_neg (by omega), if_pos (by omega)])
        clear hT HT
        have hbl := hideit (block_any s1 pB wr (hC.out.ext HU.out.2.2.2.1))
        go_upto_region 14 with (fail)
        refine wp_region_lit ?_
        refine wpList_load_mid rfl 132 (.tmp 3) rfl b1 0 rfl (row 8 (wv s1)) _ HU.out.1.range Tryd.underlying132 rfl (by rw [row_length]; exact info28) ?_
        refine wpList_load_mid rfl 134 (.tmp 4) rfl b2 0 rfl (row 64 (yv pB)) _ HU.out.2.1.range Tryd.underlying134 rfl (by rw [row_length]; exact info29) ?_
        simp only [zp0, zp1, zp2, zp3]
        refine wpList_call rfl (by simp [go_sem]) (hbl.out.mono ?_)
        rintro e V ⟨rfl, hV⟩
        refine ⟨_, rfl, ?_⟩
        simp only [zp0, zp1, zp2, zp3]
        have HV := hideit (HU.out.ext hV)
        clear hbl hV HU
        refine wpList_call rfl (by simp [go_sem]) ((digest_any (blockF s1 pB) V).mono ?_)
        rintro e V2 ⟨rfl, hV2⟩
        refine ⟨_, rfl, ?_⟩
        simp only [zp0, zp1, zp2, zp3]
        have HV2 := hideit (HV.out.ext hV2)
        clear HV hV2
        have hfin : digF (blockF s1 pB) = R := by
          rw [hR.out, hpB.out, hs1.out, hF.out]
          unfold shaF
          rw [show pieces n = n / 64 + 1 + 1 by have := hwt.out; unfold pieces; omega]
          rfl
        rw [hfin]
        clear hfin
        refine wpList_store_mid rfl 112 (.tmp 2) (.tmp 50) rfl w.heap.size 0 (row 32 (yv R)).toArray rfl rfl (by rw [row_size]; exact HV2.out.2.2.1.there) (by rw [row_size]; exact info24) (row_one fun _ _ => rfl) ?_
        go_wp2
        exact bodyPost_ret (ret_row Tryd.results76 rfl (HV2.out.2.2.1.cells (g' := yv R)) Tryd.underlying112 rfl info24) rfl ⟨rfl, below_setCells _ (Nat.le_refl _) _ _ _ HV2.out.2.2.2.1⟩
  · have hlt56 : (wt : Int) < 56 := by omega
    obtain ⟨p1, hp1⟩ : ∃ p1, p1 = fun j => if j = wt then 128#8 else p0 j := ⟨_, rfl⟩
    rw [← hp1] at HT0
    replace hp1 := hideit hp1
    have HT := HT0
    clear HT0
    obtain ⟨pA, hpA⟩ : ∃ pA, pA = fun j => F (64 * (n / 64) + j) := ⟨_, rfl⟩
    replace hpA := hideit hpA
    go_upto_region 8 with (go_at_call 90; refine (hwq.out _ HT.out.2.2.2.1).mono ?_; rintro e w' ⟨rfl, hw'⟩; subst hw')
    have n0 : (0 : Int) ≤ (n : Int) := by omega
    have n1 : (n : Int) < 1152921504606846976 := by omega
    have el : ∀ j, j < 1 → True := fun _ _ => trivial
    have eL : w'.cell? ⟨c, 72, none⟩ = some (.int .i64 (n : Int)) := HashAt.len (RowAt.carry H0.out HT.out.2.2.2.1)
    go_upto_region 9 with (fail)
    clear eL el
    go_wp2
    go_loopw [34] (fun i wr => ∃ q : Nat, q ≤ 8 ∧ i = .int .i64 q ∧ SAt w.heap.size b1 b2 w s0 (fun j => if 56 ≤ j ∧ j < 56 + q then lenB n (j - 56) else p1 j) wr) (fun i _ => 8 - (intOf i).toNat)
    case atStart => exact ⟨0, by omega, rfl, HT.out.congr fun j _ => by rw [if_neg (by omega)]⟩
    case round =>
      clear HT
      obtain ⟨q, hq, rfl, hT⟩ := hrel
      have HT := hideit hT
      by_cases hlt : q < 8
      · have eb := hT.2.1.1 (56 + q) (by omega)
        have gb := hT.2.1.2.1 (56 + q) (by omega)
        clear hT
        have q0 : (0 : Int) ≤ (q : Int) := by omega
        have q1 : (q : Int) < 8 := by omega
        go_wp2
        rw [lenB_fact]
        refine ⟨⟨q + 1, by omega, by go_num, (HT.out.setB (56 + q) (lenB n q)).congr fun j _ => ?_⟩, by simp [intOf]; omega⟩
        by_cases e : j = 56 + q
        · subst e; rw [if_pos rfl, if_pos (by omega), show 56 + q - 56 = q by omega]
        · rw [if_neg e]
          by_cases h : 56 ≤ j ∧ j < 56 + q
          · rw [if_pos h, if_pos (by omega)]
          · rw [if_neg h, if_neg (by omega)]
      · obtain rfl : q = 8 := by omega
        have HU := hideit (hT.congr (p' := pA) fun j hj => by
          rw [hpA.out, hF.out]
          show _ = fillF m n (64 * (n / 64) + j)
          have hw' := hwt.out
          unfold fillF
          have hpc : pieces n = n / 64 + 1 := by unfold pieces; omega
          rw [hpc]
          by_cases h56 : 56 ≤ j
          · rw [if_pos (by omega), if_neg (by omega), if_neg (by omega), if_neg (by omega), show 64 * (n / 64) + j - (64 * (n / 64 + 1) - 8) = j - 56 by omega]
          · rw [if_neg (by omega), hp1.out]
            show (if j = wt then 128#8 else p0 j) = _
            by_cases h1 : j = wt
            · rw [if_pos h1, if_neg (by omega), if_pos (by omega)]
            · rw [if_neg h1, ← hp0.out]
              unfold pend
              by_cases h2 : 64 * (n / 64) + j < n
              · rw [if_pos h2, if_pos h2]
              · rw [if_neg h2, if_neg h2, if_neg (by omega), if_pos (by omega)])
        clear hT HT
        have hbl := hideit (block_any s0 pA wr (hC.out.ext HU.out.2.2.2.1))
        go_upto_region 14 with (fail)
        refine wp_region_lit ?_
        refine wpList_load_mid rfl 132 (.tmp 3) rfl b1 0 rfl (row 8 (wv s0)) _ HU.out.1.range Tryd.underlying132 rfl (by rw [row_length]; exact info28) ?_
        refine wpList_load_mid rfl 134 (.tmp 4) rfl b2 0 rfl (row 64 (yv pA)) _ HU.out.2.1.range Tryd.underlying134 rfl (by rw [row_length]; exact info29) ?_
        simp only [zp0, zp1, zp2, zp3]
        refine wpList_call rfl (by simp [go_sem]) (hbl.out.mono ?_)
        rintro e V ⟨rfl, hV⟩
        refine ⟨_, rfl, ?_⟩
        simp only [zp0, zp1, zp2, zp3]
        have HV := hideit (HU.out.ext hV)
        clear hbl hV HU
        refine wpList_call rfl (by simp [go_sem]) ((digest_any (blockF s0 pA) V).mono ?_)
        rintro e V2 ⟨rfl, hV2⟩
        refine ⟨_, rfl, ?_⟩
        simp only [zp0, zp1, zp2, zp3]
        have HV2 := hideit (HV.out.ext hV2)
        clear HV hV2
        have hfin : digF (blockF s0 pA) = R := by
          rw [hR.out, hpA.out, ← hs0.out, hF.out]
          unfold shaF
          rw [show pieces n = n / 64 + 1 by have := hwt.out; unfold pieces; omega]
          show _ = digF (blockF (chain (fillF m n) (n / 64)) fun j => fillF m n (64 * (n / 64) + j))
          rw [chain_congr (m := fillF m n) (m' := m) (n / 64) fun j hj => by unfold fillF; rw [if_pos (by omega)]]
        rw [hfin]
        clear hfin
        refine wpList_store_mid rfl 112 (.tmp 2) (.tmp 50) rfl w.heap.size 0 (row 32 (yv R)).toArray rfl rfl (by rw [row_size]; exact HV2.out.2.2.1.there) (by rw [row_size]; exact info24) (row_one fun _ _ => rfl) ?_
        go_wp2
        exact bodyPost_ret (ret_row Tryd.results76 rfl (HV2.out.2.2.1.cells (g' := yv R)) Tryd.underlying112 rfl info24) rfl ⟨rfl, below_setCells _ (Nat.le_refl _) _ _ _ HV2.out.2.2.2.1⟩
end Go.Proofs.YtiakkclabgelfaaDoor
