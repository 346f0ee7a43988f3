/-
  A law for regions that draw their order, in which two blocks are made and one of them is written while operations that only read may still stand out: a, b := x, y. A memory on its way.
-/
import Derived.Test.YtfbmeclpcgdmhabDoorQ3
import Derived.Test.YtfbmeclpcgdmhabDoorQ31
import Derived.Laws.MakeOwn
import Derived.Test.YtfbmeclpcgdmhabDoorQ15
namespace Go.Proofs.YtfbmeclpcgdmhabDoor
open Go.RowKit
section
variable {P : Program} {ops : Array Oper} {W : World} {Q : Exit → Act → World → Prop}
/-- in a frame the operation writes a row into block b, whatever the world in which the block lies -/
def Writes (P : Program) (ops : Array Oper) (o : Oper) (b n : Nat) (g g' : Nat → Value) (a : Act) : Prop :=
  Region.wanted o (yielded ops a.tmps) = true ∧ ∀ w, RowAt b n g w → (execOp a.eval o).run P w = .ok .skip (w.setCells b 0 (row n g'))
theorem Writes.put {o : Oper} {b n : Nat} {g g' : Nat → Value} {u : Value} {a : Act} {d : Option Tmp} (hs : ∀ cs b, o.op ≠ .select cs b) (h : ∀ t, d = some t → t ∉ o.looksAt ops) : Writes P ops o b n g g' (a.put d u) ↔ Writes P ops o b n g g' a := by
  unfold Writes
  rw [execOp_put (ops := ops) o hs a d u h, wanted_put o a d u h]
def SE (P : Program) (ops : Array Oper) (W : World) (Q : Exit → Act → World → Prop) (os : Oper) (n1 : Nat) (g1 : Nat → Value) (n2 : Nat) (g2 g1' : Nat → Value) (rest : List Oper) (b1 b2 : Nat) (A : Act) : Prop :=
  Writes P ops os b1 n1 g1 g1' A ∧ ∀ w', Ext W w' → RowAt b1 n1 g1' w' → RowAt b2 n2 g2 w' → wpList P ops Q rest (A.put os.dst undef) w'
def SF (P : Program) (ops : Array Oper) (W : World) (Q : Exit → Act → World → Prop) (n1 : Nat) (n2 : Nat) (g2 g1' : Nat → Value) (rest : List Oper) (b1 b2 : Nat) (A : Act) : Prop :=
  ∀ w', Ext W w' → RowAt b1 n1 g1' w' → RowAt b2 n2 g2 w' → wpList P ops Q rest A w'
theorem wpS_out (C : Nat → Nat → Prop) (E : Nat → Nat → Act → Prop) : ∀ (r : List Nat) (a : Act), wpS P ops W (fun A' => ∃ b1 b2, C b1 b2 ∧ E b1 b2 A') r a → ∃ b1 b2, C b1 b2 ∧ wpS P ops W (E b1 b2) r a
  | [], _, h => h
  | _ :: r, _, ⟨ok, vk, k1, k2, k3⟩ => by
    obtain ⟨b1, b2, c1, c2⟩ := wpS_out C E r _ k3
    exact ⟨b1, b2, c1, ok, vk, k1, k2, c2⟩
theorem se_take {os : Oper} {n1 n2 : Nat} {g1 g2 g1' : Nat → Value} {rest : List Oper} {b1 b2 s : Nat} (hsel : ∀ (j : Nat) (o : Oper) cs b, ops[j]? = some o → o.op ≠ .select cs b) (hs : ops[s]? = some os) : ∀ (r : List Nat) (a : Act), (∀ k ∈ r, ∀ ok, ops[k]? = some ok → ok.apart ops os = true) →
    wpS P ops W (SE P ops W Q os n1 g1 n2 g2 g1' rest b1 b2) r a → Writes P ops os b1 n1 g1 g1' a ∧ wpS P ops W (SF P ops W Q n1 n2 g2 g1' rest b1 b2) r (a.put os.dst undef)
  | [], a, _, ⟨h1, h2⟩ => ⟨h1, h2⟩
  | k :: r, a, hap, ⟨ok, vk, h1, h2, h3⟩ => by
    obtain ⟨p1, p2, p3⟩ := Oper.apart_spec (hap k List.mem_cons_self ok h1)
    obtain ⟨g1, g2⟩ := se_take hsel hs r _ (fun k' hk' => hap k' (List.mem_cons_of_mem _ hk')) h3
    refine ⟨(Writes.put (fun cs b => hsel s os cs b hs) p1).1 g1, ok, vk, h1, (StrongY.put (fun cs b => hsel k ok cs b h1) p3).2 h2, ?_⟩
    rw [← Act.put_comm a vk _ p2]
    exact g2
def mildC (ops : Array Oper) (q : Nat) : Bool :=
  Region.noSelect ops && (List.range ops.size).all fun j => match ops[j]? with
    | none => false
    | some o => o.after.all (fun e => !Region.binds .any e || decide (e.on < j)) && (List.range j).all (fun k =>
        if j < q + 3 then o.after.any (fun e => Region.binds .any e && e.on == k) || (match ops[k]? with | none => false | some ok => ok.apart ops o) else waits ops ops.size j k) && (if j = q + 2 then waits ops ops.size j q && waits ops ops.size j (q + 1) else true)
theorem mildC_spec {q : Nat} (h : mildC ops q = true) : (∀ (j : Nat) (o : Oper) cs b, ops[j]? = some o → o.op ≠ .select cs b) ∧ ∀ j o, ops[j]? = some o → (∀ e ∈ o.after, Region.binds .any e = true → e.on < j) ∧
    (j < q + 3 → ∀ k ok, k < j → ops[k]? = some ok → (∃ e ∈ o.after, Region.binds .any e = true ∧ e.on = k) ∨ ok.apart ops o = true) ∧ (q + 3 ≤ j → ∀ k, k < j → waits ops ops.size j k = true) ∧ (j = q + 2 → waits ops ops.size j q = true ∧ waits ops ops.size j (q + 1) = true) := by
  unfold mildC at h
  rw [Bool.and_eq_true] at h
  refine ⟨Region.noSelect_spec h.1, fun j o ho => ?_⟩
  have hj : j < ops.size := (Array.getElem?_eq_some_iff.1 ho).1
  have h1 := List.all_eq_true.1 h.2 j (List.mem_range.2 hj)
  rw [ho] at h1
  simp only [Bool.and_eq_true] at h1
  refine ⟨fun e he hb => ?_, fun hm k ok hk hok => ?_, fun hm k hk => ?_, fun hm => ?_⟩
  · have := Array.all_eq_true'.1 h1.1.1 e he
    simpa [hb] using this
  · have := List.all_eq_true.1 h1.1.2 k (List.mem_range.2 hk)
    rw [if_pos hm, hok, Bool.or_eq_true] at this
    rcases this with h2 | h2
    · obtain ⟨e, he, h3⟩ := Array.any_eq_true'.1 h2
      simp only [Bool.and_eq_true, beq_iff_eq] at h3
      exact .inl ⟨e, he, h3.1, h3.2⟩
    · exact .inr h2
  · have := List.all_eq_true.1 h1.1.2 k (List.mem_range.2 hk)
    rwa [if_neg (by omega)] at this
  · have := h1.2
    rw [if_pos hm, Bool.and_eq_true] at this
    exact this
structure MildCAt (P : Program) (ops : Array Oper) (W : World) (Q : Exit → Act → World → Prop) (q : Nat) (mk : Nat → Nat × (Nat → Value)) (E : Act → List Made → Prop) (n1 n2 : Nat) (g2 g1' : Nat → Value) (L : Array Bool) (A : Act) (w : World) : Prop where
  size : L.size = ops.size
  closed : Closed ops L
  way : ((∀ i, q + 2 ≤ i → i < ops.size → L.getD i false = false) ∧ ∃ T, Ext W w ∧ Holds T w ∧ wpS P ops W (fun A' => wpM ops W.heap.size mk E (left L q 2) A' T) (left L 0 q) A) ∨
    ((∀ i, q ≤ i → i < q + 3 → L.getD i false = true) ∧ (∀ i, q + 3 ≤ i → i < ops.size → L.getD i false = false) ∧ ∃ b1 b2, Ext W w ∧ RowAt b1 n1 g1' w ∧ RowAt b2 n2 g2 w ∧ wpS P ops W (fun A' => ∀ w', Ext W w' → RowAt b1 n1 g1' w' → RowAt b2 n2 g2 w' → wpList P ops Q (ops.toList.drop (q + 3)) A' w') (left L 0 q) A) ∨
    (∃ j, q + 3 < j ∧ j ≤ ops.size ∧ (∀ i, i < j → L.getD i false = true) ∧ (∀ i, j ≤ i → i < ops.size → L.getD i false = false) ∧ wpList P ops Q (ops.toList.drop j) A w)
theorem wp_region_mildC {id : Nat} {a : Act} {w : World} (q : Nat) (n1 : Nat) (g1 : Nat → Value) (n2 : Nat) (g2 g1' : Nat → Value) (os : Oper) (hm : P.follows .mixedOrders = true) (hB : mildC ops q = true) (hs : ops[q + 2]? = some os)
    (hmk : ∀ i, q ≤ i → i < q + 2 → ∃ o, ops[i]? = some o ∧ Makes P o (if i = q then (n1, g1) else (n2, g2)).1 (if i = q then (n1, g1) else (n2, g2)).2)
    (h : wpS P ops w.drew (fun A => wpM ops w.drew.heap.size (fun i => if i = q then (n1, g1) else (n2, g2)) (fun A' T => ∃ b1 b2, b1 ≠ b2 ∧ w.drew.heap.size ≤ b1 ∧ (b1, n1, g1) ∈ T ∧ (b2, n2, g2) ∈ T ∧ SE P ops w.drew Q os n1 g1 n2 g2 g1' (ops.toList.drop (q + 3)) b1 b2 A') (List.range' q 2) A []) (List.range' 0 q) a) : (Code.region id ops true).wp P Q a w := by
  obtain ⟨hsel, hb⟩ := mildC_spec hB
  have hsz3 : q + 2 < ops.size := (Array.getElem?_eq_some_iff.1 hs).1
  have hE : ∀ (A : Act) (T T' : List Made), (∀ y, y ∈ T ↔ y ∈ T') → (∃ b1 b2, b1 ≠ b2 ∧ w.drew.heap.size ≤ b1 ∧ (b1, n1, g1) ∈ T ∧ (b2, n2, g2) ∈ T ∧ SE P ops w.drew Q os n1 g1 n2 g2 g1' (ops.toList.drop (q + 3)) b1 b2 A) → (∃ b1 b2, b1 ≠ b2 ∧ w.drew.heap.size ≤ b1 ∧ (b1, n1, g1) ∈ T' ∧ (b2, n2, g2) ∈ T' ∧ SE P ops w.drew Q os n1 g1 n2 g2 g1' (ops.toList.drop (q + 3)) b1 b2 A) :=
    fun A T T' hT ⟨b1, b2, hne, hb1, h1, h2, h3⟩ => ⟨b1, b2, hne, hb1, (hT _).1 h1, (hT _).1 h2, h3⟩
  refine wp_region_inv (I := MildCAt P ops w.drew Q q (fun i => if i = q then (n1, g1) else (n2, g2)) (fun A' T => ∃ b1 b2, b1 ≠ b2 ∧ w.drew.heap.size ≤ b1 ∧ (b1, n1, g1) ∈ T ∧ (b2, n2, g2) ∈ T ∧ SE P ops w.drew Q os n1 g1 n2 g2 g1' (ops.toList.drop (q + 3)) b1 b2 A') n1 n2 g2 g1') hm ?h0 ?hs ?he
  case h0 =>
    have hf : ∀ k d, k < ops.size → (Array.replicate ops.size false).getD k d = false := fun k d hk => by unfold Array.getD; simp [hk]
    refine ⟨by simp, ?_, .inl ⟨fun i _ hi => hf i _ hi, [], Ext.refl _, (fun y hy => by cases hy), ?_⟩⟩
    · intro i o ho hi
      rw [hf i _ (Array.getElem?_eq_some_iff.1 ho).1] at hi
      cases hi
    · rw [left_all fun k _ hk => hf k _ (by omega), left_all fun k _ hk => hf k _ (by omega)]
      exact h
  case hs =>
    intro L A X i o hI ho hl hdeps
    have hin : i < ops.size := (Array.getElem?_eq_some_iff.1 ho).1
    have hiL : i < L.size := by rw [hI.size]; exact hin
    have hlf := getD_flip hl
    obtain ⟨_, b2, b3, b4⟩ := hb i o ho
    have hsize : (L.setIfInBounds i true).size = ops.size := by simp [hI.size]
    have hclosed := hI.closed.step ho hdeps
    have hap : i < q + 3 → ∀ k, k < i → L.getD k true = false → ∀ ok, ops[k]? = some ok → ok.apart ops o = true := by
      intro him k hk hkl ok hok
      rcases b2 him k ok hk hok with ⟨e, he, hbe, rfl⟩ | h2
      · have h3 := hdeps e he hbe
        rw [getD_flip hkl] at h3
        cases h3
      · exact h2
    have hall : q + 3 ≤ i → ∀ k, k < i → L.getD k false = true := fun hmi k hk => waits_listed hI.closed _ i k o ho hdeps (b3 hmi k hk)
    have hst : i = q + 2 → L.getD q false = true ∧ L.getD (q + 1) false = true := fun e => ⟨waits_listed hI.closed _ i q o ho hdeps (b4 e).1, waits_listed hI.closed _ i (q + 1) o ho hdeps (b4 e).2⟩
    rcases hI.way with ⟨h1, T, hX, hT, hw⟩ | ⟨h1, h1', c1, c2, hX, hR1, hR2, hw⟩ | ⟨j, hj1, hj2, hj3, hj4, hw⟩
    · by_cases hiq : i < q
      · obtain ⟨r1, r2, e1, e2, e3⟩ := left_split (L := L) (b := 0) (n := q) (i := i) (by omega) (by omega) hl
        rw [e1] at hw
        obtain ⟨v, hv, hr⟩ := wpS_take hsel ho r2 r1 A (fun k hk => hap (by omega) k (e3 k hk).1 (e3 k hk).2) hw
        refine StrongY.wpOp ho hX hv fun w' hw' => ⟨hsize, hclosed, .inl ⟨fun k hk hkn => ?_, T, hX.trans hw', hT.ext hw', ?_⟩⟩
        · rw [getD_set_ne false (by omega)]; exact h1 k hk hkn
        · rw [left_other (b := q) (n := 2) (by omega), e2]; exact hr
      · by_cases him : i < q + 2
        · obtain ⟨o', ho', hg, hrun⟩ := hmk i (by omega) him
          rw [ho] at ho'
          injection ho' with ho'
          subst ho'
          obtain ⟨r1, r2, e1, e2, e3⟩ := left_split (L := L) (b := q) (n := 2) (i := i) (by omega) (by omega) hl
          rw [e1] at hw
          obtain ⟨C, t, hr1, hr2⟩ := hrun A.eval X
          refine wpOp_plain ho hg ?_
          unfold Oper.wp
          rw [hr1]
          simp only [Oper.upon]
          have hXs : w.drew.heap.size ≤ X.heap.size := Below.size hX
          have hXa : Ext X (X.alloc (.cells C t)) := (Below.refl _ _).alloc (Nat.le_refl _) _
          have hfresh : ∀ y ∈ T, y.1 ≠ X.heap.size := fun y hy => Nat.ne_of_lt (hT y hy).2.2
          have hnew := wpSM_take (P := P) (W := w.drew) hE hsel ho r1 r2 T (fun k hk => hap (by omega) k (e3 k hk).1 (e3 k hk).2) X.heap.size hXs hfresh (left L 0 q) A (fun k hk => by
            obtain ⟨k1, k2⟩ := List.mem_filter.1 hk
            have := List.mem_range'_1.1 k1
            exact hap (by omega) k (by omega) (by simpa using k2)) hw
          refine ⟨hsize, hclosed, .inl ⟨fun k hk hkn => ?_, (X.heap.size, (if i = q then (n1, g1) else (n2, g2)).1, (if i = q then (n1, g1) else (n2, g2)).2) :: T, hX.trans hXa, ?_, ?_⟩⟩
          · rw [getD_set_ne false (by omega)]; exact h1 k hk hkn
          · intro y hy
            rcases List.mem_cons.1 hy with rfl | hy
            · exact RowAt.newOf X _ _ t C hr2
            · exact (hT y hy).carry hXa
          · rw [left_other (b := 0) (n := q) (by omega), e2]; exact hnew
        · have hi2 : i = q + 2 := by
            rcases Nat.lt_or_ge (q + 2) i with h2 | h2
            · have h3 := hall (by omega) (q + 2) h2
              rw [h1 (q + 2) (Nat.le_refl _) (by omega)] at h3
              cases h3
            · omega
          subst hi2
          obtain ⟨m1, m2⟩ := hst rfl
          have n2' : left L q 2 = [] := left_nil fun k hk1 hk2 => by
            rw [← getD_flip' (by rw [hI.size]; omega)]
            rcases (by omega : k = q ∨ k = q + 1) with rfl | rfl
            · exact m1
            · exact m2
          rw [n2'] at hw
          rw [hs] at ho
          injection ho with ho
          subst ho
          obtain ⟨c1, c2, ⟨hne, hc1, t1, t2⟩, hw1⟩ := wpS_out (fun b1 b2 => b1 ≠ b2 ∧ w.drew.heap.size ≤ b1 ∧ (b1, n1, g1) ∈ T ∧ (b2, n2, g2) ∈ T) (SE P ops w.drew Q os n1 g1 n2 g2 g1' (ops.toList.drop (q + 3))) (left L 0 q) A (wpS_mono (fun A' ⟨b1, b2, c1, c2, c3, c4, c5⟩ => ⟨b1, b2, ⟨c1, c2, c3, c4⟩, c5⟩) _ _ hw)
          obtain ⟨⟨hwa, hrn⟩, hw2⟩ := se_take hsel hs (left L 0 q) A (fun k hk => by
            obtain ⟨k1, k2⟩ := List.mem_filter.1 hk
            have := List.mem_range'_1.1 k1
            exact hap (by omega) k (by omega) (by simpa using k2)) hw1
          have R1 := hT _ t1
          have R2 := hT _ t2
          unfold wpOp
          rw [hs]
          simp only [hwa, if_true]
          refine .inl ?_
          unfold Oper.wp
          rw [hrn X R1]
          simp only [Oper.upon]
          refine ⟨hsize, hclosed, .inr (.inl ⟨fun k hk1 hk2 => ?_, fun k hk hkn => ?_, c1, c2, below_setCells _ hc1 _ _ _ hX, R1.cells, R2.cellsOther hne _ _, ?_⟩)⟩
          · rcases (by omega : k = q ∨ k = q + 1 ∨ k = q + 2) with rfl | rfl | rfl
            · rw [getD_set_ne false (by omega)]; exact m1
            · rw [getD_set_ne false (by omega)]; exact m2
            · exact getD_same hiL
          · rw [getD_set_ne false (by omega)]; exact h1 k (by omega) hkn
          · rw [left_other (b := 0) (n := q) (by omega)]; exact hw2
    · by_cases hiq : i < q
      · obtain ⟨r1, r2, e1, e2, e3⟩ := left_split (L := L) (b := 0) (n := q) (i := i) (by omega) (by omega) hl
        rw [e1] at hw
        obtain ⟨v, hv, hr⟩ := wpS_take hsel ho r2 r1 A (fun k hk => hap (by omega) k (e3 k hk).1 (e3 k hk).2) hw
        refine StrongY.wpOp ho hX hv fun w' hw' => ⟨hsize, hclosed, .inr (.inl ⟨fun k hk1 hk2 => ?_, fun k hk hkn => ?_, c1, c2, hX.trans hw', hR1.carry hw', hR2.carry hw', ?_⟩)⟩
        · rw [getD_set_ne false (by omega)]; exact h1 k hk1 hk2
        · rw [getD_set_ne false (by omega)]; exact h1' k hk hkn
        · rw [e2]; exact hr
      · have hi3 : i = q + 3 := by
          rcases Nat.lt_or_ge i (q + 3) with h2 | h2
          · rw [h1 i (by omega) h2] at hlf; cases hlf
          · rcases Nat.lt_or_ge (q + 3) i with h3 | h3
            · have h4 := hall (by omega) (q + 3) h3
              rw [h1' (q + 3) (Nat.le_refl _) (by omega)] at h4
              cases h4
            · omega
        subst hi3
        have hk := hall (Nat.le_refl _)
        have n1' : left L 0 q = [] := left_nil fun k _ hk2 => by rw [← getD_flip' (by rw [hI.size]; omega)]; exact hk k (by omega)
        rw [n1'] at hw
        have hw2 : wpList P ops Q (ops.toList.drop (q + 3)) A X := hw X hX hR1 hR2
        rw [drop_at ho] at hw2
        refine wpOp_of_list ho hw2 fun a' w' hh => ⟨hsize, hclosed, .inr (.inr ⟨q + 3 + 1, by omega, by omega, fun k hk2 => ?_, fun k hk2 hkn => ?_, hh⟩)⟩
        · rcases Nat.lt_or_ge k (q + 3) with h3 | h3
          · rw [getD_set_ne false (by omega)]; exact hk k h3
          · obtain rfl : k = q + 3 := by omega
            exact getD_same hiL
        · rw [getD_set_ne false (by omega)]; exact h1' k (by omega) hkn
    · have hij : i = j := by
        rcases Nat.lt_or_ge i j with h2 | h2
        · rw [hj3 i h2] at hlf; cases hlf
        · rcases Nat.lt_or_ge j i with h3 | h3
          · have h4 := hall (by omega) j h3
            rw [hj4 j (Nat.le_refl _) (by omega)] at h4
            cases h4
          · omega
      subst hij
      rw [drop_at ho] at hw
      refine wpOp_of_list ho hw fun a' w' hh => ⟨hsize, hclosed, .inr (.inr ⟨i + 1, by omega, by omega, fun k hk2 => ?_, fun k hk2 hkn => ?_, hh⟩)⟩
      · rcases Nat.lt_or_ge k i with h3 | h3
        · rw [getD_set_ne false (by omega)]; exact hj3 k h3
        · obtain rfl : k = i := by omega
          exact getD_same hiL
      · rw [getD_set_ne false (by omega)]; exact hj4 k (by omega) hkn
  case he =>
    intro L A X hI hr
    have hall : ∀ n k, k < n → k < ops.size → L.getD k false = true := by
      intro n
      induction n with
      | zero => intro k hk; omega
      | succ n ih =>
        intro k hk hkn
        cases hv : L.getD k false with
        | true => rfl
        | false =>
          exfalso
          have ho : ops[k]? = some ops[k] := Array.getElem?_eq_getElem hkn
          have hmem : k ∈ Region.ready .any ops L := mem_ready.2 ⟨by rw [← getD_flip' (by rw [hI.size]; omega)]; exact hv, ops[k], ho, fun e he hbe => ih e.on (by have := (hb k _ ho).1 e he hbe; omega) (by have := (hb k _ ho).1 e he hbe; omega)⟩
          rw [hr] at hmem
          cases hmem
    have hk : ∀ k, k < ops.size → L.getD k false = true := fun k hk => hall (k + 1) k (by omega) hk
    rcases hI.way with ⟨h1, T, hX, hT, hw⟩ | ⟨h1, h1', c1, c2, hX, hR1, hR2, hw⟩ | ⟨j, hj1, hj2, hj3, hj4, hw⟩
    · have h4 := hk _ hsz3
      rw [h1 _ (Nat.le_refl _) hsz3] at h4
      cases h4
    · have n1' : left L 0 q = [] := left_nil fun k _ hk2 => by rw [← getD_flip' (by rw [hI.size]; omega)]; exact hk k (by omega)
      rw [n1'] at hw
      have hw2 : wpList P ops Q (ops.toList.drop (q + 3)) A X := hw X hX hR1 hR2
      have hnm : q + 3 = ops.size := by
        rcases Nat.lt_or_ge (q + 3) ops.size with h3 | h3
        · have h4 := hk _ h3
          rw [h1' _ (Nat.le_refl _) h3] at h4
          cases h4
        · omega
      rw [List.drop_of_length_le (by simp [hnm])] at hw2
      exact hw2
    · have hnm : j = ops.size := by
        rcases Nat.lt_or_ge j ops.size with h3 | h3
        · have h4 := hk _ h3
          rw [hj4 _ (Nat.le_refl _) h3] at h4
          cases h4
        · omega
      rw [List.drop_of_length_le (by simp [hnm])] at hw
      exact hw
/-- two blocks are made behind the first q operations, and the first of them is written right behind -/
theorem wp_region_made2s {id : Nat} {a : Act} {w : World} {l : List Oper} (q n1 : Nat) (g1 : Nat → Value) (n2 : Nat) (g2 g1' : Nat → Value) (o1 o2 os : Oper) (hm : P.follows .mixedOrders = true) (hB : mildC l.toArray q = true) (ho1 : l[q]? = some o1) (ho2 : l[q + 1]? = some o2) (hos : l[q + 2]? = some os) (hmk1 : Makes P o1 n1 g1) (hmk2 : Makes P o2 n2 g2)
    (h : wpStrong P l.toArray w.drew (fun A => ∀ b1 b2, w.heap.size ≤ b1 → w.heap.size ≤ b2 → b1 ≠ b2 → Writes P l.toArray os b1 n1 g1 g1' ((A.put o1.dst (.pointer (some ⟨b1, 0, none⟩))).put o2.dst (.pointer (some ⟨b2, 0, none⟩))) ∧
      ∀ w', Ext w.drew w' → RowAt b1 n1 g1' w' → RowAt b2 n2 g2 w' → wpList P l.toArray Q (l.drop (q + 3)) (((A.put o1.dst (.pointer (some ⟨b1, 0, none⟩))).put o2.dst (.pointer (some ⟨b2, 0, none⟩))).put os.dst undef) w') (l.take q) a) : (Code.region id l.toArray true).wp P Q a w := by
  have hlt : q + 2 < l.length := (List.getElem?_eq_some_iff.1 hos).1
  have hat : ∀ i, q ≤ i → i < q + 2 → ∃ o, l.toArray[i]? = some o ∧ Makes P o (if i = q then (n1, g1) else (n2, g2)).1 (if i = q then (n1, g1) else (n2, g2)).2 := by
    intro i h1 h2
    by_cases e : i = q
    · subst e
      rw [if_pos rfl]
      exact ⟨o1, by simpa using ho1, hmk1⟩
    · obtain rfl : i = q + 1 := by omega
      rw [if_neg e]
      exact ⟨o2, by simpa using ho2, hmk2⟩
  refine wp_region_mildC q n1 g1 n2 g2 g1' os hm hB (by simpa using hos) hat ?_
  have hlen : (l.take q).length = q := by simp; omega
  have := wpS_of_strong (l.take q) 0 a (fun j hj => by simp [show j < q by omega]) h
  rw [hlen] at this
  refine wpS_mono (fun A hA => ?_) _ _ this
  intro o' ho' b hb _ o'' ho'' b' hb' hn'
  have e1 : l[q]? = some o' := by simpa using ho'
  rw [ho1] at e1
  injection e1 with e1
  subst e1
  have e2 : l[q + 1]? = some o'' := by simpa using ho''
  rw [ho2] at e2
  injection e2 with e2
  subst e2
  have hne : b ≠ b' := fun e => hn' _ List.mem_cons_self e
  obtain ⟨k1, k2⟩ := hA b b' hb hb' hne
  refine ⟨b, b', hne, hb, by simp, by simp, k1, fun w' hw' r1 r2 => ?_⟩
  exact k2 w' hw' r1 r2
theorem writes_row {o : Oper} {a : Act} (hg : o.guard = none) (t : TypeId) (x y : Operand) (ho : o.op = .store t x y) (b n : Nat) (g g' : Nat → Value) (hx : a.eval x = .pointer (some ⟨b, 0, none⟩)) (hy : a.eval y = .agg (row n g').toArray) (hi : (P.info? t).map (·.size) = some n) (h1 : ∀ j, j < n → (g' j).oneCell' = true) : Writes P ops o b n g g' a :=
  ⟨by unfold Region.wanted; rw [hg], fun w h => by
    unfold execOp
    simp only [ho, hx, hy, Sem.run_bind, Sem.run_pure, run_storeAt_mid (P := P) w b 0 t (row n g').toArray (by rw [row_size]; exact h.there) (by rw [row_size]; exact hi) (row_one h1), Result.andThen_ok]⟩
end
end Go.Proofs.YtfbmeclpcgdmhabDoor
namespace Go.Proofs.YtfbmeclpcgdmhabDoor
open Go.RowKit Go.BigFrame
set_option linter.unusedVariables false
theorem elem80 : ElemB Tryd.prog 80 61 24 := elem_b Tryd.underlying80 (by kernel_rfl) (by kernel_rfl) (by kernel_rfl)
theorem info24z : (Tryd.prog.info? 24).map (fun i => (i.zero, i.size, i.bytes)) = some (some (.agg (row 128 (wv fun _ => 0#64)).toArray), 128, 1024) := by kernel_rfl
theorem info_parts3 {P : Program} {e : TypeId} {z : Value} {size bytes : Nat} (h : (P.info? e).map (fun i => (i.zero, i.size, i.bytes)) = some (some z, size, bytes)) : ∃ i, P.info? e = some i ∧ i.zero = some z ∧ i.size = size ∧ i.bytes = bytes := by
  cases hi : P.info? e with
  | none => rw [hi] at h; cases h
  | some i =>
    rw [hi] at h
    simp only [Option.map_some, Option.some.injEq, Prod.mk.injEq] at h
    exact ⟨i, rfl, h.1, h.2.1, h.2.2⟩
theorem exec_made {P : Program} {o : Oper} {a : Act} {w : World} (t e : TypeId) (x y : Operand) (ho : o.op = .makeSlice t x y) (z : Value) (size bytes n : Nat) (hu : P.underlying t = some (.slice e)) (hi : (P.info? e).map (fun i => (i.zero, i.size, i.bytes)) = some (some z, size, bytes))
    (hx : a.eval x = .int .i64 (n : Int)) (hy : a.eval y = .int .i64 (n : Int)) (hb : bytes * n ≤ 140737488355328) (hn : n ≤ 140737488355328) : (execOp a.eval o).run P w = .ok (.value (.slice (some ⟨w.heap.size, 0, none⟩) n n)) (w.alloc (.cells (madeCells z.cells (n * size)) e)) := by
  obtain ⟨ti, hi1, hi2, hi3, hi4⟩ := info_parts3 hi
  have h9 : ((bytes * n : Nat) : Int) ≤ 281474976710656 := by omega
  rw [Int.natCast_mul] at h9
  have hr := run_make (P := P) w t e ti z hu hi1 hi2 .i64 .i64 n n (by omega) (Int.le_refl _) (by rw [hi4]; exact h9) (by omega)
  rw [hi3] at hr
  simp only [Int.toNat_natCast] at hr
  unfold execOp
  simp only [ho, hx, hy, hr, Sem.run_bind, Sem.run_pure, Result.andThen_ok]
theorem made_pg (w : World) (n : Nat) : RowAt w.heap.size (128 * n) (wv fun _ => 0#64) (w.alloc (.cells (madeCells (Value.agg (row 128 (wv fun _ => 0#64)).toArray).cells (n * 128)) 24)) := by
  obtain ⟨Z, hZ⟩ : ∃ Z, Z = (row 128 (wv fun _ => 0#64)).toArray := ⟨_, rfl⟩
  have hsz : Z.size = 128 := by rw [hZ, row_size]
  have hget : ∀ i, i < 128 → Z[i]? = some (wv (fun _ => 0#64) 0) := fun i hi => by
    rw [hZ, List.getElem?_toArray]
    exact row_get 128 _ _ hi
  rw [← hZ]
  clear hZ
  refine RowAt.newOf w (128 * n) _ 24 _ fun j hj => ?_
  show (madeCells Z (n * 128))[j]? = _
  unfold madeCells
  rw [Array.getElem?_map, Array.getElem?_range, if_pos (by omega), Option.map_some, hsz, getElem!_def, hget _ (Nat.mod_lt _ (by decide))]
  rfl
/-- a memory on its way: l lanes -/
def mkV (T M L s : Nat) (v : Value) : Nat → Value := fun j => if j = 0 then .int .i64 (T : Int) else if j = 1 then .int .i64 (M : Int) else if j = 2 then .int .i64 (L : Int) else if j = 3 then .int .i64 (s : Int) else v
structure Mk (B p T M L s l : Nat) (u v : Value) (bk : Nat → Nat) (Mw : Nat → BitVec 64) (X : World) : Prop where
  rc : RowAt p 5 (mkV T M L s u) X
  own : OwnB B 61 v l (fun i => .slice (some ⟨bk i, 0, none⟩) (4 * s) (4 * s)) X
  pg : ∀ i, i < l → RowAt (bk i) (128 * (4 * s)) (wv fun j => Mw (128 * (4 * s * i) + j)) X
  dj : ∀ i, i < l → bk i ≠ p ∧ v.ownBlock ≠ some (bk i) ∧ B ≤ bk i ∧ ∀ i', i' < l → bk i = bk i' → i = i'
  op : v.ownBlock ≠ some p ∧ B ≤ p
def up1 {α : Type} (f : Nat → α) (n : Nat) (a : α) : Nat → α := fun i => if i = n then a else f i
section
variable {B p T M L s l : Nat} {u v : Value} {bk : Nat → Nat} {Mw M2 : Nat → BitVec 64} {X Y : World}
theorem Mk.ext (h : Mk B p T M L s l u v bk Mw X) (k : Ext X Y) : Mk B p T M L s l u v bk Mw Y := ⟨h.rc.carry k, h.own.ext k, fun i hi => (h.pg i hi).carry k, h.dj, h.op⟩
theorem Mk.app (h : Mk B p T M L s l v v bk Mw X) (hB : B ≤ X.heap.size) (b : Nat) (hb : RowAt b (128 * (4 * s)) (wv fun j => M2 (128 * (4 * s * l) + j)) X) (hbB : B ≤ b) (hbp : b ≠ p) (hbv : v.ownBlock ≠ some b) (hbk : ∀ i, i < l → bk i ≠ b)
    (hM : ∀ i, i < l → ∀ j, j < 128 * (4 * s) → M2 (128 * (4 * s * i) + j) = Mw (128 * (4 * s * i) + j)) (hl : l < 4) (ty : TypeId) :
    ∃ v' Y, (Builtin.append_ #[80, 80] ty #[v, .slice (some ⟨X.heap.size, 0, none⟩) 1 1]).run Tryd.prog (X.alloc (.cells #[.slice (some ⟨b, 0, none⟩) (4 * s) (4 * s)] 61)) = .ok v' Y ∧ Mk B p T M L s (l + 1) v v' (up1 bk l b) M2 Y ∧ Below B X Y := by
  have hX1 : Ext X (X.alloc (.cells #[.slice (some ⟨b, 0, none⟩) (4 * s) (4 * s)] 61)) := (Below.refl _ _).alloc (Nat.le_refl _) _
  have hr := row_new1 X (.slice (some ⟨b, 0, none⟩) (4 * s) (4 * s)) 61
  have h1 := h.ext hX1
  have hb1 := hb.carry hX1
  have hs1 := Below.size hX1
  have hlt : ∀ i, i < l → bk i < X.heap.size := fun i hi => (h.pg i hi).2.2
  have hpl := h.rc.2.2
  have hbl := hb.2.2
  generalize X.alloc (.cells #[.slice (some ⟨b, 0, none⟩) (4 * s) (4 * s)] 61) = X1 at *
  obtain ⟨i, zz, e1, e2, e3, e4, e5⟩ := elem80.info
  obtain ⟨v', Y, a1, a2, a3, _, a5⟩ := run_append_own_at (P := Tryd.prog) X1 B 80 ty 61 i zz 1 24 elem80.slice e1 e2 e3 e4 e5 (by decide) v l _ h1.own ⟨X.heap.size, 0, none⟩ 1 1 [.slice (some ⟨b, 0, none⟩) (4 * s) (4 * s)] rfl (fun j x hj => by
    cases j with
    | zero => simp at hj; subst hj; exact hr.1 0 (by decide)
    | succ j => simp at hj) (fun x hx => by simp at hx; subst hx; rfl) (by unfold maxLen; omega) (by omega) (by omega)
  have hown : ∀ z, z < X.heap.size → v.ownBlock ≠ some z → v'.ownBlock ≠ some z := fun z hz hn e => by
    rcases a5 with q | q
    · exact hn (q ▸ e)
    · rw [q] at e
      have e : X1.heap.size = z := Option.some.inj e
      omega
  have o1 : ∀ {α : Type} (f : Nat → α) (x : α), up1 f l x l = x := fun f x => by unfold up1; rw [if_pos rfl]
  have o2 : ∀ {α : Type} (f : Nat → α) (x : α) (i : Nat), i < l → up1 f l x i = f i := fun f x i hi => by unfold up1; rw [if_neg (by omega)]
  refine ⟨v', Y, a1, ⟨h1.rc.grown a3 fun e => h.op.1 e.symm, ?_, fun i hi => ?_, fun i hi => ?_, hown p hpl h.op.1, h.op.2⟩, Below.trans (Below.mono hX1 hB) (below_grown (by omega) a3 fun q hq => (h1.own.lt q hq).1)⟩
  · unfold OwnB
    rw [show row (l + 1) (fun i => Value.slice (some ⟨up1 bk l b i, 0, none⟩) (4 * s) (4 * s)) = row l (fun i => Value.slice (some ⟨bk i, 0, none⟩) (4 * s) (4 * s)) ++ [.slice (some ⟨b, 0, none⟩) (4 * s) (4 * s)] from ?_]
    · exact a2
    · rw [← row_append l 1 (fun i => Value.slice (some ⟨bk i, 0, none⟩) (4 * s) (4 * s)) (fun _ => .slice (some ⟨b, 0, none⟩) (4 * s) (4 * s)) _ (fun j hj => by rw [o2 _ _ _ hj]) (fun j hj => by rw [show l + j = l by omega, o1])]
      rfl
  · by_cases e : i = l
    · subst e
      rw [o1]
      exact hb1.grown a3 fun e => hbv e.symm
    · have hi' : i < l := by omega
      rw [o2 _ _ _ hi']
      exact ((h1.pg i hi').grown a3 fun e => (h.dj i hi').2.1 e.symm).congr fun j hj => by
        unfold wv
        dsimp only
        rw [hM i hi' j hj]
  · by_cases e : i = l
    · subst e
      rw [o1]
      refine ⟨hbp, hown b hbl hbv, hbB, fun i' hi' q => ?_⟩
      by_cases e2 : i' = i
      · exact e2.symm
      · rw [o2 _ _ _ (by omega)] at q
        exact absurd q.symm (hbk i' (by omega))
    · have hi' : i < l := by omega
      obtain ⟨d1, d2, d3, d4⟩ := h.dj i hi'
      rw [o2 _ _ _ hi']
      refine ⟨d1, hown _ (hlt i hi') d2, d3, fun i' hi2 q => ?_⟩
      by_cases e2 : i' = l
      · subst e2
        rw [o1] at q
        exact absurd q (hbk i hi')
      · rw [o2 _ _ _ (by omega)] at q
        exact d4 i' (by omega) q
theorem Mk.st (h : Mk B p T M L s l u v bk Mw X) : Mk B p T M L s l v v bk Mw (X.setCell ⟨p, 4, none⟩ v) := by
  refine ⟨(h.rc.set 4 v).congr fun j hj => ?_, h.own.other ⟨p, 4, none⟩ h.op.1 v, fun i hi => (h.pg i hi).other ⟨p, 4, none⟩ v (Ne.symm (h.dj i hi).1), h.dj, h.op⟩
  unfold mkV
  rcases (by omega : j = 0 ∨ j = 1 ∨ j = 2 ∨ j = 3 ∨ j = 4) with rfl | rfl | rfl | rfl | rfl <;> rfl
theorem Mk.mm (h : Mk B p T M L s L v v bk Mw X) (hL : 0 < L) : ∃ lb lc, Mm B p T M L s lb lc bk Mw X := by
  obtain ⟨g, cap, e, _, _, _, hR⟩ := h.own.lies hL
  refine ⟨g, cap, h.rc.congr fun j hj => by rw [e]; rfl, hR, h.pg, fun i hi => ?_⟩
  obtain ⟨d1, d2, d3, d4⟩ := h.dj i hi
  refine ⟨d1, fun q => d2 ?_, d3, d4⟩
  rw [e, q]
  rfl
theorem Mk.one (h : Mk B p T M L s l u v bk Mw X) : v.oneCell' = true := by
  rcases h.own.2 with ⟨e, _⟩ | ⟨g, cc, cur, e, _⟩ <;> rw [e] <;> rfl
end
/-- lanes that are not begun are zeros -/
theorem bgA_zero (s : Nat) (sd : Nat → BitVec 8) (hs : 2 ≤ s) : ∀ l J, 128 * (4 * s * l) ≤ J → bgA s sd l J = 0#64
  | 0, J, _ => rfl
  | l + 1, J, h => by
    have e : 4 * s * (l + 1) = 4 * s * l + 4 * s := Nat.mul_succ _ _
    unfold bgA upA
    rw [if_neg (by omega), if_neg (by omega)]
    exact bgA_zero s sd hs l J (by omega)
theorem bgA_lane (s : Nat) (sd : Nat → BitVec 8) (hs : 2 ≤ s) (l i j : Nat) (hi : i < l) (hj : j < 128 * (4 * s)) : bgA s sd (l + 1) (128 * (4 * s * i) + j) = bgA s sd l (128 * (4 * s * i) + j) := by
  show upA (upA (bgA s sd l) (4 * s * l) (bgP sd 0 l)) (4 * s * l + 1) (bgP sd 1 l) _ = _
  have e := lane_apart (s := s) (l := l) (l' := i) (i := 1) (j := j) (by omega) hj (by omega)
  have e0 := lane_apart (s := s) (l := l) (l' := i) (i := 0) (j := j) (by omega) hj (by omega)
  rw [Nat.add_zero] at e0
  unfold upA
  rw [if_neg e, if_neg e0]
/-- the lane on its way -/
def inM (s : Nat) (sd : Nat → BitVec 8) (l : Nat) : Nat → Nat → BitVec 64
  | 0 => bgA s sd l
  | i + 1 => upA (inM s sd l i) (4 * s * l + i) (bgP sd i l)
theorem inM_end (s : Nat) (sd : Nat → BitVec 8) (l : Nat) : inM s sd l 2 = bgA s sd (l + 1) := rfl
theorem in_part {b s l i : Nat} {F y : Nat → BitVec 64} {X : World} (h : RowAt b (128 * (4 * s)) (wv fun j => F (128 * (4 * s * l) + j)) X) (hi : i < 4 * s) : RowAt b (128 * (4 * s)) (wv fun j => upA F (4 * s * l + i) y (128 * (4 * s * l) + j)) (X.setCells b (i * 128) (row 128 (wv y))) := by
  refine (h.part (i * 128) 128 (wv y) (by omega)).congr fun j hj => ?_
  unfold wv upA
  dsimp only
  by_cases c : i * 128 ≤ j ∧ j < i * 128 + 128
  · rw [if_pos c, if_pos (by omega), show 128 * (4 * s * l) + j - 128 * (4 * s * l + i) = j - i * 128 by omega]
  · rw [if_neg c, if_neg (by omega)]
end Go.Proofs.YtfbmeclpcgdmhabDoor
