/-
  A law for regions that draw their order: operations that only read, calls that leave all old memory as it is, blocks that are made, and late operations behind them all. One walk in the order of the text serves every order. Words of 32 bits and bytes, as the walk spells them; what the functions that turn words answer.
-/
import Derived.Test.YtiakkclabgelfaaDoorQc2
import Derived.Test.YtiakkclabgelfaaDoorChecked
import Derived.WalkSpells
import Derived.WalkLawsBesides
import Derived.LoopTactic
import Derived.Laws.BitsAllLaws
import Derived.Laws.Bits64b
namespace Go.Proofs.YtiakkclabgelfaaDoor
open Go.RowKit
def Ext (W w : World) : Prop := Below W.heap.size W w
theorem Ext.refl (W : World) : Ext W W := Below.refl _ _
theorem Ext.trans {a b c : World} (h : Ext a b) (k : Ext b c) : Ext a c := Below.trans h (Below.mono k (Below.size h))
def strongUpon (P : Program) (w : World) (v : Value) : Result Next → Prop
  | .ok (.value u) w' => w' = w ∧ u = v
  | .ok .skip w' => w' = w ∧ v = undef
  | .ok (.enter f args) w' => w' = w ∧ Calls P f args w fun e w'' => e = .returned v ∧ Ext w w''
  | _ => False
def StrongY (P : Program) (ops : Array Oper) (W : World) (o : Oper) (v : Value) (a : Act) : Prop :=
  (Region.wanted o (yielded ops a.tmps) = true ∧ ∀ w, Ext W w → strongUpon P w v ((execOp a.eval o).run P w)) ∨ (Region.wanted o (yielded ops a.tmps) = false ∧ v = undef)
def Makes (P : Program) (o : Oper) (n : Nat) (g : Nat → Value) : Prop :=
  o.guard = none ∧ ∀ ρ w, ∃ C t, (execOp ρ o).run P w = .ok (.value (.pointer (some ⟨w.heap.size, 0, none⟩))) (w.alloc (.cells C t)) ∧ ∀ j, j < n → C[j]? = some (g j)
abbrev Made := Nat × Nat × (Nat → Value)
def Holds (T : List Made) (w : World) : Prop := ∀ y ∈ T, RowAt y.1 y.2.1 y.2.2 w
theorem Holds.ext {T : List Made} {w w' : World} (h : Holds T w) (k : Ext w w') : Holds T w' := fun y hy => (h y hy).carry k
section
variable {P : Program} {ops : Array Oper} {W : World} {Q : Exit → Act → World → Prop}
theorem StrongY.put {o : Oper} {v u : Value} {a : Act} {d : Option Tmp} (hs : ∀ cs b, o.op ≠ .select cs b) (h : ∀ t, d = some t → t ∉ o.looksAt ops) : StrongY P ops W o v (a.put d u) ↔ StrongY P ops W o v a := by
  unfold StrongY
  rw [execOp_put (ops := ops) o hs a d u h, wanted_put o a d u h]
theorem StrongY.wpOp {i : Nat} {o : Oper} {v : Value} {a : Act} {w : World} {K : Act → World → Prop} (hi : ops[i]? = some o) (hw : Ext W w) (hy : StrongY P ops W o v a) (hK : ∀ w', Ext w w' → K (a.put o.dst v) w') : wpOp P ops Q i K a w := by
  unfold Go.wpOp
  rw [hi]
  rcases hy with ⟨h1, h2⟩ | ⟨h1, rfl⟩
  · simp only [h1, if_true]
    refine .inl ?_
    have h3 := h2 w hw
    unfold Oper.wp
    generalize (execOp a.eval o).run P w = r at *
    cases r with
    | ok n w' =>
      cases n <;> simp only [strongUpon] at h3 <;> simp only [Oper.upon]
      case value u =>
        obtain ⟨rfl, rfl⟩ := h3
        exact hK _ (Ext.refl _)
      case skip =>
        obtain ⟨rfl, rfl⟩ := h3
        exact hK _ (Ext.refl _)
      case enter f args =>
        obtain ⟨rfl, hc⟩ := h3
        exact hc.mono fun e w'' ⟨he, hw''⟩ => by subst he; exact hK _ hw''
    | halt x w' => simp only [strongUpon] at h3
  · simp only [h1, Bool.false_eq_true, if_false]
    exact hK _ (Ext.refl _)
def wpS (P : Program) (ops : Array Oper) (W : World) (E : Act → Prop) : List Nat → Act → Prop
  | [], a => E a
  | i :: r, a => ∃ o v, ops[i]? = some o ∧ StrongY P ops W o v a ∧ wpS P ops W E r (a.put o.dst v)
def wpM (ops : Array Oper) (B : Nat) (mk : Nat → Nat × (Nat → Value)) (E : Act → List Made → Prop) : List Nat → Act → List Made → Prop
  | [], a, T => E a T
  | i :: r, a, T => ∀ o, ops[i]? = some o → ∀ b, B ≤ b → (∀ y ∈ T, y.1 ≠ b) → wpM ops B mk E r (a.put o.dst (.pointer (some ⟨b, 0, none⟩))) ((b, (mk i).1, (mk i).2) :: T)
theorem wpS_mono {E E' : Act → Prop} (h : ∀ a, E a → E' a) : ∀ (l : List Nat) (a : Act), wpS P ops W E l a → wpS P ops W E' l a
  | [], _, hh => h _ hh
  | _ :: r, _, ⟨o, v, h1, h2, h3⟩ => ⟨o, v, h1, h2, wpS_mono h r _ h3⟩
theorem wpS_take {E : Act → Prop} {i : Nat} {o : Oper} (hsel : ∀ (j : Nat) (o : Oper) cs b, ops[j]? = some o → o.op ≠ .select cs b) (hi : ops[i]? = some o) (r2 : List Nat) : ∀ (r1 : List Nat) (a : Act), (∀ k ∈ r1, ∀ ok, ops[k]? = some ok → ok.apart ops o = true) →
    wpS P ops W E (r1 ++ i :: r2) a → ∃ v, StrongY P ops W o v a ∧ wpS P ops W E (r1 ++ r2) (a.put o.dst v)
  | [], a, _, ⟨o', v, h1, h2, h3⟩ => by
    rw [hi] at h1
    injection h1 with h1
    subst h1
    exact ⟨v, h2, h3⟩
  | k :: r1, a, hap, ⟨ok, vk, h1, h2, h3⟩ => by
    obtain ⟨v, g1, g2⟩ := wpS_take hsel hi r2 r1 _ (fun k' hk' => hap k' (List.mem_cons_of_mem _ hk')) h3
    obtain ⟨p1, p2, p3⟩ := Oper.apart_spec (hap k List.mem_cons_self ok h1)
    refine ⟨v, (StrongY.put (fun cs b => hsel i o cs b hi) p1).1 g1, ok, vk, h1, (StrongY.put (fun cs b => hsel k ok cs b h1) p3).2 h2, ?_⟩
    rw [← Act.put_comm a vk v p2]
    exact g2
theorem wpM_congr {B : Nat} {mk : Nat → Nat × (Nat → Value)} {E : Act → List Made → Prop} (hE : ∀ a T T', (∀ y, y ∈ T ↔ y ∈ T') → E a T → E a T') : ∀ (l : List Nat) (a : Act) (T T' : List Made), (∀ y, y ∈ T ↔ y ∈ T') → wpM ops B mk E l a T → wpM ops B mk E l a T'
  | [], _, _, _, hT, h => hE _ _ _ hT h
  | i :: r, a, T, T', hT, h => fun o ho b hb hn => wpM_congr hE r _ _ _ (fun y => by simp only [List.mem_cons, hT]) (h o ho b hb fun y hy => hn y ((hT y).1 hy))
theorem wpM_take {B : Nat} {mk : Nat → Nat × (Nat → Value)} {E : Act → List Made → Prop} (hE : ∀ a T T', (∀ y, y ∈ T ↔ y ∈ T') → E a T → E a T') {i : Nat} {o : Oper} (hi : ops[i]? = some o) (r2 : List Nat) : ∀ (r1 : List Nat) (a : Act) (T : List Made), (∀ k ∈ r1, ∀ ok, ops[k]? = some ok → ok.apart ops o = true) →
    wpM ops B mk E (r1 ++ i :: r2) a T → ∀ b, B ≤ b → (∀ y ∈ T, y.1 ≠ b) → wpM ops B mk E (r1 ++ r2) (a.put o.dst (.pointer (some ⟨b, 0, none⟩))) ((b, (mk i).1, (mk i).2) :: T)
  | [], a, T, _, h => fun b hb hn => h o hi b hb hn
  | k :: r1, a, T, hap, h => fun b hb hn ok hok bk hbk hnk => by
    have h1 := h ok hok bk hbk (fun y hy => hnk y (List.mem_cons_of_mem _ hy))
    obtain ⟨p1, p2, p3⟩ := Oper.apart_spec (hap k List.mem_cons_self ok hok)
    have h2 := wpM_take hE hi r2 r1 _ _ (fun k' hk' => hap k' (List.mem_cons_of_mem _ hk')) h1 b hb (fun y hy => by
      rcases List.mem_cons.1 hy with rfl | hy
      · intro e
        exact hnk _ List.mem_cons_self e.symm
      · exact hn y hy)
    rw [Act.put_comm a _ _ p2] at h2
    exact wpM_congr hE _ _ _ _ (fun y => by simp only [List.mem_cons]; exact ⟨fun h => h.elim (fun h => .inr (.inl h)) (fun h => h.elim .inl (fun h => .inr (.inr h))), fun h => h.elim (fun h => .inr (.inl h)) (fun h => h.elim .inl (fun h => .inr (.inr h)))⟩) h2
theorem wpSM_take {B : Nat} {mk : Nat → Nat × (Nat → Value)} {E : Act → List Made → Prop} (hE : ∀ a T T', (∀ y, y ∈ T ↔ y ∈ T') → E a T → E a T') (hsel : ∀ (j : Nat) (o : Oper) cs b, ops[j]? = some o → o.op ≠ .select cs b) {i : Nat} {o : Oper} (hi : ops[i]? = some o) (s1 s2 : List Nat) (T : List Made)
    (hs1 : ∀ k ∈ s1, ∀ ok, ops[k]? = some ok → ok.apart ops o = true) (b : Nat) (hb : B ≤ b) (hn : ∀ y ∈ T, y.1 ≠ b) : ∀ (r : List Nat) (a : Act), (∀ k ∈ r, ∀ ok, ops[k]? = some ok → ok.apart ops o = true) →
    wpS P ops W (fun A => wpM ops B mk E (s1 ++ i :: s2) A T) r a → wpS P ops W (fun A => wpM ops B mk E (s1 ++ s2) A ((b, (mk i).1, (mk i).2) :: T)) r (a.put o.dst (.pointer (some ⟨b, 0, none⟩)))
  | [], a, _, h => wpM_take hE hi s2 s1 a T hs1 h b hb hn
  | k :: r, a, hap, ⟨ok, vk, h1, h2, h3⟩ => by
    obtain ⟨p1, p2, p3⟩ := Oper.apart_spec (hap k List.mem_cons_self ok h1)
    refine ⟨ok, vk, h1, (StrongY.put (fun cs b => hsel k ok cs b h1) p3).2 h2, ?_⟩
    rw [← Act.put_comm a vk _ p2]
    exact wpSM_take hE hsel hi s1 s2 T hs1 b hb hn r _ (fun k' hk' => hap k' (List.mem_cons_of_mem _ hk')) h3
def waits (ops : Array Oper) : Nat → Nat → Nat → Bool
  | 0, _, _ => false
  | f + 1, j, k => match ops[j]? with
    | none => false
    | some o => o.after.any (fun e => Region.binds .any e && e.on == k) || o.after.any (fun e => Region.binds .any e && waits ops f e.on k)
def mildB (ops : Array Oper) (m : Nat) : Bool :=
  Region.noSelect ops && (List.range ops.size).all fun j => match ops[j]? with
    | none => false
    | some o => o.after.all (fun e => !Region.binds .any e || decide (e.on < j)) && (List.range j).all fun k =>
        if j < m then o.after.any (fun e => Region.binds .any e && e.on == k) || (match ops[k]? with | none => false | some ok => ok.apart ops o) else waits ops ops.size j k
def Closed (ops : Array Oper) (L : Array Bool) : Prop := ∀ i o, ops[i]? = some o → L.getD i false = true → ∀ e ∈ o.after, Region.binds .any e = true → L.getD e.on false = true
theorem waits_listed {L : Array Bool} (hC : Closed ops L) : ∀ (f j k : Nat) (o : Oper), ops[j]? = some o → (∀ e ∈ o.after, Region.binds .any e = true → L.getD e.on false = true) → waits ops f j k = true → L.getD k false = true
  | 0, _, _, _, _, _, h => by cases h
  | f + 1, j, k, o, ho, hd, h => by
    unfold waits at h
    rw [ho] at h
    simp only [Bool.or_eq_true, Array.any_eq_true'] at h
    rcases h with ⟨e, he, h⟩ | ⟨e, he, h⟩
    · simp only [Bool.and_eq_true, beq_iff_eq] at h
      rw [← h.2]
      exact hd e he h.1
    · simp only [Bool.and_eq_true] at h
      have h1 := hd e he h.1
      cases hoe : ops[e.on]? with
      | none =>
        have h2 := h.2
        cases f with
        | zero => cases h2
        | succ f => unfold waits at h2; rw [hoe] at h2; cases h2
      | some oe => exact waits_listed hC f e.on k oe hoe (hC e.on oe hoe h1) h.2
def left (L : Array Bool) (b n : Nat) : List Nat := (List.range' b n).filter fun k => !L.getD k true
theorem left_split {L : Array Bool} {b n i : Nat} (h1 : b ≤ i) (h2 : i < b + n) (hi : L.getD i true = false) : ∃ r1 r2, left L b n = r1 ++ i :: r2 ∧ left (L.setIfInBounds i true) b n = r1 ++ r2 ∧ ∀ k ∈ r1, k < i ∧ L.getD k true = false := by
  have hmem : i ∈ List.range' b n := List.mem_range'_1.2 ⟨h1, h2⟩
  obtain ⟨s, t, hst⟩ := List.append_of_mem hmem
  have hp : (s ++ i :: t).Pairwise (· < ·) := by rw [← hst]; exact List.pairwise_lt_range'
  obtain ⟨_, hp2, hp3⟩ := List.pairwise_append.1 hp
  have hp4 := (List.pairwise_cons.1 hp2).1
  have hne : ∀ k, k ≠ i → (L.setIfInBounds i true).getD k true = L.getD k true := fun k hk => getD_set_ne true (Ne.symm hk)
  have hself : (L.setIfInBounds i true).getD i true = true := by
    unfold Array.getD
    split
    · simp
    · rfl
  refine ⟨s.filter fun k => !L.getD k true, t.filter fun k => !L.getD k true, ?_, ?_, ?_⟩
  · unfold left
    rw [hst, List.filter_append, List.filter_cons, if_pos (by simp [hi])]
  · unfold left
    rw [hst, List.filter_append, List.filter_cons, if_neg (by simp [hself])]
    congr 1
    · exact List.filter_congr fun k hk => by rw [hne k (Nat.ne_of_lt (hp3 k hk i List.mem_cons_self))]
    · exact List.filter_congr fun k hk => by rw [hne k (Nat.ne_of_gt (hp4 k hk))]
  · intro k hk
    obtain ⟨hk1, hk2⟩ := List.mem_filter.1 hk
    exact ⟨hp3 k hk1 i List.mem_cons_self, by simpa using hk2⟩
theorem left_other {L : Array Bool} {b n i : Nat} (h : i < b ∨ b + n ≤ i) : left (L.setIfInBounds i true) b n = left L b n := by
  unfold left
  refine List.filter_congr fun k hk => ?_
  have := List.mem_range'_1.1 hk
  rw [getD_set_ne true (show i ≠ k by omega)]
theorem left_nil {L : Array Bool} {b n : Nat} (h : ∀ k, b ≤ k → k < b + n → L.getD k true = true) : left L b n = [] :=
  List.filter_eq_nil_iff.2 fun k hk => by
    have := List.mem_range'_1.1 hk
    simp [h k this.1 this.2]
theorem left_all {L : Array Bool} {b n : Nat} (h : ∀ k, b ≤ k → k < b + n → L.getD k true = false) : left L b n = List.range' b n :=
  List.filter_eq_self.2 fun k hk => by
    have := List.mem_range'_1.1 hk
    simp [h k this.1 this.2]
structure MildAt (P : Program) (ops : Array Oper) (W : World) (Q : Exit → Act → World → Prop) (q p : Nat) (mk : Nat → Nat × (Nat → Value)) (E : Act → List Made → Prop) (L : Array Bool) (A : Act) (w : World) : Prop where
  size : L.size = ops.size
  closed : Closed ops L
  way : ((∀ i, q + p ≤ i → i < ops.size → L.getD i false = false) ∧ ∃ T, Ext W w ∧ Holds T w ∧ wpS P ops W (fun A' => wpM ops W.heap.size mk E (left L q p) A' T) (left L 0 q) A) ∨
    (∃ j, q + p < j ∧ j ≤ ops.size ∧ (∀ i, i < j → L.getD i false = true) ∧ (∀ i, j ≤ i → i < ops.size → L.getD i false = false) ∧ wpList P ops Q (ops.toList.drop j) A w)
theorem getD_flip {L : Array Bool} {i : Nat} : L.getD i true = false → L.getD i false = false := by
  unfold Array.getD
  split
  · exact id
  · intro h; cases h
theorem getD_flip' {L : Array Bool} {i : Nat} (h : i < L.size) : L.getD i false = L.getD i true := by
  unfold Array.getD
  simp [h]
theorem getD_same {L : Array Bool} {i : Nat} (h : i < L.size) : (L.setIfInBounds i true).getD i false = true := by
  unfold Array.getD
  simp [h]
theorem Closed.step {L : Array Bool} (hC : Closed ops L) {i : Nat} {o : Oper} (ho : ops[i]? = some o) (hd : ∀ e ∈ o.after, Region.binds .any e = true → L.getD e.on false = true) : Closed ops (L.setIfInBounds i true) := by
  intro j oj hoj hj e he hb
  have up : ∀ k, L.getD k false = true → (L.setIfInBounds i true).getD k false = true := by
    intro k hk
    by_cases e1 : i = k
    · subst e1
      refine getD_same ?_
      unfold Array.getD at hk
      split at hk
      · assumption
      · cases hk
    · rw [getD_set_ne false e1]; exact hk
  by_cases e1 : i = j
  · subst e1
    rw [ho] at hoj
    injection hoj with hoj
    subst hoj
    exact up _ (hd e he hb)
  · rw [getD_set_ne false e1] at hj
    exact up _ (hC j oj hoj hj e he hb)
theorem wpOp_of_list {i : Nat} {o : Oper} {rest : List Oper} {K : Act → World → Prop} {A : Act} {X : World} (ho : ops[i]? = some o) (h : wpList P ops Q (o :: rest) A X) (hK : ∀ a w, wpList P ops Q rest a w → K a w) : wpOp P ops Q i K A X := by
  unfold wpList at h
  unfold wpOp
  rw [ho]
  by_cases hw : Region.wanted o (yielded ops A.tmps) = true
  · rw [if_pos hw] at h
    simp only [hw, if_true]
    exact h.imp (Oper.wp_mono hK) id
  · rw [if_neg hw] at h
    simp only [hw]
    exact hK _ _ h
theorem mildB_spec {m : Nat} (h : mildB ops m = true) : (∀ (j : Nat) (o : Oper) cs b, ops[j]? = some o → o.op ≠ .select cs b) ∧ ∀ j o, ops[j]? = some o → (∀ e ∈ o.after, Region.binds .any e = true → e.on < j) ∧
    (j < m → ∀ k ok, k < j → ops[k]? = some ok → (∃ e ∈ o.after, Region.binds .any e = true ∧ e.on = k) ∨ ok.apart ops o = true) ∧ (m ≤ j → ∀ k, k < j → waits ops ops.size j k = true) := by
  unfold mildB at h
  rw [Bool.and_eq_true] at h
  refine ⟨Region.noSelect_spec h.1, fun j o ho => ?_⟩
  have hj : j < ops.size := (Array.getElem?_eq_some_iff.1 ho).1
  have h1 := List.all_eq_true.1 h.2 j (List.mem_range.2 hj)
  rw [ho] at h1
  simp only [Bool.and_eq_true] at h1
  refine ⟨fun e he hb => ?_, fun hm k ok hk hok => ?_, fun hm k hk => ?_⟩
  · have := Array.all_eq_true'.1 h1.1 e he
    simpa [hb] using this
  · have := List.all_eq_true.1 h1.2 k (List.mem_range.2 hk)
    rw [if_pos hm, hok, Bool.or_eq_true] at this
    rcases this with h2 | h2
    · obtain ⟨e, he, h3⟩ := Array.any_eq_true'.1 h2
      simp only [Bool.and_eq_true, beq_iff_eq] at h3
      exact .inl ⟨e, he, h3.1, h3.2⟩
    · exact .inr h2
  · have := List.all_eq_true.1 h1.2 k (List.mem_range.2 hk)
    rwa [if_neg (by omega)] at this
theorem drop_at {i : Nat} {o : Oper} (ho : ops[i]? = some o) : ops.toList.drop i = o :: ops.toList.drop (i + 1) := by
  have hi : i < ops.toList.length := by simpa using (Array.getElem?_eq_some_iff.1 ho).1
  rw [List.drop_eq_getElem_cons hi]
  have h2 : ops.toList[i]? = some o := by rw [Array.getElem?_toList]; exact ho
  rw [List.getElem?_eq_getElem hi] at h2
  injection h2 with h2
  rw [h2]
theorem wp_region_mild {id : Nat} {a : Act} {w : World} (q p : Nat) (mk : Nat → Nat × (Nat → Value)) (hm : P.follows .mixedOrders = true) (hB : mildB ops (q + p) = true) (hqp : q + p ≤ ops.size) (hmk : ∀ i, q ≤ i → i < q + p → ∃ o, ops[i]? = some o ∧ Makes P o (mk i).1 (mk i).2)
    (h : wpS P ops w.drew (fun A => wpM ops w.drew.heap.size mk (fun A' T => ∀ w', Ext w.drew w' → Holds T w' → wpList P ops Q (ops.toList.drop (q + p)) A' w') (List.range' q p) A []) (List.range' 0 q) a) : (Code.region id ops true).wp P Q a w := by
  obtain ⟨hsel, hb⟩ := mildB_spec hB
  have hE : ∀ (A : Act) (T T' : List Made), (∀ y, y ∈ T ↔ y ∈ T') → (∀ w', Ext w.drew w' → Holds T w' → wpList P ops Q (ops.toList.drop (q + p)) A w') → (∀ w', Ext w.drew w' → Holds T' w' → wpList P ops Q (ops.toList.drop (q + p)) A w') :=
    fun A T T' hT hh w' hw' hH => hh w' hw' fun y hy => hH y ((hT y).1 hy)
  refine wp_region_inv (I := MildAt P ops w.drew Q q p mk fun A' T => ∀ w', Ext w.drew w' → Holds T w' → wpList P ops Q (ops.toList.drop (q + p)) A' w') hm ?h0 ?hs ?he
  case h0 =>
    have hf : ∀ k d, k < ops.size → (Array.replicate ops.size false).getD k d = false := fun k d hk => by unfold Array.getD; simp [hk]
    refine ⟨by simp, ?_, .inl ⟨fun i _ hi => hf i _ hi, [], Ext.refl _, (fun y hy => by cases hy), ?_⟩⟩
    · intro i o ho hi
      rw [hf i _ (Array.getElem?_eq_some_iff.1 ho).1] at hi
      cases hi
    · rw [left_all fun k _ hk => hf k _ (by omega), left_all fun k _ hk => hf k _ (by omega)]
      exact h
  case hs =>
    intro L A X i o hI ho hl hdeps
    have hin : i < ops.size := (Array.getElem?_eq_some_iff.1 ho).1
    have hiL : i < L.size := by rw [hI.size]; exact hin
    have hlf := getD_flip hl
    obtain ⟨_, b2, b3⟩ := hb i o ho
    have hsize : (L.setIfInBounds i true).size = ops.size := by simp [hI.size]
    have hclosed := hI.closed.step ho hdeps
    have hap : i < q + p → ∀ k, k < i → L.getD k true = false → ∀ ok, ops[k]? = some ok → ok.apart ops o = true := by
      intro him k hk hkl ok hok
      rcases b2 him k ok hk hok with ⟨e, he, hbe, rfl⟩ | h2
      · have h3 := hdeps e he hbe
        rw [getD_flip hkl] at h3
        cases h3
      · exact h2
    have hall : q + p ≤ i → ∀ k, k < i → L.getD k false = true := fun hmi k hk => waits_listed hI.closed _ i k o ho hdeps (b3 hmi k hk)
    rcases hI.way with ⟨h1, T, hX, hT, hw⟩ | ⟨j, hj1, hj2, hj3, hj4, hw⟩
    · by_cases hiq : i < q
      · obtain ⟨r1, r2, e1, e2, e3⟩ := left_split (L := L) (b := 0) (n := q) (i := i) (by omega) (by omega) hl
        rw [e1] at hw
        obtain ⟨v, hv, hr⟩ := wpS_take hsel ho r2 r1 A (fun k hk => hap (by omega) k (e3 k hk).1 (e3 k hk).2) hw
        refine StrongY.wpOp ho hX hv fun w' hw' => ⟨hsize, hclosed, .inl ⟨fun k hk hkn => ?_, T, hX.trans hw', hT.ext hw', ?_⟩⟩
        · rw [getD_set_ne false (by omega)]; exact h1 k hk hkn
        · rw [left_other (b := q) (n := p) (by omega), e2]; exact hr
      · by_cases him : i < q + p
        · obtain ⟨o', ho', hg, hrun⟩ := hmk i (by omega) him
          rw [ho] at ho'
          injection ho' with ho'
          subst ho'
          obtain ⟨r1, r2, e1, e2, e3⟩ := left_split (L := L) (b := q) (n := p) (i := i) (by omega) (by omega) hl
          rw [e1] at hw
          obtain ⟨C, t, hr1, hr2⟩ := hrun A.eval X
          refine wpOp_plain ho hg ?_
          unfold Oper.wp
          rw [hr1]
          simp only [Oper.upon]
          have hXs : w.drew.heap.size ≤ X.heap.size := Below.size hX
          have hXa : Ext X (X.alloc (.cells C t)) := (Below.refl _ _).alloc (Nat.le_refl _) _
          have hfresh : ∀ y ∈ T, y.1 ≠ X.heap.size := fun y hy => Nat.ne_of_lt (hT y hy).2.2
          have hnew := wpSM_take (P := P) (W := w.drew) hE hsel ho r1 r2 T (fun k hk => hap him k (e3 k hk).1 (e3 k hk).2) X.heap.size hXs hfresh (left L 0 q) A (fun k hk => by
            obtain ⟨k1, k2⟩ := List.mem_filter.1 hk
            have := List.mem_range'_1.1 k1
            exact hap him k (by omega) (by simpa using k2)) hw
          refine ⟨hsize, hclosed, .inl ⟨fun k hk hkn => ?_, (X.heap.size, (mk i).1, (mk i).2) :: T, hX.trans hXa, ?_, ?_⟩⟩
          · rw [getD_set_ne false (by omega)]; exact h1 k hk hkn
          · intro y hy
            rcases List.mem_cons.1 hy with rfl | hy
            · exact RowAt.newOf X _ _ t C hr2
            · exact (hT y hy).carry hXa
          · rw [left_other (b := 0) (n := q) (by omega), e2]; exact hnew
        · have hi2 : i = q + p := by
            rcases Nat.lt_or_ge (q + p) i with h2 | h2
            · have h3 := hall (by omega) (q + p) h2
              rw [h1 (q + p) (Nat.le_refl _) (by omega)] at h3
              cases h3
            · omega
          subst hi2
          have hk := hall (Nat.le_refl _)
          have n1 : left L 0 q = [] := left_nil fun k _ hk2 => by rw [← getD_flip' (by rw [hI.size]; omega)]; exact hk k (by omega)
          have n2 : left L q p = [] := left_nil fun k _ hk2 => by rw [← getD_flip' (by rw [hI.size]; omega)]; exact hk k (by omega)
          rw [n1, n2] at hw
          have hw2 : wpList P ops Q (ops.toList.drop (q + p)) A X := hw X hX hT
          rw [drop_at ho] at hw2
          refine wpOp_of_list ho hw2 fun a' w' hh => ⟨hsize, hclosed, .inr ⟨q + p + 1, by omega, by omega, fun k hk2 => ?_, fun k hk2 hkn => ?_, hh⟩⟩
          · rcases Nat.lt_or_ge k (q + p) with h3 | h3
            · rw [getD_set_ne false (by omega)]; exact hk k h3
            · obtain rfl : k = q + p := by omega
              exact getD_same hiL
          · rw [getD_set_ne false (by omega)]; exact h1 k (by omega) hkn
    · have hij : i = j := by
        rcases Nat.lt_or_ge i j with h2 | h2
        · rw [hj3 i h2] at hlf; cases hlf
        · rcases Nat.lt_or_ge j i with h3 | h3
          · have h4 := hall (by omega) j h3
            rw [hj4 j (Nat.le_refl _) (by omega)] at h4
            cases h4
          · omega
      subst hij
      rw [drop_at ho] at hw
      refine wpOp_of_list ho hw fun a' w' hh => ⟨hsize, hclosed, .inr ⟨i + 1, by omega, by omega, fun k hk2 => ?_, fun k hk2 hkn => ?_, hh⟩⟩
      · rcases Nat.lt_or_ge k i with h3 | h3
        · rw [getD_set_ne false (by omega)]; exact hj3 k h3
        · obtain rfl : k = i := by omega
          exact getD_same hiL
      · rw [getD_set_ne false (by omega)]; exact hj4 k (by omega) hkn
  case he =>
    intro L A X hI hr
    have hall : ∀ n k, k < n → k < ops.size → L.getD k false = true := by
      intro n
      induction n with
      | zero => intro k hk; omega
      | succ n ih =>
        intro k hk hkn
        cases hv : L.getD k false with
        | true => rfl
        | false =>
          exfalso
          have ho : ops[k]? = some ops[k] := Array.getElem?_eq_getElem hkn
          have hmem : k ∈ Region.ready .any ops L := mem_ready.2 ⟨by rw [← getD_flip' (by rw [hI.size]; omega)]; exact hv, ops[k], ho, fun e he hbe => ih e.on (by have := (hb k _ ho).1 e he hbe; omega) (by have := (hb k _ ho).1 e he hbe; omega)⟩
          rw [hr] at hmem
          cases hmem
    have hk : ∀ k, k < ops.size → L.getD k false = true := fun k hk => hall (k + 1) k (by omega) hk
    rcases hI.way with ⟨h1, T, hX, hT, hw⟩ | ⟨j, hj1, hj2, hj3, hj4, hw⟩
    · have n1 : left L 0 q = [] := left_nil fun k _ hk2 => by rw [← getD_flip' (by rw [hI.size]; omega)]; exact hk k (by omega)
      have n2 : left L q p = [] := left_nil fun k _ hk2 => by rw [← getD_flip' (by rw [hI.size]; omega)]; exact hk k (by omega)
      rw [n1, n2] at hw
      have hw2 : wpList P ops Q (ops.toList.drop (q + p)) A X := hw X hX hT
      have hnm : q + p = ops.size := by
        rcases Nat.lt_or_ge (q + p) ops.size with h3 | h3
        · have h4 := hk _ h3
          rw [h1 _ (Nat.le_refl _) h3] at h4
          cases h4
        · omega
      rw [List.drop_of_length_le (by simp [hnm])] at hw2
      exact hw2
    · have hnm : j = ops.size := by
        rcases Nat.lt_or_ge j ops.size with h3 | h3
        · have h4 := hk _ h3
          rw [hj4 _ (Nat.le_refl _) h3] at h4
          cases h4
        · omega
      rw [List.drop_of_length_le (by simp [hnm])] at hw
      exact hw
def wpStrong (P : Program) (ops : Array Oper) (W : World) (E : Act → Prop) : List Oper → Act → Prop
  | [], a => E a
  | o :: r, a => ∃ v, StrongY P ops W o v a ∧ wpStrong P ops W E r (a.put o.dst v)
theorem wpS_of_strong {E : Act → Prop} : ∀ (l : List Oper) (k : Nat) (a : Act), (∀ j, j < l.length → ops[k + j]? = l[j]?) → wpStrong P ops W E l a → wpS P ops W E (List.range' k l.length) a
  | [], _, _, _, h => h
  | o :: l, k, a, hl, ⟨v, h1, h2⟩ => ⟨o, v, by simpa using hl 0 (by simp), h1, wpS_of_strong l (k + 1) _ (fun j hj => by have := hl (j + 1) (by simpa using hj); simpa [Nat.add_assoc, Nat.add_comm 1 j] using this) h2⟩
theorem wp_region_late {id : Nat} {a : Act} {w : World} {l : List Oper} (q : Nat) (hm : P.follows .mixedOrders = true) (hB : mildB l.toArray q = true) (hq : q ≤ l.length)
    (h : wpStrong P l.toArray w.drew (fun A => ∀ w', Ext w.drew w' → wpList P l.toArray Q (l.drop q) A w') (l.take q) a) : (Code.region id l.toArray true).wp P Q a w := by
  refine wp_region_mild q 0 (fun _ => (0, fun _ => undef)) hm hB (by simpa using hq) (fun i h1 h2 => by omega) ?_
  have hlen : (l.take q).length = q := by simp [hq]
  have := wpS_of_strong (l.take q) 0 a (fun j hj => by simp [show j < q by omega]) h
  rw [hlen] at this
  exact wpS_mono (fun A hA w' hw' _ => by simpa using hA w' hw') _ _ this
theorem StrongY.call {o : Oper} {v : Value} {a : Act} {f : FuncId} {args : Array Value} (hw : Region.wanted o (yielded ops a.tmps) = true) (hr : ∀ w, (execOp a.eval o).run P w = .ok (.enter f args) w) (hc : ∀ w, Ext W w → Calls P f args w fun e w' => e = .returned v ∧ Below w.heap.size w w') : StrongY P ops W o v a :=
  .inl ⟨hw, fun w h => by rw [hr w]; exact ⟨rfl, hc w h⟩⟩
def Op.plain : Op → Bool
  | .call _ | .go _ | .defer _ | .send _ _ | .recv _ _ _ | .select _ _ => false
  | _ => true
theorem runV {s : Sem Value} {w w' : World} {n : Next} (h : Sem.run P (do pure (Next.value (← s))) w = .ok n w') : ∃ v, n = .value v := by
  rw [Sem.run_bind] at h
  cases hs : Sem.run P s w with
  | ok v w1 => rw [hs] at h; simp at h; exact ⟨v, h.1.symm⟩
  | halt x w1 => rw [hs] at h; simp at h
theorem runU {s : Sem Unit} {w w' : World} {n : Next} (h : Sem.run P (do s; pure Next.skip) w = .ok n w') : n = .skip := by
  rw [Sem.run_bind] at h
  cases hs : Sem.run P s w with
  | ok v w1 => rw [hs] at h; simp at h; exact h.1.symm
  | halt x w1 => rw [hs] at h; simp at h
theorem plain_runs {o : Oper} (hp : Op.plain o.op = true) {ρ : Operand → Value} {w w' : World} {n : Next} (h : (execOp ρ o).run P w = .ok n w') : (∃ v, n = .value v) ∨ n = .skip := by
  obtain ⟨dst, op, type, pos, after, guard⟩ := o
  cases op <;> first | (exfalso; exact Bool.noConfusion hp) | (simp only [execOp] at h; first | exact .inl (runV h) | exact .inr (runU h) | skip)
  case move x => simp at h; exact .inl ⟨_, h.1.symm⟩
  case assign x => simp at h; exact .inl ⟨_, h.1.symm⟩
  case pick c a b =>
    rw [Sem.run_bind] at h
    cases hs : Sem.run P (asBool (ρ c)) w with
    | ok v w1 => rw [hs] at h; simp at h; exact .inl ⟨_, h.1.symm⟩
    | halt x w1 => rw [hs] at h; simp at h
  case nilCheck x =>
    have hpanic : Sem.run P (runtimePanic .nilDeref : Sem Next) w = .ok n w' → False := by
      intro he
      simp [runtimePanic, goPanic] at he
    split at h
    · exact (hpanic h).elim
    · exact (hpanic h).elim
    · exact (hpanic h).elim
    · split at h
      · exact (hpanic h).elim
      · rw [Sem.run_bind] at h
        rw [show Sem.run P program w = .ok P w from rfl, Result.andThen_ok] at h
        rw [Sem.run_bind] at h
        rename_i w0 _
        cases hs : Sem.run P (nilAhead (P.types.size + Made.depth) _ w0 _) w with
        | ok v w1 =>
          rw [hs] at h
          simp only [Result.andThen_ok] at h
          split at h
          · simp [unsupported] at h
          · simp at h; exact .inl ⟨_, h.1.symm⟩
        | halt x w1 => rw [hs] at h; simp at h
      · simp at h; exact .inl ⟨_, h.1.symm⟩
    · simp at h; exact .inl ⟨_, h.1.symm⟩
theorem strong_of_quiet {o : Oper} {a : Act} {v : Value} (hp : Op.plain o.op = true) (hw : Region.wanted o (yielded ops a.tmps) = true) {C : World → Prop} (hC : ∀ w, Ext W w → C w) (h : ∀ w, C w → o.quietAt P a C w v) : StrongY P ops W o v a := by
  refine .inl ⟨hw, fun w hW => ?_⟩
  have h1 := h w (hC w hW)
  unfold Oper.quietAt at h1
  cases hr : (execOp a.eval o).run P w with
  | ok n w' =>
    rw [hr] at h1
    rcases plain_runs hp hr with ⟨u, rfl⟩ | rfl
    · exact h1
    · exact h1
  | halt x w' => rw [hr] at h1; simp only [Oper.quietUpon] at h1
theorem wpStrong_append {E : Act → Prop} (l2 : List Oper) : ∀ (l1 : List Oper) (a : Act), (l1.all fun o => Op.plain o.op) = true →
    wpQuiet P ops (fun w' => ∃ k : Kept (Ext W), w' = k.w) (fun a' => wpStrong P ops W E l2 a') l1 a → wpStrong P ops W E (l1 ++ l2) a
  | [], _, _, h => h
  | o :: l1, a, hp, h => by
    simp only [List.all_cons, Bool.and_eq_true] at hp
    unfold wpQuiet at h
    by_cases hw : Region.wanted o (yielded ops a.tmps) = true
    · rw [if_pos hw] at h
      obtain ⟨v, h1, h2⟩ := h
      exact ⟨v, strong_of_quiet hp.1 hw (fun w hW => ⟨⟨w, hW⟩, rfl⟩) h1, wpStrong_append l2 l1 _ hp.2 h2⟩
    · rw [if_neg hw] at h
      exact ⟨undef, .inr ⟨by simpa using hw, rfl⟩, wpStrong_append l2 l1 _ hp.2 h⟩
theorem wpStrong_run {E : Act → Prop} {l : List Oper} {a : Act} (k : Nat) (hp : ((l.take k).all fun o => Op.plain o.op) = true)
    (h : wpQuiet P ops (fun w' => ∃ k : Kept (Ext W), w' = k.w) (fun a' => wpStrong P ops W E (l.drop k) a') (l.take k) a) : wpStrong P ops W E l a := by
  have := wpStrong_append (l.drop k) (l.take k) a hp h
  rwa [List.take_append_drop] at this
theorem wpStrong_call {E : Act → Prop} {o : Oper} {rest : List Oper} {a : Act} {v : Value} {f : FuncId} {args : Array Value} (hw : Region.wanted o (yielded ops a.tmps) = true) (hr : ∀ w, (execOp a.eval o).run P w = .ok (.enter f args) w) (hc : ∀ w, Ext W w → Calls P f args w fun e w' => e = .returned v ∧ Below w.heap.size w w')
    (h : wpStrong P ops W E rest (a.put o.dst v)) : wpStrong P ops W E (o :: rest) a := ⟨v, StrongY.call hw hr hc, h⟩
theorem wpStrong_nil {E : Act → Prop} {a : Act} (h : E a) : wpStrong P ops W E [] a := h
theorem kept_ne (W : World) : Nonempty (Kept (Ext W)) := ⟨⟨W, Ext.refl W⟩⟩
end
theorem RowAt.kept {b n : Nat} {g : Nat → Value} {X : World} (h : RowAt b n g X) (j : Nat) (hj : j < n) (k : Kept (Ext X.drew)) : k.w.cell? ⟨b, j, none⟩ = some (g j) := (h.drew.carry k.ok).1 j hj
theorem ext_drewN (w : World) : ∀ n, Ext w (w.drewN n)
  | 0 => Ext.refl _
  | n + 1 => (ext_drewN w n).drew
theorem Ext.draw {W w : World} (h : Ext W w) : Ext W w.drew := Below.drew h
theorem Ext.below {B : Nat} {w X Y : World} (h : Below B w X) (hB : B ≤ X.heap.size) (k : Ext X Y) : Below B w Y := Below.trans h (Below.mono k hB)
theorem wpList_run {P : Program} {w : World} {ops : Array Oper} {rest : List Oper} {o : Oper} {a : Act} {Q : Exit → Act → World → Prop} (hg : o.guard = none) (v : Value) (hr : (execOp a.eval o).run P w = .ok (.value v) w)
    (h : wpList P ops Q rest (a.put o.dst v) w) : wpList P ops Q (o :: rest) a w := by
  refine wpList_plain hg fun K hK => ?_
  unfold Oper.wp
  rw [hr]
  simp only [Oper.upon]
  exact hK _ _ h
theorem wpList_build {P : Program} {w : World} {ops : Array Oper} {rest : List Oper} {o : Oper} {a : Act} {Q : Exit → Act → World → Prop} (hg : o.guard = none) (t : TypeId) (l : List (Nat × Operand)) (ho : o.op = .build t l.toArray) (v : Value)
    (hr : (Instr.build t (l.map fun x => (x.1, a.eval x.2)).toArray).run P w = .ok v w) (h : wpList P ops Q rest (a.put o.dst v) w) : wpList P ops Q (o :: rest) a w := by
  refine wpList_run hg v ?_ h
  unfold execOp
  rw [ho]
  simp only [List.map_toArray, Sem.run_bind, hr, Result.andThen_ok, Sem.run_pure]
theorem wpList_call {P : Program} {w : World} {ops : Array Oper} {rest : List Oper} {o : Oper} {a : Act} {Q : Exit → Act → World → Prop} (hg : o.guard = none) {f : FuncId} {args : Array Value} (hr : (execOp a.eval o).run P w = .ok (.enter f args) w)
    (hc : Calls P f args w fun e w' => ∃ v, e = .returned v ∧ wpList P ops Q rest (a.put o.dst v) w') : wpList P ops Q (o :: rest) a w := by
  refine wpList_plain hg fun K hK => ?_
  unfold Oper.wp
  rw [hr]
  simp only [Oper.upon]
  refine hc.mono ?_
  rintro e w' ⟨v, rfl, h⟩
  exact hK _ _ h
theorem wpList_runW {P : Program} {w : World} {ops : Array Oper} {rest : List Oper} {o : Oper} {a : Act} {Q : Exit → Act → World → Prop} (hw : Region.wanted o (yielded ops a.tmps) = true) (v : Value) (hr : (execOp a.eval o).run P w = .ok (.value v) w)
    (h : wpList P ops Q rest (a.put o.dst v) w) : wpList P ops Q (o :: rest) a w :=
  wpList_step fun K hK => by
    rw [if_pos hw]
    unfold Oper.wp
    rw [hr]
    simp only [Oper.upon]
    exact hK _ _ h
theorem wpList_callW {P : Program} {w : World} {ops : Array Oper} {rest : List Oper} {o : Oper} {a : Act} {Q : Exit → Act → World → Prop} (hw : Region.wanted o (yielded ops a.tmps) = true) {f : FuncId} {args : Array Value} (hr : (execOp a.eval o).run P w = .ok (.enter f args) w)
    (hc : Calls P f args w fun e w' => ∃ v, e = .returned v ∧ wpList P ops Q rest (a.put o.dst v) w') : wpList P ops Q (o :: rest) a w :=
  wpList_step fun K hK => by
    rw [if_pos hw]
    unfold Oper.wp
    rw [hr]
    simp only [Oper.upon]
    refine hc.mono ?_
    rintro e w' ⟨v, rfl, h⟩
    exact hK _ _ h
theorem wpList_to {P : Program} {w : World} {ops : Array Oper} {rest : List Oper} {o : Oper} {a : Act} {Q : Exit → Act → World → Prop} (hg : o.guard = none) (v : Value) (w' : World) (hr : (execOp a.eval o).run P w = .ok (.value v) w')
    (h : wpList P ops Q rest (a.put o.dst v) w') : wpList P ops Q (o :: rest) a w := by
  refine wpList_plain hg fun K hK => ?_
  unfold Oper.wp
  rw [hr]
  simp only [Oper.upon]
  exact hK _ _ h
end Go.Proofs.YtiakkclabgelfaaDoor
namespace Go.Proofs.YtiakkclabgelfaaDoor
open Go.RowKit Go.BigFrame
def wv (f : Nat → BitVec 32) : Nat → Value := fun j => .int .u32 ((f j).toNat : Int)
def yv (f : Nat → BitVec 8) : Nat → Value := fun j => .int .u8 ((f j).toNat : Int)
def rR (n : Nat) (a : BitVec 32) : BitVec 32 := a >>> n ||| a <<< (32 - n)
theorem below_drewN (w : World) : ∀ n, Below w.heap.size w (w.drewN n)
  | 0 => Below.refl _ _
  | n + 1 => (below_drewN w n).drew
theorem rot_nat (a : BitVec 32) (n : Nat) : bits .or .u32 (((a.toNat * 2 ^ (32 - n) % 4294967296 : Nat)) : Int) ((a.toNat / 2 ^ n : Nat) : Int) = ((rR n a).toNat : Int) := by
  have h1 : a.toNat / 2 ^ n < 4294967296 := Nat.lt_of_le_of_lt (Nat.div_le_self _ _) a.isLt
  rw [u32_or_nat _ _ (Nat.mod_lt _ (by decide)) h1]
  unfold rR
  rw [BitVec.toNat_or, BitVec.toNat_ushiftRight, BitVec.toNat_shiftLeft, Nat.shiftLeft_eq, Nat.shiftRight_eq_div_pow, Nat.or_comm]
set_option maxHeartbeats 1000000 in
theorem rot_any (a : BitVec 32) (n : Nat) (hn : n = 2 ∨ n = 6 ∨ n = 7 ∨ n = 11 ∨ n = 13 ∨ n = 17 ∨ n = 18 ∨ n = 19 ∨ n = 22 ∨ n = 25) (w : World) :
    Calls Tryd.prog 100 #[.int .u32 (a.toNat : Int), .int .i64 (-(n : Int))] w fun e w' => e = .returned (.int .u32 ((rR n a).toNat:Int)) ∧ w' = w := by
  have ha := a.isLt
  have e2 : bits BinOp.and IntKind.u64 (IntKind.u64.wrap (-2)) 31 = 30 := by decide +kernel
  have e6 : bits BinOp.and IntKind.u64 (IntKind.u64.wrap (-6)) 31 = 26 := by decide +kernel
  have e7 : bits BinOp.and IntKind.u64 (IntKind.u64.wrap (-7)) 31 = 25 := by decide +kernel
  have e11 : bits BinOp.and IntKind.u64 (IntKind.u64.wrap (-11)) 31 = 21 := by decide +kernel
  have e13 : bits BinOp.and IntKind.u64 (IntKind.u64.wrap (-13)) 31 = 19 := by decide +kernel
  have e17 : bits BinOp.and IntKind.u64 (IntKind.u64.wrap (-17)) 31 = 15 := by decide +kernel
  have e18 : bits BinOp.and IntKind.u64 (IntKind.u64.wrap (-18)) 31 = 14 := by decide +kernel
  have e19 : bits BinOp.and IntKind.u64 (IntKind.u64.wrap (-19)) 31 = 13 := by decide +kernel
  have e22 : bits BinOp.and IntKind.u64 (IntKind.u64.wrap (-22)) 31 = 10 := by decide +kernel
  have e25 : bits BinOp.and IntKind.u64 (IntKind.u64.wrap (-25)) 31 = 7 := by decide +kernel
  have r2 : bits .or .u32 ((a.toNat : Int) * 1073741824 % 4294967296) ((a.toNat : Int) / 4) = ((rR 2 a).toNat : Int) := rot_nat a 2
  have r6 : bits .or .u32 ((a.toNat : Int) * 67108864 % 4294967296) ((a.toNat : Int) / 64) = ((rR 6 a).toNat : Int) := rot_nat a 6
  have r7 : bits .or .u32 ((a.toNat : Int) * 33554432 % 4294967296) ((a.toNat : Int) / 128) = ((rR 7 a).toNat : Int) := rot_nat a 7
  have r11 : bits .or .u32 ((a.toNat : Int) * 2097152 % 4294967296) ((a.toNat : Int) / 2048) = ((rR 11 a).toNat : Int) := rot_nat a 11
  have r13 : bits .or .u32 ((a.toNat : Int) * 524288 % 4294967296) ((a.toNat : Int) / 8192) = ((rR 13 a).toNat : Int) := rot_nat a 13
  have r17 : bits .or .u32 ((a.toNat : Int) * 32768 % 4294967296) ((a.toNat : Int) / 131072) = ((rR 17 a).toNat : Int) := rot_nat a 17
  have r18 : bits .or .u32 ((a.toNat : Int) * 16384 % 4294967296) ((a.toNat : Int) / 262144) = ((rR 18 a).toNat : Int) := rot_nat a 18
  have r19 : bits .or .u32 ((a.toNat : Int) * 8192 % 4294967296) ((a.toNat : Int) / 524288) = ((rR 19 a).toNat : Int) := rot_nat a 19
  have r22 : bits .or .u32 ((a.toNat : Int) * 1024 % 4294967296) ((a.toNat : Int) / 4194304) = ((rR 22 a).toNat : Int) := rot_nat a 22
  have r25 : bits .or .u32 ((a.toNat : Int) * 128 % 4294967296) ((a.toNat : Int) / 33554432) = ((rR 25 a).toNat : Int) := rot_nat a 25
  replace r2 := hideit r2
  replace r6 := hideit r6
  replace r7 := hideit r7
  replace r11 := hideit r11
  replace r13 := hideit r13
  replace r17 := hideit r17
  replace r18 := hideit r18
  replace r19 := hideit r19
  replace r22 := hideit r22
  replace r25 := hideit r25
  rcases hn with rfl | rfl | rfl | rfl | rfl | rfl | rfl | rfl | rfl | rfl
  · go_enter Tryd.func100, Tryd.ntmps100
    go_wp2
    go_ret
    exact ⟨ret_int r2.out, rfl⟩
  · go_enter Tryd.func100, Tryd.ntmps100
    go_wp2
    go_ret
    exact ⟨ret_int r6.out, rfl⟩
  · go_enter Tryd.func100, Tryd.ntmps100
    go_wp2
    go_ret
    exact ⟨ret_int r7.out, rfl⟩
  · go_enter Tryd.func100, Tryd.ntmps100
    go_wp2
    go_ret
    exact ⟨ret_int r11.out, rfl⟩
  · go_enter Tryd.func100, Tryd.ntmps100
    go_wp2
    go_ret
    exact ⟨ret_int r13.out, rfl⟩
  · go_enter Tryd.func100, Tryd.ntmps100
    go_wp2
    go_ret
    exact ⟨ret_int r17.out, rfl⟩
  · go_enter Tryd.func100, Tryd.ntmps100
    go_wp2
    go_ret
    exact ⟨ret_int r18.out, rfl⟩
  · go_enter Tryd.func100, Tryd.ntmps100
    go_wp2
    go_ret
    exact ⟨ret_int r19.out, rfl⟩
  · go_enter Tryd.func100, Tryd.ntmps100
    go_wp2
    go_ret
    exact ⟨ret_int r22.out, rfl⟩
  · go_enter Tryd.func100, Tryd.ntmps100
    go_wp2
    go_ret
    exact ⟨ret_int r25.out, rfl⟩
set_option maxHeartbeats 1000000 in
theorem right_any (a : BitVec 32) (n : Nat) (hn : n = 2 ∨ n = 6 ∨ n = 7 ∨ n = 11 ∨ n = 13 ∨ n = 17 ∨ n = 18 ∨ n = 19 ∨ n = 22 ∨ n = 25) (w : World) :
    Calls Tryd.prog 98 #[.int .i64 (n : Int), .int .u32 (a.toNat : Int)] w fun e w' => e = .returned (.int .u32 ((rR n a).toNat:Int)) ∧ w' = w := by
  have n0 : (0 : Int) ≤ (n : Int) := by omega
  have n1 : (n : Int) ≤ 25 := by omega
  go_enter Tryd.func98, Tryd.ntmps98
  go_wp2_with (go_at_call 100; refine (rot_any a n hn _).mono ?_; rintro e w' ⟨rfl, rfl⟩)
  go_ret
  exact ⟨rfl, rfl⟩
theorem right2 (a : BitVec 32) (w : World) : Calls Tryd.prog 98 #[.int .i64 2, .int .u32 (a.toNat : Int)] w fun e w' => e = .returned (.int .u32 ((rR 2 a).toNat:Int)) ∧ w' = w := right_any a 2 (by omega) w
theorem right6 (a : BitVec 32) (w : World) : Calls Tryd.prog 98 #[.int .i64 6, .int .u32 (a.toNat : Int)] w fun e w' => e = .returned (.int .u32 ((rR 6 a).toNat:Int)) ∧ w' = w := right_any a 6 (by omega) w
theorem right7 (a : BitVec 32) (w : World) : Calls Tryd.prog 98 #[.int .i64 7, .int .u32 (a.toNat : Int)] w fun e w' => e = .returned (.int .u32 ((rR 7 a).toNat:Int)) ∧ w' = w := right_any a 7 (by omega) w
theorem right11 (a : BitVec 32) (w : World) : Calls Tryd.prog 98 #[.int .i64 11, .int .u32 (a.toNat : Int)] w fun e w' => e = .returned (.int .u32 ((rR 11 a).toNat:Int)) ∧ w' = w := right_any a 11 (by omega) w
theorem right13 (a : BitVec 32) (w : World) : Calls Tryd.prog 98 #[.int .i64 13, .int .u32 (a.toNat : Int)] w fun e w' => e = .returned (.int .u32 ((rR 13 a).toNat:Int)) ∧ w' = w := right_any a 13 (by omega) w
theorem right17 (a : BitVec 32) (w : World) : Calls Tryd.prog 98 #[.int .i64 17, .int .u32 (a.toNat : Int)] w fun e w' => e = .returned (.int .u32 ((rR 17 a).toNat:Int)) ∧ w' = w := right_any a 17 (by omega) w
theorem right18 (a : BitVec 32) (w : World) : Calls Tryd.prog 98 #[.int .i64 18, .int .u32 (a.toNat : Int)] w fun e w' => e = .returned (.int .u32 ((rR 18 a).toNat:Int)) ∧ w' = w := right_any a 18 (by omega) w
theorem right19 (a : BitVec 32) (w : World) : Calls Tryd.prog 98 #[.int .i64 19, .int .u32 (a.toNat : Int)] w fun e w' => e = .returned (.int .u32 ((rR 19 a).toNat:Int)) ∧ w' = w := right_any a 19 (by omega) w
theorem right22 (a : BitVec 32) (w : World) : Calls Tryd.prog 98 #[.int .i64 22, .int .u32 (a.toNat : Int)] w fun e w' => e = .returned (.int .u32 ((rR 22 a).toNat:Int)) ∧ w' = w := right_any a 22 (by omega) w
theorem right25 (a : BitVec 32) (w : World) : Calls Tryd.prog 98 #[.int .i64 25, .int .u32 (a.toNat : Int)] w fun e w' => e = .returned (.int .u32 ((rR 25 a).toNat:Int)) ∧ w' = w := right_any a 25 (by omega) w
end Go.Proofs.YtiakkclabgelfaaDoor
