/-
  The same laws, where a maker's value is any of a shape: calls that yield slices of unknown capacity, or nil.
-/
import Derived.Test.YthgflnjeojhgkaaDoorSeg
namespace Go.Proofs.YthgflnjeojhgkaaDoor
open Go.RowKit
structure Mk where
  Sh : Value → Prop
  S : Value → World → Prop
  key : Value → Option Nat
section
variable {P : Program} {ops : Array Oper} {W : World} {Q : Exit → Act → World → Prop} {sp : Nat → Mk}
def mkUpon (P : Program) (X : World) (s : Mk) : Result Next → Prop
  | .ok (.value u) w' => s.Sh u ∧ (∀ b, s.key u = some b → X.heap.size ≤ b ∧ b < w'.heap.size) ∧ s.S u w' ∧ Ext X w'
  | .ok (.enter f args) w' => w' = X ∧ Calls P f args X fun e w'' => ∃ u, e = .returned u ∧ s.Sh u ∧ (∀ b, s.key u = some b → X.heap.size ≤ b ∧ b < w''.heap.size) ∧ s.S u w'' ∧ Ext X w''
  | _ => False
def MkY (P : Program) (ops : Array Oper) (W : World) (o : Oper) (s : Mk) (a : Act) : Prop :=
  Region.wanted o (yielded ops a.tmps) = true ∧ ∀ X, Ext W X → mkUpon P X s ((execOp a.eval o).run P X)
theorem MkY.put {o : Oper} {s : Mk} {u : Value} {a : Act} {d : Option Tmp} (hs : ∀ cs b, o.op ≠ .select cs b) (h : ∀ t, d = some t → t ∉ o.looksAt ops) : MkY P ops W o s (a.put d u) ↔ MkY P ops W o s a := by
  unfold MkY
  rw [execOp_put (ops := ops) o hs a d u h, wanted_put o a d u h]
theorem MkY.call {o : Oper} {s : Mk} {a : Act} (f : FuncId) (args : Array Value) (hw : Region.wanted o (yielded ops a.tmps) = true) (hr : ∀ w, (execOp a.eval o).run P w = .ok (.enter f args) w)
    (hc : ∀ w, Ext W w → Calls P f args w fun e w' => ∃ u, e = .returned u ∧ s.Sh u ∧ (∀ b, s.key u = some b → w.heap.size ≤ b ∧ b < w'.heap.size) ∧ s.S u w' ∧ Ext w w') : MkY P ops W o s a :=
  ⟨hw, fun w h => by rw [hr w]; exact ⟨rfl, hc w h⟩⟩
theorem MkY.make {o : Oper} {s : Mk} {a : Act} (hw : Region.wanted o (yielded ops a.tmps) = true) (hr : ∀ X, Ext W X → ∃ u X', (execOp a.eval o).run P X = .ok (.value u) X' ∧ s.Sh u ∧ (∀ b, s.key u = some b → X.heap.size ≤ b ∧ b < X'.heap.size) ∧ s.S u X' ∧ Ext X X') : MkY P ops W o s a :=
  ⟨hw, fun X hX => by
    obtain ⟨u, X', h1, h2⟩ := hr X hX
    rw [h1]
    exact h2⟩
theorem MkY.wpOp {i : Nat} {o : Oper} {s : Mk} {a : Act} {w : World} {K : Act → World → Prop} (hi : ops[i]? = some o) (hw : Ext W w) (hy : MkY P ops W o s a) (hK : ∀ u w', s.Sh u → (∀ b, s.key u = some b → w.heap.size ≤ b ∧ b < w'.heap.size) → s.S u w' → Ext w w' → K (a.put o.dst u) w') : wpOp P ops Q i K a w := by
  unfold Go.wpOp
  rw [hi]
  obtain ⟨h1, h2⟩ := hy
  simp only [h1, if_true]
  refine .inl ?_
  have h3 := h2 w hw
  unfold Oper.wp
  generalize (execOp a.eval o).run P w = r at *
  cases r with
  | ok n w' =>
    cases n <;> simp only [mkUpon] at h3 <;> simp only [Oper.upon]
    case value u =>
      obtain ⟨k1, k2, k3, k4⟩ := h3
      exact hK u _ k1 k2 k3 k4
    case enter f args =>
      obtain ⟨rfl, hc⟩ := h3
      exact hc.mono fun e w'' ⟨u, he, k1, k2, k3, k4⟩ => by subst he; exact hK u _ k1 k2 k3 k4
  | halt x w' => simp only [mkUpon] at h3
/-- a block that no earlier maker has -/
def newKey (sp : Nat → Mk) (B : Nat) (T : List (Value × Nat)) (i : Nat) (v : Value) : Prop := ∀ b, (sp i).key v = some b → B ≤ b ∧ ∀ y ∈ T, (sp y.2).key y.1 ≠ some b
def wpK (P : Program) (ops : Array Oper) (W : World) (sp : Nat → Mk) (E : Act → List (Value × Nat) → Prop) : List Nat → Act → List (Value × Nat) → Prop
  | [], a, T => E a T
  | i :: r, a, T => ∃ o, ops[i]? = some o ∧ MkY P ops W o (sp i) a ∧ ∀ v, (sp i).Sh v → newKey sp W.heap.size T i v → wpK P ops W sp E r (a.put o.dst v) ((v, i) :: T)
theorem wpK_nil {E : Act → List (Value × Nat) → Prop} {a : Act} {T : List (Value × Nat)} (h : E a T) : wpK P ops W sp E [] a T := h
theorem wpK_one {E : Act → List (Value × Nat) → Prop} {a : Act} {T : List (Value × Nat)} {i : Nat} {r : List Nat} (o : Oper) (ho : ops[i]? = some o) (hg : MkY P ops W o (sp i) a) (h : ∀ v, (sp i).Sh v → newKey sp W.heap.size T i v → wpK P ops W sp E r (a.put o.dst v) ((v, i) :: T)) : wpK P ops W sp E (i :: r) a T := ⟨o, ho, hg, h⟩
def HoldsK (sp : Nat → Mk) (T : List (Value × Nat)) (w : World) : Prop := ∀ y ∈ T, (sp y.2).S y.1 w ∧ ∀ b, (sp y.2).key y.1 = some b → b < w.heap.size
theorem HoldsK.ext (hst : ∀ i v w w', (sp i).S v w → Ext w w' → (sp i).S v w') {T : List (Value × Nat)} {w w' : World} (h : HoldsK sp T w) (k : Ext w w') : HoldsK sp T w' := fun y hy => ⟨hst _ _ _ _ (h y hy).1 k, fun b hb => Nat.lt_of_lt_of_le ((h y hy).2 b hb) (Below.size k)⟩
theorem fresh_k (sp : Nat → Mk) (n : Nat) : ∀ T : List (Value × Nat), ∃ m, n ≤ m ∧ ∀ y ∈ T, ∀ b, (sp y.2).key y.1 = some b → b < m
  | [] => ⟨n, Nat.le_refl _, fun y hy => by cases hy⟩
  | t :: T => by
    obtain ⟨m, h1, h2⟩ := fresh_k sp n T
    refine ⟨m + ((sp t.2).key t.1).getD 0 + 1, by omega, fun y hy b hb => ?_⟩
    rcases List.mem_cons.1 hy with rfl | hy
    · rw [hb, Option.getD_some]; omega
    · have := h2 y hy b hb
      omega
theorem wpK_congr {E : Act → List (Value × Nat) → Prop} (hE : ∀ a T T', (∀ y, y ∈ T ↔ y ∈ T') → E a T → E a T') : ∀ (l : List Nat) (a : Act) (T T' : List (Value × Nat)), (∀ y, y ∈ T ↔ y ∈ T') → wpK P ops W sp E l a T → wpK P ops W sp E l a T'
  | [], _, _, _, hT, h => hE _ _ _ hT h
  | i :: r, a, T, T', hT, ⟨o, h1, h2, h3⟩ => ⟨o, h1, h2, fun v hv hn => wpK_congr hE r _ _ _ (fun y => by simp only [List.mem_cons, hT]) (h3 v hv fun b hb => ⟨(hn b hb).1, fun y hy => (hn b hb).2 y ((hT y).1 hy)⟩)⟩
theorem wpK_take {E : Act → List (Value × Nat) → Prop} (hex : ∀ i n, ∃ v, (sp i).Sh v ∧ ∀ b, (sp i).key v = some b → n ≤ b) (hE : ∀ a T T', (∀ y, y ∈ T ↔ y ∈ T') → E a T → E a T') (hsel : ∀ (j : Nat) (o : Oper) cs b, ops[j]? = some o → o.op ≠ .select cs b) {i : Nat} {o : Oper} (hi : ops[i]? = some o) (r2 : List Nat) : ∀ (r1 : List Nat) (a : Act) (T : List (Value × Nat)), (∀ k ∈ r1, ∀ ok, ops[k]? = some ok → ok.apart ops o = true) →
    wpK P ops W sp E (r1 ++ i :: r2) a T → MkY P ops W o (sp i) a ∧ ∀ v, (sp i).Sh v → newKey sp W.heap.size T i v → wpK P ops W sp E (r1 ++ r2) (a.put o.dst v) ((v, i) :: T)
  | [], a, T, _, ⟨o', h1, h2, h3⟩ => by
    rw [hi] at h1
    injection h1 with h1
    subst h1
    exact ⟨h2, h3⟩
  | k :: r1, a, T, hap, ⟨ok, h1, h2, h3⟩ => by
    obtain ⟨p1, p2, p3⟩ := Oper.apart_spec (hap k List.mem_cons_self ok h1)
    have ih := fun v hv hn => wpK_take hex hE hsel hi r2 r1 _ _ (fun k' hk' => hap k' (List.mem_cons_of_mem _ hk')) (h3 v hv hn)
    obtain ⟨m, hm0, hm1⟩ := fresh_k sp W.heap.size T
    obtain ⟨v0, hv0, hv1⟩ := hex k m
    refine ⟨(MkY.put (fun cs b => hsel i o cs b hi) p1).1 (ih v0 hv0 (fun b hb => ⟨Nat.le_trans hm0 (hv1 b hb), fun y hy e => by have := hm1 y hy b e; have := hv1 b hb; omega⟩)).1, fun v hv hn => ⟨ok, h1, (MkY.put (fun cs b => hsel k ok cs b h1) p3).2 h2, fun vk hvk hnk => ?_⟩⟩
    have g2 := (ih vk hvk (fun b hb => ⟨(hnk b hb).1, fun y hy => (hnk b hb).2 y (List.mem_cons_of_mem _ hy)⟩)).2 v hv (fun b hb => ⟨(hn b hb).1, fun y hy => by
      rcases List.mem_cons.1 hy with rfl | hy
      · intro e
        exact (hnk b e).2 (v, i) List.mem_cons_self hb
      · exact (hn b hb).2 y hy⟩)
    rw [Act.put_comm a _ _ p2] at g2
    exact wpK_congr hE _ _ _ _ (fun y => by simp only [List.mem_cons]; exact ⟨fun h => h.elim (fun h => .inr (.inl h)) (fun h => h.elim .inl (fun h => .inr (.inr h))), fun h => h.elim (fun h => .inr (.inl h)) (fun h => h.elim .inl (fun h => .inr (.inr h)))⟩) g2
theorem wpSK_take {E : Act → List (Value × Nat) → Prop} (hex : ∀ i n, ∃ v, (sp i).Sh v ∧ ∀ b, (sp i).key v = some b → n ≤ b) (hE : ∀ a T T', (∀ y, y ∈ T ↔ y ∈ T') → E a T → E a T') (hsel : ∀ (j : Nat) (o : Oper) cs b, ops[j]? = some o → o.op ≠ .select cs b) {i : Nat} {o : Oper} (hi : ops[i]? = some o) (s1 s2 : List Nat) (T : List (Value × Nat))
    (hs1 : ∀ k ∈ s1, ∀ ok, ops[k]? = some ok → ok.apart ops o = true) : ∀ (r : List Nat) (a : Act), (∀ k ∈ r, ∀ ok, ops[k]? = some ok → ok.apart ops o = true) →
    wpS P ops W (fun A => wpK P ops W sp E (s1 ++ i :: s2) A T) r a → MkY P ops W o (sp i) a ∧ ∀ v, (sp i).Sh v → newKey sp W.heap.size T i v → wpS P ops W (fun A => wpK P ops W sp E (s1 ++ s2) A ((v, i) :: T)) r (a.put o.dst v)
  | [], a, _, h => wpK_take hex hE hsel hi s2 s1 a T hs1 h
  | k :: r, a, hap, ⟨ok, vk, h1, h2, h3⟩ => by
    obtain ⟨p1, p2, p3⟩ := Oper.apart_spec (hap k List.mem_cons_self ok h1)
    obtain ⟨g1, g2⟩ := wpSK_take hex hE hsel hi s1 s2 T hs1 r _ (fun k' hk' => hap k' (List.mem_cons_of_mem _ hk')) h3
    refine ⟨(MkY.put (fun cs b => hsel i o cs b hi) p1).1 g1, fun v hv hn => ⟨ok, vk, h1, (StrongY.put (fun cs b => hsel k ok cs b h1) p3).2 h2, ?_⟩⟩
    rw [← Act.put_comm a vk _ p2]
    exact g2 v hv hn
structure KegAt (P : Program) (ops : Array Oper) (W : World) (Q : Exit → Act → World → Prop) (sp : Nat → Mk) (vs : Nat → Value) (L0 : Array Bool) (ql ml tl ll : List Nat) (lops : List Oper) (K : Act → World → Prop) (L : Array Bool) (A : Act) (w : World) : Prop where
  size : L.size = ops.size
  closed : Closed ops L
  way : ((∀ k, k ∉ ql ++ ml ++ tl ++ ll → L.getD k false = L0.getD k false) ∧ (∀ i ∈ ll, L.getD i false = false) ∧ Ext W w ∧ ∃ T, HoldsK sp T w ∧ wpS P ops W (fun A' => wpK P ops W sp (fun A'' T' => wpT P ops W (HoldsK sp T') vs (fun A3 => ∀ w', Ext W w' → HoldsK sp T' w' → wpList P ops (Exit.then K Q) lops A3 w') (lf L tl) A'') (lf L ml) A' T) (lf L ql) A) ∨
    ((∀ k, k ∉ ql ++ ml ++ tl ++ ll → L.getD k false = L0.getD k false) ∧ (∀ k ∈ ql ++ ml ++ tl, L.getD k false = true) ∧ ∃ l1 l2 lo2, ll = l1 ++ l2 ∧ l2 ≠ [] ∧ (∀ k ∈ l1, L.getD k false = true) ∧ (∀ k ∈ l2, L.getD k false = false) ∧ l2.map (ops[·]?) = lo2.map some ∧ wpList P ops (Exit.then K Q) lo2 A w) ∨
    (∃ f, L.toList.count false ≤ f ∧ wpAny P .any ops Q f L A w)
theorem wpAny_keg {a : Act} {w : World} (L0 : Array Bool) (fuel f1 : Nat) (sp : Nat → Mk) (vs : Nat → Value) (hst : ∀ i v w w', (sp i).S v w → Ext w w' → (sp i).S v w') (hex : ∀ i n, ∃ v, (sp i).Sh v ∧ ∀ b, (sp i).key v = some b → n ≤ b) (ql ml tl ll : List Nat) (qlo lops : List Oper) (hfu : L0.toList.count false ≤ fuel) (hz0 : L0.size = ops.size) (hc0 : closedB ops L0 = true) (hB : textB ops = true)
    (hf1 : (listAll (ql ++ ml ++ tl ++ ll) L0).toList.count false ≤ f1) (hne : ll ≠ []) (hql : ql.map (ops[·]?) = qlo.map some) (hll : ll.map (ops[·]?) = lops.map some)
    (hnd : (ql ++ ml ++ tl ++ ll).Nodup) (hcov0 : ∀ i ∈ List.range ops.size, L0.getD i false = true ∨ i ∈ ql ++ ml ++ tl ++ ll ∨ ∀ k ∈ ql ++ ml ++ tl ++ ll, waits ops ops.size i k = true) (hin0 : ∀ i ∈ ql ++ ml ++ tl ++ ll, i < ops.size ∧ L0.getD i false = false)
    (hq : ql.Pairwise (fun k j => edgeB ops k j = true)) (hm : ml.Pairwise (fun k j => edgeB ops k j = true)) (hqm : ∀ j ∈ ml, ∀ k ∈ ql, edgeB ops k j = true)
    (ht : tl.Pairwise (fun k j => edgeB ops k j = true)) (hqt : ∀ j ∈ tl, ∀ k ∈ ql, edgeB ops k j = true) (hmt : ∀ j ∈ tl, ∀ k ∈ ml, waits ops ops.size j k = true)
    (hl1 : ∀ j ∈ ll, ∀ k ∈ ql ++ ml ++ tl, waits ops ops.size j k = true) (hl2 : ll.Pairwise (fun k j => waits ops ops.size j k = true))
    (h : wpStrong P ops w (fun A => wpK P ops w sp (fun A'' T' => wpT P ops w (HoldsK sp T') vs (fun A3 => ∀ w', Ext w w' → HoldsK sp T' w' → wpList P ops (Exit.then (wpAny P .any ops Q f1 (listAll (ql ++ ml ++ tl ++ ll) L0)) Q) lops A3 w') tl A'') ml A []) qlo a) : wpAny P .any ops Q fuel L0 a w := by
  obtain ⟨hsel, htx⟩ := textB_spec hB
  obtain ⟨nqmt, nl, ndis⟩ := List.nodup_append.1 hnd
  obtain ⟨nqm, nt, ndt⟩ := List.nodup_append.1 nqmt
  obtain ⟨nq, nm, ndm⟩ := List.nodup_append.1 nqm
  have lq : ∀ i ∈ ll, i ∉ ql ++ ml ++ tl := fun i hi e => ndis i e i hi rfl
  have hin : ∀ i ∈ ql ++ ml ++ tl ++ ll, i < ops.size := fun i hi => (hin0 i hi).1
  have hTT : ∀ (T T' : List (Value × Nat)), (∀ y, y ∈ T ↔ y ∈ T') → ∀ X, HoldsK sp T' X → HoldsK sp T X := fun T T' hT X hX y hy => hX y ((hT y).1 hy)
  have hE : ∀ (l : List Nat) (a : Act) (T T' : List (Value × Nat)), (∀ y, y ∈ T ↔ y ∈ T') →
      wpT P ops w (HoldsK sp T) vs (fun A3 => ∀ w', Ext w w' → HoldsK sp T w' → wpList P ops (Exit.then (wpAny P .any ops Q f1 (listAll (ql ++ ml ++ tl ++ ll) L0)) Q) lops A3 w') l a →
      wpT P ops w (HoldsK sp T') vs (fun A3 => ∀ w', Ext w w' → HoldsK sp T' w' → wpList P ops (Exit.then (wpAny P .any ops Q f1 (listAll (ql ++ ml ++ tl ++ ll) L0)) Q) lops A3 w') l a :=
    fun l a T T' hT => wpT_mono (hTT T T' hT) (fun A hA w' hw' hH => hA w' hw' (hTT T T' hT w' hH)) l a
  refine wpAny_inv (I := fun L A X => KegAt P ops w Q sp vs L0 ql ml tl ll lops (wpAny P .any ops Q f1 (listAll (ql ++ ml ++ tl ++ ll) L0)) L A X) ?hs ?he fuel L0 a w hfu ?h0
  case h0 =>
    have hf : ∀ k, k ∈ ql ++ ml ++ tl ++ ll → L0.getD k true = false := fun k hk => by rw [← getD_flip' (by rw [hz0]; exact hin k hk)]; exact (hin0 k hk).2
    refine ⟨hz0, closedB_spec hc0, .inl ⟨fun _ _ => rfl, fun i hi => (hin0 i (by simp [hi])).2, Ext.refl _, [], (fun y hy => by cases hy), ?_⟩⟩
    rw [lf_all fun k hk => hf k (by simp [hk]), lf_all fun k hk => hf k (by simp [hk]), lf_all fun k hk => hf k (by simp [hk])]
    exact wpS_of_list ql qlo a hql h
  case hs =>
    intro L A X i o hI ho hl hdeps
    have hil : i < ops.size := (Array.getElem?_eq_some_iff.1 ho).1
    have hiL : i < L.size := by rw [hI.size]; exact hil
    have hlf := getD_flip hl
    have hsize : (L.setIfInBounds i true).size = ops.size := by simp [hI.size]
    have hclosed := hI.closed.step ho hdeps
    have hap : ∀ k, edgeB ops k i = true → L.getD k true = false → ∀ ok, ops[k]? = some ok → ok.apart ops o = true := by
      intro k hed hk ok hok
      rcases edgeB_spec ho hok hed with ⟨e, he, hbe, rfl⟩ | h2
      · have h3 := hdeps e he hbe
        rw [getD_flip hk] at h3
        cases h3
      · exact h2
    have hwt : ∀ k, waits ops ops.size i k = true → L.getD k false = true := fun k hk => waits_listed hI.closed _ i k o ho hdeps hk
    have keep : ∀ k d, i ≠ k → (L.setIfInBounds i true).getD k d = L.getD k d := fun k d hk => getD_set_ne d hk
    have hfl : ∀ k, k < ops.size → L.getD k false = L.getD k true := fun k hk => getD_flip' (by rw [hI.size]; exact hk)
    have out : (∀ k, k ∉ ql ++ ml ++ tl ++ ll → L.getD k false = L0.getD k false) → i ∈ ql ++ ml ++ tl ++ ll → ∀ k, k ∉ ql ++ ml ++ tl ++ ll → (L.setIfInBounds i true).getD k false = L0.getD k false := fun hK hi k hk => by
      rw [keep k _ (fun e => hk (e ▸ hi))]; exact hK k hk
    have whole : (∀ k, k ∉ ql ++ ml ++ tl ++ ll → (L.setIfInBounds i true).getD k false = L0.getD k false) → (∀ k ∈ ql ++ ml ++ tl ++ ll, (L.setIfInBounds i true).getD k false = true) → L.setIfInBounds i true = listAll (ql ++ ml ++ tl ++ ll) L0 := fun h1 h2 => by
      apply Array.ext
      · rw [hsize, listAll_size, hz0]
      · intro k hk1 hk2
        have h3 : (L.setIfInBounds i true).getD k false = (listAll (ql ++ ml ++ tl ++ ll) L0).getD k false := by
          by_cases hk : k ∈ ql ++ ml ++ tl ++ ll
          · rw [h2 k hk, listAll_in k _ _ hk (by rw [hz0]; exact hin k hk)]
          · rw [h1 k hk, listAll_out k _ _ hk]
        unfold Array.getD at h3
        rw [dif_pos hk1, dif_pos hk2] at h3
        exact h3
    -- an operation that is not of the stretch comes behind it
    have notYet : (∀ k, k ∉ ql ++ ml ++ tl ++ ll → L.getD k false = L0.getD k false) → (∃ k ∈ ll, L.getD k false = false) → i ∈ ql ++ ml ++ tl ++ ll := fun hK hex => by
      rcases hcov0 i (by simpa using hil) with h1 | h1 | h1
      · by_cases hi : i ∈ ql ++ ml ++ tl ++ ll
        · exact hi
        · rw [← hK i hi, hlf] at h1; cases h1
      · exact h1
      · obtain ⟨k, hk1, hk2⟩ := hex
        rw [hwt k (h1 k (by simp [hk1]))] at hk2; cases hk2
    rcases hI.way with ⟨wK, w2, hX, T, hT, hw⟩ | ⟨wK, w2, l1, l2, lo2, e1, e0, e2, e3, e4, hw⟩ | ⟨f, hf, hw⟩
    · have hcov : i ∈ ql ++ ml ++ tl ++ ll := notYet wK (by
        cases hll' : ll with
        | nil => exact absurd hll' hne
        | cons j l2 => exact ⟨j, List.mem_cons_self, w2 j (by rw [hll']; exact List.mem_cons_self)⟩)
      have hK' := out wK hcov
      rcases List.mem_append.1 hcov with hi3 | hil2
      · have hll0 : ∀ k ∈ ll, (L.setIfInBounds i true).getD k false = false := fun k hk => by
          rw [keep k _ (fun e => lq k hk (e ▸ hi3))]; exact w2 k hk
        rcases List.mem_append.1 hi3 with hiqm | hit
        · have htl : lf (L.setIfInBounds i true) tl = lf L tl := lf_other fun h2 => ndt i hiqm i h2 rfl
          rcases List.mem_append.1 hiqm with hiq | him
          · obtain ⟨r1, r2, s1, s2, s3⟩ := lf_split nq hq hiq hl
            rw [s1] at hw
            obtain ⟨v, hv, hr⟩ := wpS_take hsel ho r2 r1 A (fun k hk => hap k (s3 k hk).1 (s3 k hk).2) hw
            refine StrongY.wpOp ho hX hv fun w' hw' => ⟨hsize, hclosed, .inl ⟨hK', hll0, hX.trans hw', T, hT.ext hst hw', ?_⟩⟩
            rw [s2, lf_other fun hm2 => ndm i hiq i hm2 rfl, htl]
            exact hr
          · obtain ⟨r1, r2, s1, s2, s3⟩ := lf_split nm hm him hl
            rw [s1] at hw
            obtain ⟨hg, hr⟩ := wpSK_take hex (hE (lf L tl)) hsel ho r1 r2 T (fun k hk => hap k (s3 k hk).1 (s3 k hk).2) (lf L ql) A (fun k hk => by
              obtain ⟨k1, k2⟩ := List.mem_filter.1 hk
              exact hap k (hqm i him k k1) (by simpa using k2)) hw
            refine MkY.wpOp ho hX hg fun v w' hv hb1 hS hw' => ⟨hsize, hclosed, .inl ⟨hK', hll0, hX.trans hw', (v, i) :: T, ?_, ?_⟩⟩
            · intro y hy
              rcases List.mem_cons.1 hy with rfl | hy
              · exact ⟨hS, fun b hb => (hb1 b hb).2⟩
              · exact (hT.ext hst hw') y hy
            · rw [s2, lf_other fun hm2 => ndm i hm2 i him rfl, htl]
              exact hr v hv fun b hb => ⟨Nat.le_trans (Below.size hX) (hb1 b hb).1, fun y hy e => Nat.lt_irrefl _ (Nat.lt_of_lt_of_le ((hT y hy).2 b e) (hb1 b hb).1)⟩
        · have hmd : lf L ml = [] := lf_nil fun k hk => by rw [← hfl k (hin k (by simp [hk]))]; exact hwt k (hmt i hit k hk)
          obtain ⟨r1, r2, s1, s2, s3⟩ := lf_split nt ht hit hl
          rw [hmd, s1] at hw
          obtain ⟨hg, hr⟩ := wpST_take hsel ho r1 r2 (fun k hk => hap k (s3 k hk).1 (s3 k hk).2) (lf L ql) A (fun k hk => by
              obtain ⟨k1, k2⟩ := List.mem_filter.1 hk
              exact hap k (hqt i hit k k1) (by simpa using k2)) hw
          refine StrongT.wpOp ho hX hT hg fun w' hw' => ⟨hsize, hclosed, .inl ⟨hK', hll0, hX.trans hw', T, hT.ext hst hw', ?_⟩⟩
          rw [s2, lf_other (l := ql) fun h2 => ndt i (List.mem_append_left _ h2) i hit rfl, lf_other (l := ml) fun h2 => ndt i (List.mem_append_right _ h2) i hit rfl, hmd]
          exact hr
      · have hall : ∀ k ∈ ql ++ ml ++ tl, L.getD k false = true := fun k hk => hwt k (hl1 i hil2 k hk)
        rw [lf_nil (l := ql) fun k hk => by rw [← hfl k (hin k (by simp [hk]))]; exact hall k (by simp [hk]), lf_nil (l := ml) fun k hk => by rw [← hfl k (hin k (by simp [hk]))]; exact hall k (by simp [hk]), lf_nil (l := tl) fun k hk => by rw [← hfl k (hin k (by simp [hk]))]; exact hall k (by simp [hk])] at hw
        have hw2 := hw X hX hT
        have hall' : ∀ k ∈ ql ++ ml ++ tl, (L.setIfInBounds i true).getD k false = true := fun k hk => by
          rw [keep k _ (fun e => lq i hil2 (e ▸ hk))]; exact hall k hk
        obtain ⟨j, l2, hll'⟩ : ∃ j l2, ll = j :: l2 := by
          cases hl0 : ll with
          | nil => exact absurd hl0 hne
          | cons j l2 => exact ⟨j, l2, rfl⟩
        have hij : i = j := by
          rw [hll'] at hil2 hl2
          rcases List.mem_cons.1 hil2 with rfl | h2
          · rfl
          · have := hwt j ((List.pairwise_cons.1 hl2).1 i h2)
            rw [w2 j (by rw [hll']; exact List.mem_cons_self)] at this
            cases this
        subst hij
        have nl' := nl
        have hll2 := hll
        rw [hll'] at hll2 nl'
        cases hlo : lops with
        | nil => rw [hlo] at hll2; simp at hll2
        | cons o' lo2 =>
          rw [hlo] at hll2 hw2
          simp only [List.map_cons, List.cons.injEq] at hll2
          rw [ho] at hll2
          obtain ⟨ho', hrest⟩ := hll2
          injection ho' with ho'
          subst ho'
          refine wpOp_of_listK ho hw2 fun a' w' hh => ⟨hsize, hclosed, ?_⟩
          cases hl2' : l2 with
          | nil =>
            subst hl2'
            obtain rfl : lo2 = [] := by cases lo2 with | nil => rfl | cons _ _ => simp at hrest
            have heq := whole hK' (fun k hk => by
              rcases List.mem_append.1 hk with h2 | h2
              · exact hall' k h2
              · rw [hll'] at h2
                obtain rfl : k = i := by simpa using h2
                exact getD_same hiL)
            refine .inr (.inr ⟨f1, by rw [heq]; exact hf1, ?_⟩)
            rw [heq]
            exact hh
          | cons j2 l3 =>
            rw [hl2'] at hll' hrest nl'
            refine .inr (.inl ⟨hK', hall', [i], j2 :: l3, lo2, by rw [hll']; rfl, by simp, fun k hk => ?_, fun k hk => ?_, hrest, hh⟩)
            · obtain rfl : k = i := by simpa using hk
              exact getD_same hiL
            · rw [keep k _ (fun e => (List.nodup_cons.1 nl').1 (e ▸ hk))]
              exact w2 k (by rw [hll']; exact List.mem_cons_of_mem _ hk)
    · have hcov : i ∈ ql ++ ml ++ tl ++ ll := notYet wK (by
        cases hl2' : l2 with
        | nil => exact absurd hl2' e0
        | cons j l3 => exact ⟨j, by rw [e1, hl2']; simp, e3 j (by rw [hl2']; exact List.mem_cons_self)⟩)
      have hK' := out wK hcov
      rcases List.mem_append.1 hcov with hiq | hil2
      · rw [w2 i hiq] at hlf; cases hlf
      · have hall' : ∀ k ∈ ql ++ ml ++ tl, (L.setIfInBounds i true).getD k false = true := fun k hk => by
          rw [keep k _ (fun e => lq i hil2 (e ▸ hk))]; exact w2 k hk
        have hi2 : i ∈ l2 := by
          rw [e1] at hil2
          rcases List.mem_append.1 hil2 with h2 | h2
          · rw [e2 i h2] at hlf; cases hlf
          · exact h2
        cases l2 with
        | nil => cases hi2
        | cons j l3 =>
          have hl2' := hl2
          have nl' := nl
          rw [e1] at hl2' nl'
          have hij : i = j := by
            rcases List.mem_cons.1 hi2 with rfl | h2
            · rfl
            · have := hwt j ((List.pairwise_cons.1 (List.pairwise_append.1 hl2').2.1).1 i h2)
              rw [e3 j List.mem_cons_self] at this
              cases this
          subst hij
          cases lo2 with
          | nil => simp at e4
          | cons o' lo3 =>
            simp only [List.map_cons, List.cons.injEq] at e4
            rw [ho] at e4
            obtain ⟨ho', hrest⟩ := e4
            injection ho' with ho'
            subst ho'
            obtain ⟨_, nl2, nl3⟩ := List.nodup_append.1 nl'
            refine wpOp_of_listK ho hw fun a' w' hh => ⟨hsize, hclosed, ?_⟩
            have hl1' : ∀ k ∈ l1 ++ [i], (L.setIfInBounds i true).getD k false = true := fun k hk => by
              rcases List.mem_append.1 hk with h2 | h2
              · rw [keep k _ (fun e => nl3 k h2 i List.mem_cons_self e.symm)]; exact e2 k h2
              · obtain rfl : k = i := by simpa using h2
                exact getD_same hiL
            cases hl3 : l3 with
            | nil =>
              subst hl3
              obtain rfl : lo3 = [] := by cases lo3 with | nil => rfl | cons _ _ => simp at hrest
              have heq := whole hK' (fun k hk => by
                rcases List.mem_append.1 hk with h2 | h2
                · exact hall' k h2
                · rw [e1] at h2
                  exact hl1' k h2)
              refine .inr (.inr ⟨f1, by rw [heq]; exact hf1, ?_⟩)
              rw [heq]
              exact hh
            | cons j2 l4 =>
              rw [hl3] at hrest nl2 e1 e3
              refine .inr (.inl ⟨hK', hall', l1 ++ [i], j2 :: l4, lo3, by rw [e1]; simp, by simp, hl1', fun k hk => ?_, hrest, hh⟩)
              rw [keep k _ (fun e => (List.nodup_cons.1 nl2).1 (e ▸ hk))]
              exact e3 k (List.mem_cons_of_mem _ hk)
    · cases f with
      | zero =>
        exfalso
        have h1 : L.toList[i]? = some false := getD_get hl
        have h2 := count_set_lt _ _ h1
        omega
      | succ f =>
        have hmem : i ∈ Region.ready .any ops L := mem_ready.2 ⟨hl, o, ho, hdeps⟩
        refine wpOp_mono (fun a' w' hh => ⟨hsize, hclosed, .inr (.inr ⟨f, ?_, hh⟩)⟩) (hw.2 i hmem)
        have h1 : L.toList[i]? = some false := getD_get hl
        have h2 := count_set_lt _ _ h1
        rw [Array.toList_setIfInBounds]
        omega
  case he =>
    intro L A X hI hr
    have hall : ∀ n k, k < n → k < ops.size → L.getD k false = true := by
      intro n
      induction n with
      | zero => intro k hk; omega
      | succ n ih =>
        intro k hk hkn
        cases hv : L.getD k false with
        | true => rfl
        | false =>
          exfalso
          have ho : ops[k]? = some ops[k] := Array.getElem?_eq_getElem hkn
          have hmem : k ∈ Region.ready .any ops L := mem_ready.2 ⟨by rw [← getD_flip' (by rw [hI.size]; omega)]; exact hv, ops[k], ho, fun e he hbe => ih e.on (by have := htx k _ ho e he hbe; omega) (by have := htx k _ ho e he hbe; omega)⟩
          rw [hr] at hmem
          cases hmem
    have hk : ∀ k, k < ops.size → L.getD k false = true := fun k hk => hall (k + 1) k (by omega) hk
    rcases hI.way with ⟨_, w2, _⟩ | ⟨_, w2, l1, l2, lo2, e1, e0, e2, e3, e4, hw⟩ | ⟨f, hf, hw⟩
    · cases hll' : ll with
      | nil => exact absurd hll' hne
      | cons j l2 =>
        have := w2 j (by rw [hll']; exact List.mem_cons_self)
        rw [hk j (hin j (by rw [hll']; simp))] at this
        cases this
    · cases l2 with
      | nil => exact absurd rfl e0
      | cons j l3 =>
        have := e3 j List.mem_cons_self
        rw [hk j (hin j (by rw [e1]; simp))] at this
        cases this
    · cases f with
      | zero => exact hw.2
      | succ f => exact hw.1 hr
end
end Go.Proofs.YthgflnjeojhgkaaDoor
