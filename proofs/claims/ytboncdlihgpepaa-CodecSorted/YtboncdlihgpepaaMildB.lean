/-
  A law for regions that draw their order, in which one block is made: operations that only read and calls stand anywhere, the block's value and content hang on the frame, the late operations behind them all.
-/
import Derived.Test.YtboncdlihgpepaaMild
namespace Go.Proofs.Ytboncdlihgpepaa
open Go.RowKit
section
variable {P : Program} {ops : Array Oper} {W : World} {Q : Exit → Act → World → Prop}
/-- in a frame, in every world behind W, the operation makes a block of n cells told by g, and yields vf of the block -/
def StrongM (P : Program) (ops : Array Oper) (W : World) (o : Oper) (n : Nat) (g : Nat → Value) (vf : Nat → Value) (a : Act) : Prop :=
  Region.wanted o (yielded ops a.tmps) = true ∧ ∀ w, Ext W w → ∃ C t, (execOp a.eval o).run P w = .ok (.value (vf w.heap.size)) (w.alloc (.cells C t)) ∧ ∀ j, j < n → C[j]? = some (g j)
theorem StrongM.put {o : Oper} {n : Nat} {g vf : Nat → Value} {u : Value} {a : Act} {d : Option Tmp} (hs : ∀ cs b, o.op ≠ .select cs b) (h : ∀ t, d = some t → t ∉ o.looksAt ops) : StrongM P ops W o n g vf (a.put d u) ↔ StrongM P ops W o n g vf a := by
  unfold StrongM
  rw [execOp_put (ops := ops) o hs a d u h, wanted_put o a d u h]
def MK (P : Program) (ops : Array Oper) (W : World) (Q : Exit → Act → World → Prop) (om : Oper) (lops : List Oper) (A : Act) : Prop :=
  ∃ n g vf, StrongM P ops W om n g vf A ∧ ∀ b w', W.heap.size ≤ b → Ext W w' → RowAt b n g w' → wpList P ops Q lops (A.put om.dst (vf b)) w'
def After (P : Program) (ops : Array Oper) (W : World) (Q : Exit → Act → World → Prop) (lops : List Oper) (b n : Nat) (g : Nat → Value) (A : Act) : Prop := ∀ w', Ext W w' → RowAt b n g w' → wpList P ops Q lops A w'
theorem mk_take {om : Oper} {lops : List Oper} (hsel : ∀ (j : Nat) (o : Oper) cs b, ops[j]? = some o → o.op ≠ .select cs b) {m : Nat} (hm : ops[m]? = some om) : ∀ (r : List Nat) (a : Act), (∀ k ∈ r, ∀ ok, ops[k]? = some ok → ok.apart ops om = true) →
    wpS P ops W (MK P ops W Q om lops) r a → ∃ n g vf, StrongM P ops W om n g vf a ∧ ∀ b, W.heap.size ≤ b → wpS P ops W (After P ops W Q lops b n g) r (a.put om.dst (vf b))
  | [], a, _, ⟨n, g, vf, h1, h2⟩ => ⟨n, g, vf, h1, fun b hb w' hw' hr => h2 b w' hb hw' hr⟩
  | k :: r, a, hap, ⟨ok, vk, h1, h2, h3⟩ => by
    obtain ⟨p1, p2, p3⟩ := Oper.apart_spec (hap k List.mem_cons_self ok h1)
    obtain ⟨n, g, vf, g1, g2⟩ := mk_take hsel hm r _ (fun k' hk' => hap k' (List.mem_cons_of_mem _ hk')) h3
    refine ⟨n, g, vf, (StrongM.put (fun cs b => hsel m om cs b hm) p1).1 g1, fun b hb => ⟨ok, vk, h1, (StrongY.put (fun cs b => hsel k ok cs b h1) p3).2 h2, ?_⟩⟩
    rw [← Act.put_comm a vk _ p2]
    exact g2 b hb
def lf (L : Array Bool) (l : List Nat) : List Nat := l.filter fun k => !L.getD k true
theorem lf_split {R : Nat → Nat → Prop} {L : Array Bool} {l : List Nat} {i : Nat} (hn : l.Nodup) (hp : l.Pairwise R) (hi : i ∈ l) (hL : L.getD i true = false) :
    ∃ r1 r2, lf L l = r1 ++ i :: r2 ∧ lf (L.setIfInBounds i true) l = r1 ++ r2 ∧ ∀ k ∈ r1, R k i ∧ L.getD k true = false := by
  obtain ⟨s, t, rfl⟩ := List.append_of_mem hi
  obtain ⟨_, n2, n3⟩ := List.nodup_append.1 hn
  have n4 := (List.nodup_cons.1 n2).1
  obtain ⟨_, _, q3⟩ := List.pairwise_append.1 hp
  have hne : ∀ k, k ≠ i → (L.setIfInBounds i true).getD k true = L.getD k true := fun k hk => getD_set_ne true (Ne.symm hk)
  have hself : (L.setIfInBounds i true).getD i true = true := by
    unfold Array.getD
    split
    · simp
    · rfl
  refine ⟨s.filter fun k => !L.getD k true, t.filter fun k => !L.getD k true, ?_, ?_, ?_⟩
  · unfold lf
    rw [List.filter_append, List.filter_cons, if_pos (by simp [hL])]
  · unfold lf
    rw [List.filter_append, List.filter_cons, if_neg (by simp [hself])]
    congr 1
    · exact List.filter_congr fun k hk => by rw [hne k (n3 k hk i List.mem_cons_self)]
    · exact List.filter_congr fun k hk => by rw [hne k (fun e => n4 (e ▸ hk))]
  · intro k hk
    obtain ⟨hk1, hk2⟩ := List.mem_filter.1 hk
    exact ⟨q3 k hk1 i List.mem_cons_self, by simpa using hk2⟩
theorem lf_other {L : Array Bool} {l : List Nat} {i : Nat} (h : i ∉ l) : lf (L.setIfInBounds i true) l = lf L l :=
  List.filter_congr fun k hk => by rw [getD_set_ne true (fun e : i = k => h (by rw [e]; exact hk))]
theorem lf_nil {L : Array Bool} {l : List Nat} (h : ∀ k ∈ l, L.getD k true = true) : lf L l = [] :=
  List.filter_eq_nil_iff.2 fun k hk => by simp [h k hk]
theorem lf_all {L : Array Bool} {l : List Nat} (h : ∀ k ∈ l, L.getD k true = false) : lf L l = l :=
  List.filter_eq_self.2 fun k hk => by simp [h k hk]
def edgeB (ops : Array Oper) (k j : Nat) : Bool := match ops[j]?, ops[k]? with
  | some o, some ok => o.after.any (fun e => Region.binds .any e && e.on == k) || ok.apart ops o
  | _, _ => false
theorem edgeB_spec {k j : Nat} {o ok : Oper} (hj : ops[j]? = some o) (hk : ops[k]? = some ok) (h : edgeB ops k j = true) : (∃ e ∈ o.after, Region.binds .any e = true ∧ e.on = k) ∨ ok.apart ops o = true := by
  unfold edgeB at h
  rw [hj, hk] at h
  simp only [Bool.or_eq_true] at h
  rcases h with h2 | h2
  · obtain ⟨e, he, h3⟩ := Array.any_eq_true'.1 h2
    simp only [Bool.and_eq_true, beq_iff_eq] at h3
    exact .inl ⟨e, he, h3.1, h3.2⟩
  · exact .inr h2
def textB (ops : Array Oper) : Bool := Region.noSelect ops && (List.range ops.size).all fun j => match ops[j]? with
  | none => false
  | some o => o.after.all (fun e => !Region.binds .any e || decide (e.on < j))
theorem textB_spec (h : textB ops = true) : (∀ (j : Nat) (o : Oper) cs b, ops[j]? = some o → o.op ≠ .select cs b) ∧ ∀ j o, ops[j]? = some o → ∀ e ∈ o.after, Region.binds .any e = true → e.on < j := by
  unfold textB at h
  rw [Bool.and_eq_true] at h
  refine ⟨Region.noSelect_spec h.1, fun j o ho e he hb => ?_⟩
  have hj : j < ops.size := (Array.getElem?_eq_some_iff.1 ho).1
  have h1 := List.all_eq_true.1 h.2 j (List.mem_range.2 hj)
  rw [ho] at h1
  have := Array.all_eq_true'.1 h1 e he
  simpa [hb] using this
structure MixAt' (P : Program) (ops : Array Oper) (W : World) (Q : Exit → Act → World → Prop) (ql : List Nat) (m : Nat) (om : Oper) (ll : List Nat) (lops : List Oper) (L : Array Bool) (A : Act) (w : World) : Prop where
  size : L.size = ops.size
  closed : Closed ops L
  way : (L.getD m false = false ∧ (∀ i ∈ ll, L.getD i false = false) ∧ Ext W w ∧ wpS P ops W (MK P ops W Q om lops) (lf L ql) A) ∨
    (L.getD m false = true ∧ (∀ i ∈ ll, L.getD i false = false) ∧ ∃ b n g, Ext W w ∧ RowAt b n g w ∧ wpS P ops W (After P ops W Q lops b n g) (lf L ql) A) ∨
    (L.getD m false = true ∧ (∀ k ∈ ql, L.getD k false = true) ∧ ∃ l1 l2 lo2, ll = l1 ++ l2 ∧ (∀ k ∈ l1, L.getD k false = true) ∧ (∀ k ∈ l2, L.getD k false = false) ∧ l2.map (ops[·]?) = lo2.map some ∧ wpList P ops Q lo2 A w)
theorem StrongM.wpOp {i : Nat} {o : Oper} {n : Nat} {g vf : Nat → Value} {a : Act} {w : World} {K : Act → World → Prop} (hi : ops[i]? = some o) (hw : Ext W w) (hy : StrongM P ops W o n g vf a)
    (hK : ∀ w', Ext w w' → RowAt w.heap.size n g w' → K (a.put o.dst (vf w.heap.size)) w') : wpOp P ops Q i K a w := by
  obtain ⟨h1, h2⟩ := hy
  obtain ⟨C, t, h3, h4⟩ := h2 w hw
  unfold Go.wpOp
  rw [hi]
  simp only [h1, if_true]
  refine .inl ?_
  unfold Oper.wp
  rw [h3]
  simp only [Oper.upon]
  exact hK _ ((Below.refl _ _).alloc (Nat.le_refl _) _) (RowAt.newOf w n g t C h4)
theorem wp_region_mix {id : Nat} {a : Act} {w : World} (ql : List Nat) (m : Nat) (om : Oper) (ll : List Nat) (lops : List Oper) (hmo : P.follows .mixedOrders = true) (hB : textB ops = true) (hm : ops[m]? = some om) (hll : ll.map (ops[·]?) = lops.map some)
    (hnd : (ql ++ m :: ll).Nodup) (hcov : ∀ i, i < ops.size → i ∈ ql ++ m :: ll) (hin : ∀ i ∈ ql ++ m :: ll, i < ops.size) (hq : ql.Pairwise (fun k j => edgeB ops k j = true)) (hqm : ∀ k ∈ ql, edgeB ops k m = true)
    (hl1 : ∀ j ∈ ll, ∀ k ∈ ql ++ [m], waits ops ops.size j k = true) (hl2 : ll.Pairwise (fun k j => waits ops ops.size j k = true))
    (h : wpS P ops w.drew (MK P ops w.drew Q om lops) ql a) : (Code.region id ops true).wp P Q a w := by
  obtain ⟨hsel, htx⟩ := textB_spec hB
  obtain ⟨nq, nml, ndis⟩ := List.nodup_append.1 hnd
  obtain ⟨nm, nl⟩ := List.nodup_cons.1 nml
  have mq : m ∉ ql := fun e => ndis m e m List.mem_cons_self rfl
  have lq : ∀ i ∈ ll, i ∉ ql := fun i hi e => ndis i e i (List.mem_cons_of_mem _ hi) rfl
  refine wp_region_inv (I := MixAt' P ops w.drew Q ql m om ll lops) hmo ?h0 ?hs ?he
  case h0 =>
    have hf : ∀ k d, k < ops.size → (Array.replicate ops.size false).getD k d = false := fun k d hk => by unfold Array.getD; simp [hk]
    refine ⟨by simp, ?_, .inl ⟨hf m _ (hin m (by simp)), fun i hi => hf i _ (hin i (by simp [hi])), Ext.refl _, ?_⟩⟩
    · intro i o ho hi
      rw [hf i _ (Array.getElem?_eq_some_iff.1 ho).1] at hi
      cases hi
    · rw [lf_all fun k hk => hf k _ (hin k (by simp [hk]))]
      exact h
  case hs =>
    intro L A X i o hI ho hl hdeps
    have hil : i < ops.size := (Array.getElem?_eq_some_iff.1 ho).1
    have hiL : i < L.size := by rw [hI.size]; exact hil
    have hlf := getD_flip hl
    have hsize : (L.setIfInBounds i true).size = ops.size := by simp [hI.size]
    have hclosed := hI.closed.step ho hdeps
    have hap : ∀ k, edgeB ops k i = true → L.getD k true = false → ∀ ok, ops[k]? = some ok → ok.apart ops o = true := by
      intro k hed hk ok hok
      rcases edgeB_spec ho hok hed with ⟨e, he, hbe, rfl⟩ | h2
      · have h3 := hdeps e he hbe
        rw [getD_flip hk] at h3
        cases h3
      · exact h2
    have hwt : ∀ k, waits ops ops.size i k = true → L.getD k false = true := fun k hk => waits_listed hI.closed _ i k o ho hdeps hk
    have keep : ∀ k d, i ≠ k → (L.setIfInBounds i true).getD k d = L.getD k d := fun k d hk => getD_set_ne d hk
    have hfl : ∀ k, k < ops.size → L.getD k false = L.getD k true := fun k hk => getD_flip' (by rw [hI.size]; exact hk)
    rcases hI.way with ⟨w1, w2, hX, hw⟩ | ⟨w1, w2, b, n, g, hX, hR, hw⟩ | ⟨w1, w2, l1, l2, lo2, e1, e2, e3, e4, hw⟩
    · rcases List.mem_append.1 (hcov i hil) with hiq | hir
      · obtain ⟨r1, r2, s1, s2, s3⟩ := lf_split nq hq hiq hl
        rw [s1] at hw
        obtain ⟨v, hv, hr⟩ := wpS_take hsel ho r2 r1 A (fun k hk => hap k (s3 k hk).1 (s3 k hk).2) hw
        refine StrongY.wpOp ho hX hv fun w' hw' => ⟨hsize, hclosed, .inl ⟨?_, fun k hk => ?_, hX.trans hw', ?_⟩⟩
        · rw [keep m _ (fun e => mq (e ▸ hiq))]; exact w1
        · rw [keep k _ (fun e => lq k hk (e ▸ hiq))]; exact w2 k hk
        · rw [s2]; exact hr
      · rcases List.mem_cons.1 hir with rfl | hil2
        · rw [hm] at ho
          injection ho with ho
          subst ho
          obtain ⟨n, g, vf, g1, g2⟩ := mk_take hsel hm (lf L ql) A (fun k hk => by
            obtain ⟨k1, k2⟩ := List.mem_filter.1 hk
            exact hap k (hqm k k1) (by simpa using k2)) hw
          refine StrongM.wpOp hm hX g1 fun w' hw' hR => ⟨hsize, hclosed, .inr (.inl ⟨getD_same hiL, fun k hk => ?_, _, n, g, hX.trans hw', hR, ?_⟩)⟩
          · rw [keep k _ (fun e => nm (e ▸ hk))]; exact w2 k hk
          · rw [lf_other mq]
            exact g2 X.heap.size (Below.size hX)
        · have := hwt m (hl1 i hil2 m (by simp))
          rw [w1] at this
          cases this
    · rcases List.mem_append.1 (hcov i hil) with hiq | hir
      · obtain ⟨r1, r2, s1, s2, s3⟩ := lf_split nq hq hiq hl
        rw [s1] at hw
        obtain ⟨v, hv, hr⟩ := wpS_take hsel ho r2 r1 A (fun k hk => hap k (s3 k hk).1 (s3 k hk).2) hw
        refine StrongY.wpOp ho hX hv fun w' hw' => ⟨hsize, hclosed, .inr (.inl ⟨?_, fun k hk => ?_, b, n, g, hX.trans hw', hR.carry hw', ?_⟩)⟩
        · rw [keep m _ (fun e => mq (e ▸ hiq))]; exact w1
        · rw [keep k _ (fun e => lq k hk (e ▸ hiq))]; exact w2 k hk
        · rw [s2]; exact hr
      · rcases List.mem_cons.1 hir with rfl | hil2
        · rw [w1] at hlf; cases hlf
        · have hall : ∀ k ∈ ql, L.getD k false = true := fun k hk => hwt k (hl1 i hil2 k (by simp [hk]))
          rw [lf_nil fun k hk => by rw [← hfl k (hin k (by simp [hk]))]; exact hall k hk] at hw
          have hw2 : wpList P ops Q lops A X := hw X hX hR
          cases hll' : ll with
          | nil => rw [hll'] at hil2; cases hil2
          | cons j l2 =>
            have hij : i = j := by
              rw [hll'] at hil2 hl2
              rcases List.mem_cons.1 hil2 with rfl | h2
              · rfl
              · have := hwt j ((List.pairwise_cons.1 hl2).1 i h2)
                rw [w2 j (by rw [hll']; exact List.mem_cons_self)] at this
                cases this
            subst hij
            rw [hll'] at hll nl
            cases lops with
            | nil => simp at hll
            | cons o' lo2 =>
              simp only [List.map_cons, List.cons.injEq] at hll
              rw [ho] at hll
              obtain ⟨ho', hrest⟩ := hll
              injection ho' with ho'
              subst ho'
              refine wpOp_of_list ho hw2 fun a' w' hh => ⟨hsize, hclosed, .inr (.inr ⟨?_, fun k hk => ?_, [i], l2, lo2, rfl, fun k hk => ?_, fun k hk => ?_, hrest, hh⟩)⟩
              · rw [keep m _ (fun e => nm (by rw [hll', ← e]; exact List.mem_cons_self))]; exact w1
              · rw [keep k _ (fun e => lq i (by rw [hll']; exact List.mem_cons_self) (e ▸ hk))]; exact hall k hk
              · obtain rfl : k = i := by simpa using hk
                exact getD_same hiL
              · rw [keep k _ (fun e => (List.nodup_cons.1 nl).1 (e ▸ hk))]
                exact w2 k (by rw [hll']; exact List.mem_cons_of_mem _ hk)
    · rcases List.mem_append.1 (hcov i hil) with hiq | hir
      · rw [w2 i hiq] at hlf; cases hlf
      · rcases List.mem_cons.1 hir with rfl | hil2
        · rw [w1] at hlf; cases hlf
        · have hi2 : i ∈ l2 := by
            rw [e1] at hil2
            rcases List.mem_append.1 hil2 with h2 | h2
            · rw [e2 i h2] at hlf; cases hlf
            · exact h2
          cases l2 with
          | nil => cases hi2
          | cons j l3 =>
            have hl2' := hl2
            have nl' := nl
            rw [e1] at hl2' nl'
            have hij : i = j := by
              rcases List.mem_cons.1 hi2 with rfl | h2
              · rfl
              · have := hwt j ((List.pairwise_cons.1 (List.pairwise_append.1 hl2').2.1).1 i h2)
                rw [e3 j List.mem_cons_self] at this
                cases this
            subst hij
            cases lo2 with
            | nil => simp at e4
            | cons o' lo3 =>
              simp only [List.map_cons, List.cons.injEq] at e4
              rw [ho] at e4
              obtain ⟨ho', hrest⟩ := e4
              injection ho' with ho'
              subst ho'
              obtain ⟨_, nl2, nl3⟩ := List.nodup_append.1 nl'
              refine wpOp_of_list ho hw fun a' w' hh => ⟨hsize, hclosed, .inr (.inr ⟨?_, fun k hk => ?_, l1 ++ [i], l3, lo3, by rw [e1]; simp, fun k hk => ?_, fun k hk => ?_, hrest, hh⟩)⟩
              · rw [keep m _ (fun e => nm (e ▸ hil2))]; exact w1
              · rw [keep k _ (fun e => lq i hil2 (e ▸ hk))]; exact w2 k hk
              · rcases List.mem_append.1 hk with h2 | h2
                · rw [keep k _ (fun e => nl3 k h2 i List.mem_cons_self e.symm)]; exact e2 k h2
                · obtain rfl : k = i := by simpa using h2
                  exact getD_same hiL
              · rw [keep k _ (fun e => (List.nodup_cons.1 nl2).1 (e ▸ hk))]
                exact e3 k (List.mem_cons_of_mem _ hk)
  case he =>
    intro L A X hI hr
    have hall : ∀ n k, k < n → k < ops.size → L.getD k false = true := by
      intro n
      induction n with
      | zero => intro k hk; omega
      | succ n ih =>
        intro k hk hkn
        cases hv : L.getD k false with
        | true => rfl
        | false =>
          exfalso
          have ho : ops[k]? = some ops[k] := Array.getElem?_eq_getElem hkn
          have hmem : k ∈ Region.ready .any ops L := mem_ready.2 ⟨by rw [← getD_flip' (by rw [hI.size]; omega)]; exact hv, ops[k], ho, fun e he hbe => ih e.on (by have := htx k _ ho e he hbe; omega) (by have := htx k _ ho e he hbe; omega)⟩
          rw [hr] at hmem
          cases hmem
    have hk : ∀ k, k < ops.size → L.getD k false = true := fun k hk => hall (k + 1) k (by omega) hk
    rcases hI.way with ⟨w1, w2, hX, hw⟩ | ⟨w1, w2, b, n, g, hX, hR, hw⟩ | ⟨w1, w2, l1, l2, lo2, e1, e2, e3, e4, hw⟩
    · rw [hk m (hin m (by simp))] at w1; cases w1
    · rw [lf_nil fun k hk2 => by rw [← getD_flip' (by rw [hI.size]; exact hin k (by simp [hk2]))]; exact hk k (hin k (by simp [hk2]))] at hw
      have hw2 : wpList P ops Q lops A X := hw X hX hR
      cases hll' : ll with
      | nil =>
        rw [hll'] at hll
        have : lops = [] := by cases lops with | nil => rfl | cons _ _ => simp at hll
        rw [this] at hw2
        exact hw2
      | cons j l2 =>
        have := w2 j (by rw [hll']; exact List.mem_cons_self)
        rw [hk j (hin j (by rw [hll']; simp))] at this
        cases this
    · cases l2 with
      | nil =>
        have : lo2 = [] := by cases lo2 with | nil => rfl | cons _ _ => simp at e4
        rw [this] at hw
        exact hw
      | cons j l3 =>
        have := e3 j List.mem_cons_self
        rw [hk j (hin j (by rw [e1]; simp))] at this
        cases this
/-- the walk over the quiet operations, written out -/
theorem wpS_of_list {E : Act → Prop} : ∀ (l : List Nat) (lo : List Oper) (a : Act), l.map (ops[·]?) = lo.map some → wpStrong P ops W E lo a → wpS P ops W E l a
  | [], lo, a, hl, h => by
    cases lo with
    | nil => exact h
    | cons _ _ => simp at hl
  | i :: l, lo, a, hl, h => by
    cases lo with
    | nil => simp at hl
    | cons o lo =>
      simp only [List.map_cons, List.cons.injEq] at hl
      obtain ⟨v, h1, h2⟩ := h
      exact ⟨o, v, hl.1, h1, wpS_of_list l lo _ hl.2 h2⟩
end
end Go.Proofs.Ytboncdlihgpepaa
