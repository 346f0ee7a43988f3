/-
  A law for regions that draw their order, in which calls yield fresh memory: operations that only read first, then the makers in any order, the late operations behind them all. One walk serves every order. The two digests of a tag, begun with a key; another two that are the same. A tag of what came and of parts behind it.
-/
import Derived.Test.YtfpfgbhdehbggaaGreatDoorQa10
import Derived.Test.YtfpfgbhdehbggaaGreatDoorQa1
namespace Go.Proofs.YtfpfgbhdehbggaaGreatDoor
open Go.RowKit
structure Sp where
  V : Nat → Value
  S : Nat → World → Prop
section
variable {P : Program} {ops : Array Oper} {W : World} {Q : Exit → Act → World → Prop} {sp : Nat → Sp}
def genUpon (P : Program) (X : World) (s : Sp) : Result Next → Prop
  | .ok (.value u) w' => ∃ b, X.heap.size ≤ b ∧ b < w'.heap.size ∧ u = s.V b ∧ s.S b w' ∧ Ext X w'
  | .ok (.enter f args) w' => w' = X ∧ Calls P f args X fun e w'' => ∃ b, X.heap.size ≤ b ∧ b < w''.heap.size ∧ e = .returned (s.V b) ∧ s.S b w'' ∧ Ext X w''
  | _ => False
def GenY (P : Program) (ops : Array Oper) (W : World) (o : Oper) (s : Sp) (a : Act) : Prop :=
  Region.wanted o (yielded ops a.tmps) = true ∧ ∀ X, Ext W X → genUpon P X s ((execOp a.eval o).run P X)
theorem GenY.put {o : Oper} {s : Sp} {u : Value} {a : Act} {d : Option Tmp} (hs : ∀ cs b, o.op ≠ .select cs b) (h : ∀ t, d = some t → t ∉ o.looksAt ops) : GenY P ops W o s (a.put d u) ↔ GenY P ops W o s a := by
  unfold GenY
  rw [execOp_put (ops := ops) o hs a d u h, wanted_put o a d u h]
theorem GenY.call {o : Oper} {s : Sp} {a : Act} {f : FuncId} {args : Array Value} (hw : Region.wanted o (yielded ops a.tmps) = true) (hr : ∀ w, (execOp a.eval o).run P w = .ok (.enter f args) w)
    (hc : ∀ w, Ext W w → Calls P f args w fun e w' => ∃ b, w.heap.size ≤ b ∧ b < w'.heap.size ∧ e = .returned (s.V b) ∧ s.S b w' ∧ Ext w w') : GenY P ops W o s a :=
  ⟨hw, fun w h => by rw [hr w]; exact ⟨rfl, hc w h⟩⟩
theorem GenY.wpOp {i : Nat} {o : Oper} {s : Sp} {a : Act} {w : World} {K : Act → World → Prop} (hi : ops[i]? = some o) (hw : Ext W w) (hy : GenY P ops W o s a) (hK : ∀ b w', w.heap.size ≤ b → b < w'.heap.size → s.S b w' → Ext w w' → K (a.put o.dst (s.V b)) w') : wpOp P ops Q i K a w := by
  unfold Go.wpOp
  rw [hi]
  obtain ⟨h1, h2⟩ := hy
  simp only [h1, if_true]
  refine .inl ?_
  have h3 := h2 w hw
  unfold Oper.wp
  generalize (execOp a.eval o).run P w = r at *
  cases r with
  | ok n w' =>
    cases n <;> simp only [genUpon] at h3 <;> simp only [Oper.upon]
    case value u =>
      obtain ⟨b, k1, k2, rfl, k3, k4⟩ := h3
      exact hK b _ k1 k2 k3 k4
    case enter f args =>
      obtain ⟨rfl, hc⟩ := h3
      exact hc.mono fun e w'' ⟨b, k1, k2, he, k3, k4⟩ => by subst he; exact hK b _ k1 k2 k3 k4
  | halt x w' => simp only [genUpon] at h3
def wpN (P : Program) (ops : Array Oper) (W : World) (sp : Nat → Sp) (E : Act → List (Nat × Nat) → Prop) : List Nat → Act → List (Nat × Nat) → Prop
  | [], a, T => E a T
  | i :: r, a, T => ∃ o, ops[i]? = some o ∧ GenY P ops W o (sp i) a ∧ ∀ b, W.heap.size ≤ b → (∀ y ∈ T, y.1 ≠ b) → wpN P ops W sp E r (a.put o.dst ((sp i).V b)) ((b, i) :: T)
def HoldsN (sp : Nat → Sp) (T : List (Nat × Nat)) (w : World) : Prop := ∀ y ∈ T, (sp y.2).S y.1 w ∧ y.1 < w.heap.size
theorem HoldsN.ext (hst : ∀ i b w w', (sp i).S b w → Ext w w' → (sp i).S b w') {T : List (Nat × Nat)} {w w' : World} (h : HoldsN sp T w) (k : Ext w w') : HoldsN sp T w' := fun y hy => ⟨hst _ _ _ _ (h y hy).1 k, Nat.lt_of_lt_of_le (h y hy).2 (Below.size k)⟩
theorem fresh_b (n : Nat) : ∀ T : List (Nat × Nat), ∃ b, n ≤ b ∧ ∀ y ∈ T, y.1 < b
  | [] => ⟨n, Nat.le_refl _, fun y hy => by cases hy⟩
  | t :: T => by
    obtain ⟨b, h1, h2⟩ := fresh_b n T
    refine ⟨b + t.1 + 1, by omega, fun y hy => ?_⟩
    rcases List.mem_cons.1 hy with rfl | hy
    · omega
    · have := h2 y hy
      omega
theorem wpN_congr {E : Act → List (Nat × Nat) → Prop} (hE : ∀ a T T', (∀ y, y ∈ T ↔ y ∈ T') → E a T → E a T') : ∀ (l : List Nat) (a : Act) (T T' : List (Nat × Nat)), (∀ y, y ∈ T ↔ y ∈ T') → wpN P ops W sp E l a T → wpN P ops W sp E l a T'
  | [], _, _, _, hT, h => hE _ _ _ hT h
  | i :: r, a, T, T', hT, ⟨o, h1, h2, h3⟩ => ⟨o, h1, h2, fun b hb hn => wpN_congr hE r _ _ _ (fun y => by simp only [List.mem_cons, hT]) (h3 b hb fun y hy => hn y ((hT y).1 hy))⟩
theorem wpN_take {E : Act → List (Nat × Nat) → Prop} (hE : ∀ a T T', (∀ y, y ∈ T ↔ y ∈ T') → E a T → E a T') (hsel : ∀ (j : Nat) (o : Oper) cs b, ops[j]? = some o → o.op ≠ .select cs b) {i : Nat} {o : Oper} (hi : ops[i]? = some o) (r2 : List Nat) : ∀ (r1 : List Nat) (a : Act) (T : List (Nat × Nat)), (∀ k ∈ r1, ∀ ok, ops[k]? = some ok → ok.apart ops o = true) →
    wpN P ops W sp E (r1 ++ i :: r2) a T → GenY P ops W o (sp i) a ∧ ∀ b, W.heap.size ≤ b → (∀ y ∈ T, y.1 ≠ b) → wpN P ops W sp E (r1 ++ r2) (a.put o.dst ((sp i).V b)) ((b, i) :: T)
  | [], a, T, _, ⟨o', h1, h2, h3⟩ => by
    rw [hi] at h1
    injection h1 with h1
    subst h1
    exact ⟨h2, h3⟩
  | k :: r1, a, T, hap, ⟨ok, h1, h2, h3⟩ => by
    obtain ⟨p1, p2, p3⟩ := Oper.apart_spec (hap k List.mem_cons_self ok h1)
    have ih := fun b hb hn => wpN_take hE hsel hi r2 r1 _ _ (fun k' hk' => hap k' (List.mem_cons_of_mem _ hk')) (h3 b hb hn)
    obtain ⟨b0, hb0, hb1⟩ := fresh_b W.heap.size T
    refine ⟨(GenY.put (fun cs b => hsel i o cs b hi) p1).1 (ih b0 hb0 (fun y hy => Nat.ne_of_lt (hb1 y hy))).1, fun b hb hn => ⟨ok, h1, (GenY.put (fun cs b => hsel k ok cs b h1) p3).2 h2, fun bk hbk hnk => ?_⟩⟩
    have g2 := (ih bk hbk (fun y hy => hnk y (List.mem_cons_of_mem _ hy))).2 b hb (fun y hy => by
      rcases List.mem_cons.1 hy with rfl | hy
      · intro e
        exact hnk _ List.mem_cons_self e.symm
      · exact hn y hy)
    rw [Act.put_comm a _ _ p2] at g2
    exact wpN_congr hE _ _ _ _ (fun y => by simp only [List.mem_cons]; exact ⟨fun h => h.elim (fun h => .inr (.inl h)) (fun h => h.elim .inl (fun h => .inr (.inr h))), fun h => h.elim (fun h => .inr (.inl h)) (fun h => h.elim .inl (fun h => .inr (.inr h)))⟩) g2
theorem wpSN_take {E : Act → List (Nat × Nat) → Prop} (hE : ∀ a T T', (∀ y, y ∈ T ↔ y ∈ T') → E a T → E a T') (hsel : ∀ (j : Nat) (o : Oper) cs b, ops[j]? = some o → o.op ≠ .select cs b) {i : Nat} {o : Oper} (hi : ops[i]? = some o) (s1 s2 : List Nat) (T : List (Nat × Nat))
    (hs1 : ∀ k ∈ s1, ∀ ok, ops[k]? = some ok → ok.apart ops o = true) : ∀ (r : List Nat) (a : Act), (∀ k ∈ r, ∀ ok, ops[k]? = some ok → ok.apart ops o = true) →
    wpS P ops W (fun A => wpN P ops W sp E (s1 ++ i :: s2) A T) r a → GenY P ops W o (sp i) a ∧ ∀ b, W.heap.size ≤ b → (∀ y ∈ T, y.1 ≠ b) → wpS P ops W (fun A => wpN P ops W sp E (s1 ++ s2) A ((b, i) :: T)) r (a.put o.dst ((sp i).V b))
  | [], a, _, h => wpN_take hE hsel hi s2 s1 a T hs1 h
  | k :: r, a, hap, ⟨ok, vk, h1, h2, h3⟩ => by
    obtain ⟨p1, p2, p3⟩ := Oper.apart_spec (hap k List.mem_cons_self ok h1)
    obtain ⟨g1, g2⟩ := wpSN_take hE hsel hi s1 s2 T hs1 r _ (fun k' hk' => hap k' (List.mem_cons_of_mem _ hk')) h3
    refine ⟨(GenY.put (fun cs b => hsel i o cs b hi) p1).1 g1, fun b hb hn => ⟨ok, vk, h1, (StrongY.put (fun cs b => hsel k ok cs b h1) p3).2 h2, ?_⟩⟩
    rw [← Act.put_comm a vk _ p2]
    exact g2 b hb hn
structure TwoAt (P : Program) (ops : Array Oper) (W : World) (Q : Exit → Act → World → Prop) (sp : Nat → Sp) (ql ml ll : List Nat) (lops : List Oper) (L : Array Bool) (A : Act) (w : World) : Prop where
  size : L.size = ops.size
  closed : Closed ops L
  way : ((∀ i ∈ ll, L.getD i false = false) ∧ Ext W w ∧ ∃ T, HoldsN sp T w ∧ wpS P ops W (fun A' => wpN P ops W sp (fun A'' T' => ∀ w', Ext W w' → HoldsN sp T' w' → wpList P ops Q lops A'' w') (lf L ml) A' T) (lf L ql) A) ∨
    ((∀ k ∈ ql ++ ml, L.getD k false = true) ∧ ∃ l1 l2 lo2, ll = l1 ++ l2 ∧ (∀ k ∈ l1, L.getD k false = true) ∧ (∀ k ∈ l2, L.getD k false = false) ∧ l2.map (ops[·]?) = lo2.map some ∧ wpList P ops Q lo2 A w)
theorem wp_region_two {id : Nat} {a : Act} {w : World} (sp : Nat → Sp) (hst : ∀ i b w w', (sp i).S b w → Ext w w' → (sp i).S b w') (ql ml ll : List Nat) (qlo lops : List Oper) (hmo : P.follows .mixedOrders = true) (hB : textB ops = true) (hql : ql.map (ops[·]?) = qlo.map some) (hll : ll.map (ops[·]?) = lops.map some)
    (hnd : (ql ++ ml ++ ll).Nodup) (hcov0 : ∀ i ∈ List.range ops.size, i ∈ ql ++ ml ++ ll) (hin : ∀ i ∈ ql ++ ml ++ ll, i < ops.size) (hq : ql.Pairwise (fun k j => edgeB ops k j = true)) (hm : ml.Pairwise (fun k j => edgeB ops k j = true)) (hqm : ∀ j ∈ ml, ∀ k ∈ ql, edgeB ops k j = true)
    (hl1 : ∀ j ∈ ll, ∀ k ∈ ql ++ ml, waits ops ops.size j k = true) (hl2 : ll.Pairwise (fun k j => waits ops ops.size j k = true))
    (h : wpStrong P ops w.drew (fun A => wpN P ops w.drew sp (fun A'' T' => ∀ w', Ext w.drew w' → HoldsN sp T' w' → wpList P ops Q lops A'' w') ml A []) qlo a) : (Code.region id ops true).wp P Q a w := by
  obtain ⟨hsel, htx⟩ := textB_spec hB
  obtain ⟨nqm, nl, ndis⟩ := List.nodup_append.1 hnd
  obtain ⟨nq, nm, ndm⟩ := List.nodup_append.1 nqm
  have lq : ∀ i ∈ ll, i ∉ ql ++ ml := fun i hi e => ndis i e i hi rfl
  have hE : ∀ (a : Act) (T T' : List (Nat × Nat)), (∀ y, y ∈ T ↔ y ∈ T') → (∀ w', Ext w.drew w' → HoldsN sp T w' → wpList P ops Q lops a w') → (∀ w', Ext w.drew w' → HoldsN sp T' w' → wpList P ops Q lops a w') :=
    fun a T T' hT hh w' hw' hH => hh w' hw' fun y hy => hH y ((hT y).1 hy)
  refine wp_region_inv (I := fun L A X => TwoAt P ops w.drew Q sp ql ml ll lops L A X) hmo ?h0 ?hs ?he
  case h0 =>
    have hf : ∀ k d, k < ops.size → (Array.replicate ops.size false).getD k d = false := fun k d hk => by unfold Array.getD; simp [hk]
    refine ⟨by simp, ?_, .inl ⟨fun i hi => hf i _ (hin i (by simp [hi])), Ext.refl _, [], (fun y hy => by cases hy), ?_⟩⟩
    · intro i o ho hi
      rw [hf i _ (Array.getElem?_eq_some_iff.1 ho).1] at hi
      cases hi
    · rw [lf_all fun k hk => hf k _ (hin k (by simp [hk])), lf_all fun k hk => hf k _ (hin k (by simp [hk]))]
      exact wpS_of_list ql qlo a hql h
  case hs =>
    intro L A X i o hI ho hl hdeps
    have hil : i < ops.size := (Array.getElem?_eq_some_iff.1 ho).1
    have hiL : i < L.size := by rw [hI.size]; exact hil
    have hlf := getD_flip hl
    have hsize : (L.setIfInBounds i true).size = ops.size := by simp [hI.size]
    have hclosed := hI.closed.step ho hdeps
    have hcov : i ∈ ql ++ ml ++ ll := hcov0 i (by simpa using hil)
    have hap : ∀ k, edgeB ops k i = true → L.getD k true = false → ∀ ok, ops[k]? = some ok → ok.apart ops o = true := by
      intro k hed hk ok hok
      rcases edgeB_spec ho hok hed with ⟨e, he, hbe, rfl⟩ | h2
      · have h3 := hdeps e he hbe
        rw [getD_flip hk] at h3
        cases h3
      · exact h2
    have hwt : ∀ k, waits ops ops.size i k = true → L.getD k false = true := fun k hk => waits_listed hI.closed _ i k o ho hdeps hk
    have keep : ∀ k d, i ≠ k → (L.setIfInBounds i true).getD k d = L.getD k d := fun k d hk => getD_set_ne d hk
    have hfl : ∀ k, k < ops.size → L.getD k false = L.getD k true := fun k hk => getD_flip' (by rw [hI.size]; exact hk)
    rcases hI.way with ⟨w2, hX, T, hT, hw⟩ | ⟨w2, l1, l2, lo2, e1, e2, e3, e4, hw⟩
    · rcases List.mem_append.1 hcov with hiqm | hil2
      · have hll0 : ∀ k ∈ ll, (L.setIfInBounds i true).getD k false = false := fun k hk => by
          rw [keep k _ (fun e => lq k hk (e ▸ hiqm))]; exact w2 k hk
        rcases List.mem_append.1 hiqm with hiq | him
        · obtain ⟨r1, r2, s1, s2, s3⟩ := lf_split nq hq hiq hl
          rw [s1] at hw
          obtain ⟨v, hv, hr⟩ := wpS_take hsel ho r2 r1 A (fun k hk => hap k (s3 k hk).1 (s3 k hk).2) hw
          refine StrongY.wpOp ho hX hv fun w' hw' => ⟨hsize, hclosed, .inl ⟨hll0, hX.trans hw', T, hT.ext hst hw', ?_⟩⟩
          rw [s2, lf_other fun hm2 => ndm i hiq i hm2 rfl]
          exact hr
        · obtain ⟨r1, r2, s1, s2, s3⟩ := lf_split nm hm him hl
          rw [s1] at hw
          obtain ⟨hg, hr⟩ := wpSN_take hE hsel ho r1 r2 T (fun k hk => hap k (s3 k hk).1 (s3 k hk).2) (lf L ql) A (fun k hk => by
            obtain ⟨k1, k2⟩ := List.mem_filter.1 hk
            exact hap k (hqm i him k k1) (by simpa using k2)) hw
          refine GenY.wpOp ho hX hg fun b w' hb1 hb2 hS hw' => ⟨hsize, hclosed, .inl ⟨hll0, hX.trans hw', (b, i) :: T, ?_, ?_⟩⟩
          · intro y hy
            rcases List.mem_cons.1 hy with rfl | hy
            · exact ⟨hS, hb2⟩
            · exact (hT.ext hst hw') y hy
          · rw [s2, lf_other fun hm2 => ndm i hm2 i him rfl]
            exact hr b (Nat.le_trans (Below.size hX) hb1) fun y hy => Nat.ne_of_lt (Nat.lt_of_lt_of_le (hT y hy).2 hb1)
      · have hall : ∀ k ∈ ql ++ ml, L.getD k false = true := fun k hk => hwt k (hl1 i hil2 k hk)
        rw [lf_nil (l := ql) fun k hk => by rw [← hfl k (hin k (by simp [hk]))]; exact hall k (by simp [hk]), lf_nil (l := ml) fun k hk => by rw [← hfl k (hin k (by simp [hk]))]; exact hall k (by simp [hk])] at hw
        have hw2 : wpList P ops Q lops A X := hw X hX hT
        cases hll' : ll with
        | nil => rw [hll'] at hil2; cases hil2
        | cons j l2 =>
          have hij : i = j := by
            rw [hll'] at hil2 hl2
            rcases List.mem_cons.1 hil2 with rfl | h2
            · rfl
            · have := hwt j ((List.pairwise_cons.1 hl2).1 i h2)
              rw [w2 j (by rw [hll']; exact List.mem_cons_self)] at this
              cases this
          subst hij
          rw [hll'] at hll nl
          cases lops with
          | nil => simp at hll
          | cons o' lo2 =>
            simp only [List.map_cons, List.cons.injEq] at hll
            rw [ho] at hll
            obtain ⟨ho', hrest⟩ := hll
            injection ho' with ho'
            subst ho'
            refine wpOp_of_list ho hw2 fun a' w' hh => ⟨hsize, hclosed, .inr ⟨fun k hk => ?_, [i], l2, lo2, rfl, fun k hk => ?_, fun k hk => ?_, hrest, hh⟩⟩
            · rw [keep k _ (fun e => lq i (by rw [hll']; exact List.mem_cons_self) (e ▸ hk))]; exact hall k hk
            · obtain rfl : k = i := by simpa using hk
              exact getD_same hiL
            · rw [keep k _ (fun e => (List.nodup_cons.1 nl).1 (e ▸ hk))]
              exact w2 k (by rw [hll']; exact List.mem_cons_of_mem _ hk)
    · rcases List.mem_append.1 hcov with hiq | hil2
      · rw [w2 i hiq] at hlf; cases hlf
      · have hi2 : i ∈ l2 := by
          rw [e1] at hil2
          rcases List.mem_append.1 hil2 with h2 | h2
          · rw [e2 i h2] at hlf; cases hlf
          · exact h2
        cases l2 with
        | nil => cases hi2
        | cons j l3 =>
          have hl2' := hl2
          have nl' := nl
          rw [e1] at hl2' nl'
          have hij : i = j := by
            rcases List.mem_cons.1 hi2 with rfl | h2
            · rfl
            · have := hwt j ((List.pairwise_cons.1 (List.pairwise_append.1 hl2').2.1).1 i h2)
              rw [e3 j List.mem_cons_self] at this
              cases this
          subst hij
          cases lo2 with
          | nil => simp at e4
          | cons o' lo3 =>
            simp only [List.map_cons, List.cons.injEq] at e4
            rw [ho] at e4
            obtain ⟨ho', hrest⟩ := e4
            injection ho' with ho'
            subst ho'
            obtain ⟨_, nl2, nl3⟩ := List.nodup_append.1 nl'
            refine wpOp_of_list ho hw fun a' w' hh => ⟨hsize, hclosed, .inr ⟨fun k hk => ?_, l1 ++ [i], l3, lo3, by rw [e1]; simp, fun k hk => ?_, fun k hk => ?_, hrest, hh⟩⟩
            · rw [keep k _ (fun e => lq i hil2 (e ▸ hk))]; exact w2 k hk
            · rcases List.mem_append.1 hk with h2 | h2
              · rw [keep k _ (fun e => nl3 k h2 i List.mem_cons_self e.symm)]; exact e2 k h2
              · obtain rfl : k = i := by simpa using h2
                exact getD_same hiL
            · rw [keep k _ (fun e => (List.nodup_cons.1 nl2).1 (e ▸ hk))]
              exact e3 k (List.mem_cons_of_mem _ hk)
  case he =>
    intro L A X hI hr
    have hall : ∀ n k, k < n → k < ops.size → L.getD k false = true := by
      intro n
      induction n with
      | zero => intro k hk; omega
      | succ n ih =>
        intro k hk hkn
        cases hv : L.getD k false with
        | true => rfl
        | false =>
          exfalso
          have ho : ops[k]? = some ops[k] := Array.getElem?_eq_getElem hkn
          have hmem : k ∈ Region.ready .any ops L := mem_ready.2 ⟨by rw [← getD_flip' (by rw [hI.size]; omega)]; exact hv, ops[k], ho, fun e he hbe => ih e.on (by have := htx k _ ho e he hbe; omega) (by have := htx k _ ho e he hbe; omega)⟩
          rw [hr] at hmem
          cases hmem
    have hk : ∀ k, k < ops.size → L.getD k false = true := fun k hk => hall (k + 1) k (by omega) hk
    rcases hI.way with ⟨w2, hX, T, hT, hw⟩ | ⟨w2, l1, l2, lo2, e1, e2, e3, e4, hw⟩
    · rw [lf_nil (l := ql) fun k hk2 => by rw [← getD_flip' (by rw [hI.size]; exact hin k (by simp [hk2]))]; exact hk k (hin k (by simp [hk2])), lf_nil (l := ml) fun k hk2 => by rw [← getD_flip' (by rw [hI.size]; exact hin k (by simp [hk2]))]; exact hk k (hin k (by simp [hk2]))] at hw
      have hw2 : wpList P ops Q lops A X := hw X hX hT
      cases hll' : ll with
      | nil =>
        rw [hll'] at hll
        have : lops = [] := by cases lops with | nil => rfl | cons _ _ => simp at hll
        rw [this] at hw2
        exact hw2
      | cons j l2 =>
        have := w2 j (by rw [hll']; exact List.mem_cons_self)
        rw [hk j (hin j (by rw [hll']; simp))] at this
        cases this
    · cases l2 with
      | nil =>
        have : lo2 = [] := by cases lo2 with | nil => rfl | cons _ _ => simp at e4
        rw [this] at hw
        exact hw
      | cons j l3 =>
        have := e3 j List.mem_cons_self
        rw [hk j (hin j (by rw [e1]; simp))] at this
        cases this
end
end Go.Proofs.YtfpfgbhdehbggaaGreatDoor
namespace Go.Proofs.YtfpfgbhdehbggaaGreatDoor
set_option maxRecDepth 20000
open Go.RowKit Go.BigFrame
def dv (c1 c2 : Nat) (j : Nat) : Value := if j = 0 then .pointer (some ⟨c1, 0, none⟩) else .pointer (some ⟨c2, 0, none⟩)
theorem zeroD (w : World) : Sem.run Tryz.prog (zeroValue 121) w = .ok (.agg (row 2 (fun _ => .pointer none)).toArray) w := by kernel_rfl
theorem infoD : (Tryz.prog.info? 121).map (·.size) = some 2 := by kernel_rfl
theorem bldD (b1 b2 : Nat) (X : World) : (Instr.build 121 #[(0, .pointer (some ⟨b1, 0, none⟩)), (1, .pointer (some ⟨b2, 0, none⟩))]).run Tryz.prog X = .ok (.agg (row 2 (dv b1 b2)).toArray) X := by kernel_rfl
theorem dv_one (c1 c2 j : Nat) : (dv c1 c2 j).oneCell' = true := by unfold dv; split <;> rfl
def spB (R : Nat → BitVec 8) (i : Nat) : Sp := ⟨fun b => .pointer (some ⟨b, 0, none⟩), fun b w => HashOf b (maskF R (if i = 1 then 54#8 else 92#8)) 64 w⟩
set_option maxRecDepth 20000 in
set_option maxHeartbeats 1000000 in
theorem begin_any (v : Value) (l : Nat) (key : Nat → BitVec 8) (w : World) (h : BV v l key w) (hC : TabC w) (hl : l ≤ 140737488351232) :
    Calls Tryz.prog 69 #[v] w fun e w' => ∃ c1 c2, c1 ≠ c2 ∧ w.heap.size ≤ c1 ∧ w.heap.size ≤ c2 ∧ e = .returned (.agg (row 2 (dv c1 c2)).toArray) ∧ HashOf c1 (maskF (readyF l key) 54#8) 64 w' ∧ HashOf c2 (maskF (readyF l key) 92#8) 64 w' ∧ Ext w w' := by
  have hz := zeroD
  have hz2 := zero29
  have HR0 := hideit (RowAt.new w 2 (fun _ => Value.pointer none) 121)
  have HE0 : Ext w (w.alloc (.cells (row 2 (fun _ => Value.pointer none)).toArray 121)) := (Below.refl _ _).alloc (Nat.le_refl _) _
  have hr := hideit (ready_any v l key _ (h.ext HE0) (hC.ext HE0) hl)
  replace HE0 := hideit HE0
  replace hC := hideit hC
  clear h
  obtain ⟨R, hR⟩ : ∃ R, R = readyF l key := ⟨_, rfl⟩
  rw [← hR] at hr ⊢
  clear hR
  go_enter Tryz.func69, Tryz.ntmps69
  go_upto_region 1 with (fail)
  generalize w.alloc (.cells (row 2 (fun _ => Value.pointer none)).toArray 121) = w1 at *
  refine wp_region_lit ?_
  refine wpList_run rfl v (by simp [go_sem]) ?_
  simp only [zp0, zp1, zp2, zp3]
  refine wpList_call rfl (by simp [go_sem]) (hr.out.mono ?_)
  rintro e w3 ⟨rfl, hw3⟩
  refine ⟨_, rfl, ?_⟩
  simp only [zp0, zp1, zp2, zp3]
  have HQ3 := hideit (HR0.out.carry hw3)
  have HE3 := hideit (Ext.trans HE0.out hw3)
  clear hr hw3 HR0 HE0
  have HN := hideit (RowAt.new w3 64 (yv fun _ => 0#8) 26)
  have hE4 : Ext w3 (w3.alloc (.cells (row 64 (yv fun _ => 0#8)).toArray 26)) := (Below.refl _ _).alloc (Nat.le_refl _) _
  have HQ4 := hideit (HQ3.out.carry hE4)
  have HE4 := hideit (Ext.trans HE3.out hE4)
  have hlt : w.heap.size < w3.heap.size := HQ3.out.2.2
  clear hE4 HE3 HQ3
  refine wpList_to rfl (.pointer (some ⟨w3.heap.size, 0, none⟩)) (w3.alloc (.cells (row 64 (yv fun _ => 0#8)).toArray 26)) (by simp [go_sem, hz2]) ?_
  simp only [zp0, zp1, zp2, zp3]
  refine wpList_store_mid rfl 26 (.tmp 3) (.tmp 5) rfl _ 0 (row 64 (yv R)).toArray rfl rfl (by rw [row_size]; exact HN.out.there) (by rw [row_size]; exact info29) (row_one fun _ _ => rfl) ?_
  have HN2 := hideit (HN.out.cells (g' := yv R))
  have HQ5 := hideit (HQ4.out.cellsOther (c := w3.heap.size) (by omega) (row 64 (yv R)) 0)
  have HE5 := hideit (below_setCells w3.heap.size (by omega) (row 64 (yv R)) 0 _ HE4.out)
  generalize ((w3.alloc (.cells (row 64 (yv fun _ => 0#8)).toArray 26)).setCells w3.heap.size 0 (row 64 (yv R))) = w5 at *
  clear HN HQ4 HE4
  simp only [Act.put]
  go_upto_region 2 with (fail)
  have hne := kept_ne w5.drew
  refine wp_region_two (spB R) (fun i b w w' hh hk => RowAt.carry hh hk) [0, 2] [1, 3] [4, 5] [_, _] [_, _] (by kernel_rfl) (by kernel_rfl) rfl rfl (by decide +kernel) (by decide +kernel) (by decide +kernel) (by decide +kernel) (by decide +kernel) (by decide +kernel) (by decide +kernel) (by decide +kernel) ?_
  simp only [List.getElem_toArray, List.getElem_cons_zero, List.getElem_cons_succ]
  refine wpStrong_run 2 rfl ?_
  simp only [List.take_succ_cons, List.take_zero, List.drop_succ_cons, List.drop_zero]
  go_big_quiet_want
  refine loadQ 26 (.tmp 3) w3.heap.size 0 64 (yv R) rfl rfl (fun w' hw' => (RowAt.carry (RowAt.drew HN2.out) hw').range) Tryz.underlying26 rfl info29 ?_
  simp only [zp0, zp1, zp2, zp3]
  go_big_quiet_on
  go_big_quiet_want
  refine loadQ 26 (.tmp 3) w3.heap.size 0 64 (yv R) rfl rfl (fun w' hw' => (RowAt.carry (RowAt.drew HN2.out) hw').range) Tryz.underlying26 rfl info29 ?_
  simp only [zp0, zp1, zp2, zp3]
  go_big_quiet_on
  refine wpQuiet_nil ?_
  refine wpStrong_nil ?_
  have hE5 : Ext w w5.drew := HE5.out.drew
  refine ⟨_, rfl, GenY.call rfl (fun X => by simp [go_sem]) (fun X hX => (beginWith_any R 54#8 X (hC.out.ext (Ext.trans hE5 hX))).mono ?_), fun b1 hb1 _ => ?_⟩
  · rintro e w' ⟨c, k1, rfl, k2, k3⟩
    exact ⟨c, k1, k2.2.2, rfl, k2, k3⟩
  simp only [zp4, zp5, zp6, zp0, zp1, zp2, zp3]
  refine ⟨_, rfl, GenY.call rfl (fun X => by simp [go_sem]) (fun X hX => (beginWith_any R 92#8 X (hC.out.ext (Ext.trans hE5 hX))).mono ?_), fun b2 hb2 hn => ?_⟩
  · rintro e w' ⟨c, k1, rfl, k2, k3⟩
    exact ⟨c, k1, k2.2.2, rfl, k2, k3⟩
  simp only [zp4, zp5, zp6, zp0, zp1, zp2, zp3]
  intro w6 hw6 hH
  have H1 : Hid (HashOf b1 (maskF R 54#8) 64 w6) := (hH (b1, 1) (by simp)).1
  have H2 : Hid (HashOf b2 (maskF R 92#8) 64 w6) := (hH (b2, 3) (by simp)).1
  have hbb : b1 ≠ b2 := hn (b1, 1) (by simp)
  have hb1' : w.heap.size < b1 := Nat.lt_of_lt_of_le HQ5.out.2.2 hb1
  have hb2' : w.heap.size < b2 := Nat.lt_of_lt_of_le HQ5.out.2.2 hb2
  have HQ6 := hideit ((RowAt.drew HQ5.out).carry hw6)
  have HE6 := hideit (Ext.trans hE5 hw6)
  clear hH hn hw6 hE5 HE5 HQ5 HN2 hne hb1 hb2
  refine wpList_build rfl 121 [(0, .tmp 7), (1, .tmp 9)] rfl _ (bldD b1 b2 _) ?_
  simp only [zp0, zp1, zp2, zp3]
  refine wpList_store_mid rfl 121 (.tmp 2) (.tmp 10) rfl w.heap.size 0 (row 2 (dv b1 b2)).toArray rfl rfl (by rw [row_size]; exact HQ6.out.there) (by rw [row_size]; exact infoD) (row_one fun j _ => dv_one _ _ j) ?_
  go_wp2
  exact bodyPost_ret (ret_row Tryz.results69 rfl (HQ6.out.cells (g' := dv b1 b2)) Tryz.underlying121 rfl infoD) rfl ⟨b1, b2, hbb, by omega, by omega, rfl, RowAt.cellsOther H1.out (by omega) _ _, RowAt.cellsOther H2.out (by omega) _ _, below_setCells _ (Nat.le_refl _) _ _ _ HE6.out⟩
def spF (m1 m2 : Nat → BitVec 8) (n1 n2 : Nat) (i : Nat) : Sp := ⟨fun b => .pointer (some ⟨b, 0, none⟩), fun b w => if i = 2 then HashOf b m1 n1 w else HashOf b m2 n2 w⟩
set_option maxRecDepth 20000 in
set_option maxHeartbeats 1000000 in
theorem forkD_any (c1 c2 n1 n2 : Nat) (m1 m2 : Nat → BitVec 8) (w : World) (h1 : HashOf c1 m1 n1 w) (h2 : HashOf c2 m2 n2 w) :
    Calls Tryz.prog 88 #[.agg (row 2 (dv c1 c2)).toArray] w fun e w' => ∃ d1 d2, d1 ≠ d2 ∧ w.heap.size ≤ d1 ∧ w.heap.size ≤ d2 ∧ e = .returned (.agg (row 2 (dv d1 d2)).toArray) ∧ HashOf d1 m1 n1 w' ∧ HashOf d2 m2 n2 w' ∧ Ext w w' := by
  have hz := zeroD
  have HA := hideit (RowAt.new w 2 (dv c1 c2) 121)
  have HE1 : Ext w (w.alloc (.cells (row 2 (dv c1 c2)).toArray 121)) := (Below.refl _ _).alloc (Nat.le_refl _) _
  have HQ := hideit (RowAt.new (w.alloc (.cells (row 2 (dv c1 c2)).toArray 121)) 2 (fun _ => Value.pointer none) 121)
  have hE2 : Ext (w.alloc (.cells (row 2 (dv c1 c2)).toArray 121)) ((w.alloc (.cells (row 2 (dv c1 c2)).toArray 121)).alloc (.cells (row 2 (fun _ => Value.pointer none)).toArray 121)) := (Below.refl _ _).alloc (Nat.le_refl _) _
  have HA2 := hideit (HA.out.carry hE2)
  have HE2 := hideit (Ext.trans HE1 hE2)
  have hsz : (w.alloc (.cells (row 2 (dv c1 c2)).toArray 121)).heap.size = w.heap.size + 1 := by simp
  rw [hsz] at HQ
  replace h1 := hideit h1
  replace h2 := hideit h2
  clear HA HE1 hE2 hsz
  go_enter Tryz.func88, Tryz.ntmps88
  go_upto_region 1 with (fail)
  generalize (w.alloc (.cells (row 2 (dv c1 c2)).toArray 121)).alloc (.cells (row 2 (fun _ => Value.pointer none)).toArray 121) = w5 at *
  have hne := kept_ne w5.drew
  have ea : ∀ k : Kept (Ext w5.drew), k.w.cell? ⟨w.heap.size, 0, none⟩ = some (.pointer (some ⟨c1, 0, none⟩)) := fun k => HA2.out.kept 0 (by omega) k
  have eb : ∀ k : Kept (Ext w5.drew), k.w.cell? ⟨w.heap.size, 1, none⟩ = some (.pointer (some ⟨c2, 0, none⟩)) := fun k => HA2.out.kept 1 (by omega) k
  refine wp_region_two (spF m1 m2 n1 n2) (fun i b w w' hh hk => by
    by_cases hi : i = 2
    · simp only [spF, if_pos hi] at hh ⊢; exact RowAt.carry hh hk
    · simp only [spF, if_neg hi] at hh ⊢; exact RowAt.carry hh hk) [0, 1, 3, 4] [2, 5] [6, 7] [_, _, _, _] [_, _] (by kernel_rfl) (by kernel_rfl) rfl rfl (by decide +kernel) (by decide +kernel) (by decide +kernel) (by decide +kernel) (by decide +kernel) (by decide +kernel) (by decide +kernel) (by decide +kernel) ?_
  simp only [List.getElem_toArray, List.getElem_cons_zero, List.getElem_cons_succ]
  refine wpStrong_run 4 rfl ?_
  simp only [List.take_succ_cons, List.take_zero, List.drop_succ_cons, List.drop_zero]
  repeat (go_big_quiet_step (fail))
  refine wpQuiet_nil ?_
  refine wpStrong_nil ?_
  have hE5 : Ext w w5.drew := HE2.out.drew
  refine ⟨_, rfl, GenY.call rfl (fun X => by simp [go_sem]) (fun X hX => (fork_any c1 n1 _ _ X (RowAt.carry h1.out (Ext.trans hE5 hX))).mono ?_), fun b1 hb1 _ => ?_⟩
  · rintro e w' ⟨c, k1, rfl, k2, k3⟩
    exact ⟨c, k1, k2.2.2, rfl, k2, k3⟩
  simp only [zp4, zp5, zp6, zp0, zp1, zp2, zp3]
  refine ⟨_, rfl, GenY.call rfl (fun X => by simp [go_sem]) (fun X hX => (fork_any c2 n2 _ _ X (RowAt.carry h2.out (Ext.trans hE5 hX))).mono ?_), fun b2 hb2 hn => ?_⟩
  · rintro e w' ⟨c, k1, rfl, k2, k3⟩
    exact ⟨c, k1, k2.2.2, rfl, k2, k3⟩
  simp only [zp4, zp5, zp6, zp0, zp1, zp2, zp3]
  intro w6 hw6 hH
  have H1 : Hid (HashOf b1 m1 n1 w6) := (hH (b1, 2) (by simp)).1
  have H2 : Hid (HashOf b2 m2 n2 w6) := (hH (b2, 5) (by simp)).1
  have hbb : b1 ≠ b2 := hn (b1, 2) (by simp)
  have hb1' : w.heap.size + 1 < b1 := Nat.lt_of_lt_of_le HQ.out.2.2 hb1
  have hb2' : w.heap.size + 1 < b2 := Nat.lt_of_lt_of_le HQ.out.2.2 hb2
  have HQ6 := hideit ((RowAt.drew HQ.out).carry hw6)
  have HE6 := hideit (Ext.trans hE5 hw6)
  clear hH hn hw6 hE5 HE2 HQ HA2 hne hb1 hb2 ea eb
  refine wpList_build rfl 121 [(0, .tmp 5), (1, .tmp 8)] rfl _ (bldD b1 b2 _) ?_
  simp only [zp0, zp1, zp2, zp3]
  refine wpList_store_mid rfl 121 (.tmp 2) (.tmp 9) rfl (w.heap.size + 1) 0 (row 2 (dv b1 b2)).toArray rfl rfl (by rw [row_size]; exact HQ6.out.there) (by rw [row_size]; exact infoD) (row_one fun j _ => dv_one _ _ j) ?_
  go_wp2
  exact bodyPost_ret (ret_row Tryz.results88 rfl (HQ6.out.cells (g' := dv b1 b2)) Tryz.underlying121 rfl infoD) rfl ⟨b1, b2, hbb, by omega, by omega, rfl, RowAt.cellsOther H1.out (by omega) _ _, RowAt.cellsOther H2.out (by omega) _ _, below_setCells _ (by omega) _ _ _ HE6.out⟩
end Go.Proofs.YtfpfgbhdehbggaaGreatDoor
namespace Go.Proofs.YtfpfgbhdehbggaaGreatDoor
set_option maxRecDepth 20000
open Go.RowKit Go.BigFrame
def sumL (ls : Nat → Nat) : Nat → Nat
  | 0 => 0
  | n + 1 => sumL ls n + ls n
theorem sumL_mono (ls : Nat → Nat) (i n : Nat) (h : i ≤ n) : sumL ls i ≤ sumL ls n := by
  induction n with
  | zero =>
    obtain rfl : i = 0 := by omega
    exact Nat.le_refl _
  | succ n ih =>
    rcases Nat.lt_or_ge n i with h1 | h1
    · obtain rfl : i = n + 1 := by omega
      exact Nat.le_refl _
    · have := ih h1
      simp only [sumL]
      omega
def joinF (m : Nat → BitVec 8) (n : Nat) (ls : Nat → Nat) (bs : Nat → Nat → BitVec 8) : Nat → Nat → BitVec 8
  | 0 => m
  | i + 1 => catF (joinF m n ls bs i) (n + sumL ls i) (bs i)
def Parts (v : Value) (n : Nat) (us : Nat → Value) (ls : Nat → Nat) (bs : Nat → Nat → BitVec 8) (w : World) : Prop :=
  ((v = .slice none 0 0 ∧ n = 0) ∨ ∃ a cap, v = .slice (some a) n cap ∧ n ≤ cap ∧ LieAt a n us w) ∧ ∀ i, i < n → BV (us i) (ls i) (bs i) w
theorem Parts.ext {v : Value} {n : Nat} {us : Nat → Value} {ls : Nat → Nat} {bs : Nat → Nat → BitVec 8} {w X : World} (h : Parts v n us ls bs w) (k : Ext w X) : Parts v n us ls bs X := by
  refine ⟨?_, fun i hi => (h.2 i hi).ext k⟩
  rcases h.1 with h1 | ⟨a, cap, h1, h2, h3⟩
  · exact .inl h1
  · exact .inr ⟨a, cap, h1, h2, h3.carry k⟩
theorem writeV (c n l : Nat) (m b : Nat → BitVec 8) (u : Value) (W w : World) (hW : BV u l b W) (hE : Ext W w) (h : HashOf c m n w) (hC : TabC w) (hc : W.heap.size ≤ c) (hc0 : c ≠ 0) (hN : n + l < 4611686018427387904) :
    Calls Tryz.prog 89 #[.pointer (some ⟨c, 0, none⟩), u] w fun e w' => e = .returned (.tuple #[]) ∧ HashOf c (catF m n b) (n + l) w' ∧ But c w w' := by
  rcases hW with ⟨rfl, h0⟩ | ⟨a, cap, rfl, h2, h3⟩
  · refine (write_none c w).mono fun e w' hh => ⟨hh.1, ?_⟩
    obtain ⟨_, rfl⟩ := hh
    subst h0
    exact ⟨h.congr fun j hj => by unfold catF; rw [if_pos hj], But.refl _ _⟩
  · have h4 := h3.carry hE
    have := h3.2
    exact write_any c n l cap m b a w h hC h4 h2 (by omega) hc0 hN
structure TS (w : World) (d1 d2 b5 : Nat) (m1 : Nat → BitVec 8) (n1 : Nat) (m2 : Nat → BitVec 8) (n2 : Nat) (X : World) : Prop where
  ext : Ext w X
  res : RowAt (w.heap.size + 1) 32 (yv fun _ => 0#8) X
  pair : RowAt b5 2 (dv d1 d2) X
  inner : HashOf d1 m1 n1 X
  outer : HashOf d2 m2 n2 X
theorem TS.carry {w : World} {d1 d2 b5 : Nat} {m1 m2 : Nat → BitVec 8} {n1 n2 : Nat} {X Y : World} (h : TS w d1 d2 b5 m1 n1 m2 n2 X) (k : Ext X Y) : TS w d1 d2 b5 m1 n1 m2 n2 Y :=
  ⟨Ext.trans h.ext k, h.res.carry k, h.pair.carry k, RowAt.carry h.inner k, RowAt.carry h.outer k⟩
set_option maxRecDepth 20000 in
set_option maxHeartbeats 2000000 in
theorem tag_any (c1 c2 n1 n2 k : Nat) (m1 m2 : Nat → BitVec 8) (v : Value) (us : Nat → Value) (ls : Nat → Nat) (bs : Nat → Nat → BitVec 8) (w : World) (h1 : HashOf c1 m1 n1 w) (h2 : HashOf c2 m2 n2 w) (hP : Parts v k us ls bs w) (hC : TabC w) (hk : k ≤ 140737488351232) (hN1 : n1 + sumL ls k < 1152921504606846976) (hN2 : n2 + 32 < 1152921504606846976) :
    Calls Tryz.prog 70 #[.agg (row 2 (dv c1 c2)).toArray, v] w fun e w' => e = .returned (.agg (row 32 (yv (shaF (catF m2 n2 (shaF (joinF m1 n1 ls bs k) (n1 + sumL ls k))) (n2 + 32)))).toArray) ∧ Below w.heap.size w w' := by
  obtain ⟨ov, cap, rfl⟩ : ∃ ov cap, v = .slice ov k cap := by
    rcases hP.1 with ⟨h, h0⟩ | ⟨a, cap, h, _⟩
    · exact ⟨none, 0, by rw [h, h0]⟩
    · exact ⟨_, cap, h⟩
  obtain ⟨R, hR⟩ : ∃ R, R = shaF (catF m2 n2 (shaF (joinF m1 n1 ls bs k) (n1 + sumL ls k))) (n2 + 32) := ⟨_, rfl⟩
  rw [← hR]
  replace hR := hideit hR
  have hz := zeroD
  have hz2 := zero24
  have c23 := cutR23
  have HA := hideit (RowAt.new w 2 (dv c1 c2) 121)
  have HE1 : Ext w (w.alloc (.cells (row 2 (dv c1 c2)).toArray 121)) := (Below.refl _ _).alloc (Nat.le_refl _) _
  have HQ := hideit (RowAt.new (w.alloc (.cells (row 2 (dv c1 c2)).toArray 121)) 32 (yv fun _ => 0#8) 22)
  have hE2 : Ext (w.alloc (.cells (row 2 (dv c1 c2)).toArray 121)) ((w.alloc (.cells (row 2 (dv c1 c2)).toArray 121)).alloc (.cells (row 32 (yv fun _ => 0#8)).toArray 22)) := (Below.refl _ _).alloc (Nat.le_refl _) _
  have HA2 := hideit (HA.out.carry hE2)
  have HE2 := hideit (Ext.trans HE1 hE2)
  have hsz : (w.alloc (.cells (row 2 (dv c1 c2)).toArray 121)).heap.size = w.heap.size + 1 := by simp
  rw [hsz] at HQ
  have hfk := hideit (forkD_any c1 c2 n1 n2 m1 m2 _ (RowAt.carry h1 HE2.out) (RowAt.carry h2 HE2.out))
  replace hC := hideit hC
  replace hP := hideit hP
  clear HA HE1 hE2 hsz h1 h2
  replace hN1 := hideit hN1
  go_enter Tryz.func70, Tryz.ntmps70
  go_upto_region 1 with (fail)
  generalize (w.alloc (.cells (row 2 (dv c1 c2)).toArray 121)).alloc (.cells (row 32 (yv fun _ => 0#8)).toArray 22) = w1 at *
  refine wp_region_lit ?_
  refine wpList_load_mid rfl 121 (.tmp 2) rfl _ 0 rfl (row 2 (dv c1 c2)) _ HA2.out.range Tryz.underlying121 rfl (by rw [row_length]; exact infoD) ?_
  simp only [zp0, zp1, zp2, zp3]
  refine wpList_call rfl (by simp [go_sem]) (hfk.out.mono ?_)
  rintro e w2 ⟨d1, d2, hdd, hd1, hd2, rfl, hH1, hH2, hw2⟩
  refine ⟨_, rfl, ?_⟩
  simp only [zp0, zp1, zp2, zp3]
  have hl1 : w.heap.size + 1 < w1.heap.size := HQ.out.2.2
  have hd1' : d1 < w2.heap.size := hH1.2.2
  have hd2' : d2 < w2.heap.size := hH2.2.2
  have HN := hideit (RowAt.new w2 2 (fun _ => Value.pointer none) 121)
  have hE4 : Ext w2 (w2.alloc (.cells (row 2 (fun _ => Value.pointer none)).toArray 121)) := (Below.refl _ _).alloc (Nat.le_refl _) _
  refine wpList_to rfl (.pointer (some ⟨w2.heap.size, 0, none⟩)) (w2.alloc (.cells (row 2 (fun _ => Value.pointer none)).toArray 121)) (by simp [go_sem, hz]) ?_
  simp only [zp0, zp1, zp2, zp3]
  refine wpList_store_mid rfl 121 (.tmp 5) (.tmp 10) rfl _ 0 (row 2 (dv d1 d2)).toArray rfl rfl (by rw [row_size]; exact HN.out.there) (by rw [row_size]; exact infoD) (row_one fun j _ => dv_one _ _ j) ?_
  have HT0 : TS w d1 d2 w2.heap.size (joinF m1 n1 ls bs 0) (n1 + sumL ls 0) m2 n2 ((w2.alloc (.cells (row 2 (fun _ => Value.pointer none)).toArray 121)).setCells w2.heap.size 0 (row 2 (dv d1 d2))) :=
    ⟨below_setCells w2.heap.size (by omega) _ _ _ (Ext.trans HE2.out (Ext.trans hw2 hE4)), ((HQ.out.carry hw2).carry hE4).cellsOther (by omega) _ _, HN.out.cells, RowAt.cellsOther (RowAt.carry hH1 hE4) (by omega) _ _, RowAt.cellsOther (RowAt.carry hH2 hE4) (by omega) _ _⟩
  replace HT0 := hideit HT0
  generalize ((w2.alloc (.cells (row 2 (fun _ => Value.pointer none)).toArray 121)).setCells w2.heap.size 0 (row 2 (dv d1 d2))) = w5 at *
  generalize w2.heap.size = b5 at *
  clear hfk hw2 hH1 hH2 hE4 HN HA2 HE2 HQ
  have hs1 : w.heap.size ≤ d1 := by omega
  have hs2 : w.heap.size ≤ d2 := by omega
  have hs3 : w.heap.size + 1 ≠ d1 := by omega
  have hs4 : w.heap.size + 1 ≠ d2 := by omega
  have hs5 : b5 ≠ d1 := by omega
  have hs6 : b5 ≠ d2 := by omega
  have hs7 : w.heap.size + 1 ≠ b5 := by omega
  have hs8 : w.heap.size ≤ b5 := by omega
  have hs0 : d1 ≠ 0 := by have := hC.out.2; omega
  have hs9 : d2 ≠ 0 := by have := hC.out.2; omega
  clear hd1 hd2 hd1' hd2' hl1
  simp only [Act.put]
  go_wp2
  go_loopw [13] (fun iv wr => ∃ i : Nat, i ≤ k ∧ iv = .int .i64 (i : Int) ∧ TS w d1 d2 b5 (joinF m1 n1 ls bs i) (n1 + sumL ls i) m2 n2 wr) (fun iv _ => k - (intOf iv).toNat)
  case atStart => exact ⟨0, by omega, rfl, HT0.out⟩
  case round =>
    clear HT0
    obtain ⟨i, hi, rfl, hT⟩ := hrel
    have HT := hideit hT
    clear hT
    by_cases hlt : i < k
    · have i0 : (0 : Int) ≤ (i : Int) := by omega
      have i1 : (i : Int) < (k : Int) := by omega
      obtain ⟨a, rfl, hcell⟩ : ∃ a, ov = some a ∧ wr.cell? (a.add i) = some (us i) := by
        rcases hP.out.1 with ⟨h, h0⟩ | ⟨a, cap', h, _, h3⟩
        · omega
        · injection h with e1 e2 e3
          exact ⟨a, e1, (h3.carry HT.out.ext).1 i hlt⟩
      have hT1 := hideit (sumL_mono ls (i + 1) k (by omega))
      have hwp := hideit (writeV d1 (n1 + sumL ls i) (ls i) (joinF m1 n1 ls bs i) (bs i) (us i) w wr (hP.out.2 i hlt) HT.out.ext HT.out.inner (hC.out.ext HT.out.ext) hs1 hs0 (by have := hT1.out; have := hN1.out; simp only [sumL] at *; omega))
      have e5 := HT.out.pair.1 0 (by omega)
      simp only [dv, if_true] at e5
      go_upto_region 6 with (go_at_call 89; refine hwp.out.mono ?_; rintro e w7 ⟨rfl, h7, hB7⟩; have HT7 : TS w d1 d2 b5 (joinF m1 n1 ls bs (i + 1)) (n1 + sumL ls (i + 1)) m2 n2 w7 := ⟨Ext.but HT.out.ext hB7 hs1, HT.out.res.but hB7 hs3, HT.out.pair.but hB7 hs5, by rw [show n1 + sumL ls (i + 1) = n1 + sumL ls i + ls i by simp only [sumL]; omega]; exact h7, RowAt.but HT.out.outer hB7 (Ne.symm hdd)⟩; replace HT7 := hideit HT7; clear h7 hB7 HT hwp)
      go_wp2
      exact ⟨⟨i + 1, by omega, by go_num, HT7.out⟩, by simp [intOf]; omega⟩
    · obtain rfl : i = k := by omega
      have i1 : ¬ (i : Int) < (i : Int) := by omega
      obtain ⟨L, hL⟩ : ∃ L, L = n1 + sumL ls i := ⟨_, rfl⟩
      obtain ⟨M, hM⟩ : ∃ M, M = joinF m1 n1 ls bs i := ⟨_, rfl⟩
      obtain ⟨D, hD⟩ : ∃ D, D = shaF M L := ⟨_, rfl⟩
      rw [← hL, ← hM, ← hD] at hR
      rw [← hL] at hN1
      rw [← hL, ← hM] at HT
      have hsm := sum_any d1 L M wr HT.out.inner (hC.out.ext HT.out.ext) hN1.out
      rw [← hD] at hsm
      replace hsm := hideit hsm
      clear hL hM hD
      have e5 := HT.out.pair.1 0 (by omega)
      simp only [dv, if_true] at e5
      go_upto_region 7 with (fail)
      refine wp_region_lit ?_
      refine wpList_run rfl (.pointer (some ⟨b5, 0, none⟩)) (by simp [go_sem]) ?_
      simp only [zp0, zp1, zp2, zp3]
      refine wpList_run rfl (.pointer (some ⟨d1, 0, none⟩)) (by simp [go_sem, e5]) ?_
      simp only [zp0, zp1, zp2, zp3]
      refine wpList_call rfl (by simp [go_sem]) (hsm.out.mono ?_)
      rintro e w6 ⟨rfl, hw6⟩
      refine ⟨_, rfl, ?_⟩
      simp only [zp0, zp1, zp2, zp3]
      have HT6 := hideit (HT.out.carry hw6)
      clear HT hsm hw6 e5
      have HN := hideit (RowAt.new w6 32 (yv fun _ => 0#8) 22)
      have hE7 : Ext w6 (w6.alloc (.cells (row 32 (yv fun _ => 0#8)).toArray 22)) := (Below.refl _ _).alloc (Nat.le_refl _) _
      have hb5 : b5 < w6.heap.size := HT6.out.pair.2.2
      have hb1 : d1 < w6.heap.size := HT6.out.inner.2.2
      have hb2 : d2 < w6.heap.size := HT6.out.outer.2.2
      have hb3 : w.heap.size + 1 < w6.heap.size := HT6.out.res.2.2
      refine wpList_to rfl (.pointer (some ⟨w6.heap.size, 0, none⟩)) (w6.alloc (.cells (row 32 (yv fun _ => 0#8)).toArray 22)) (by simp [go_sem, hz2]) ?_
      simp only [zp0, zp1, zp2, zp3]
      refine wpList_store_mid rfl 22 (.tmp 8) (.tmp 24) rfl _ 0 (row 32 (yv D)).toArray rfl rfl (by rw [row_size]; exact HN.out.there) (by rw [row_size]; exact info24) (row_one fun _ _ => rfl) ?_
      have HT7 : TS w d1 d2 b5 M L m2 n2 ((w6.alloc (.cells (row 32 (yv fun _ => 0#8)).toArray 22)).setCells w6.heap.size 0 (row 32 (yv D))) := by
        have h7 := HT6.out.carry hE7
        exact ⟨below_setCells w6.heap.size (by omega) _ _ _ h7.ext, h7.res.cellsOther (by omega) _ _, h7.pair.cellsOther (by omega) _ _, RowAt.cellsOther h7.inner (by omega) _ _, RowAt.cellsOther h7.outer (by omega) _ _⟩
      have HD := hideit (HN.out.cells (g' := yv D))
      replace HT7 := hideit HT7
      generalize ((w6.alloc (.cells (row 32 (yv fun _ => 0#8)).toArray 22)).setCells w6.heap.size 0 (row 32 (yv D))) = w7 at *
      generalize w6.heap.size = b8 at *
      clear HN hE7 HT6
      simp only [Act.put]
      go_upto_region 8 with (fail)
      have hne := kept_ne w7.drew
      have e6 : ∀ q : Kept (Ext w7.drew), q.w.cell? ⟨b5, 1, none⟩ = some (.pointer (some ⟨d2, 0, none⟩)) := fun q => HT7.out.pair.kept 1 (by omega) q
      refine wp_region_late 3 (by kernel_rfl) (by kernel_rfl) (by decide) ?_
      simp only [List.take_succ_cons, List.take_zero, List.drop_succ_cons, List.drop_zero]
      refine wpStrong_run 3 rfl ?_
      simp only [List.take_succ_cons, List.take_zero, List.drop_succ_cons, List.drop_zero]
      repeat (go_big_quiet_step (fail))
      refine wpQuiet_nil ?_
      refine wpStrong_nil ?_
      intro X hX
      have HTX := hideit (HT7.out.carry (Ext.trans (Below.refl _ _).drew hX))
      have HDX := hideit (HD.out.carry (Ext.trans (Below.refl _ _).drew hX))
      clear HT7 HD hX hne e6
      have hwo := hideit (write_any d2 n2 32 32 m2 D ⟨b8, 0, none⟩ X HTX.out.outer (hC.out.ext HTX.out.ext) (HDX.out.lie 32 (Nat.le_refl _)) (Nat.le_refl _) (by show b8 ≠ d2; omega) hs9 (by omega))
      refine wpList_call rfl (by simp [go_sem]) (hwo.out.mono ?_)
      rintro e w9 ⟨rfl, h9, hB9⟩
      refine ⟨_, rfl, ?_⟩
      simp only [zp0, zp1, zp2, zp3]
      have HE9 := hideit (Ext.but HTX.out.ext hB9 hs2)
      have HQ9 := hideit (HTX.out.res.but hB9 hs4)
      have HP9 := hideit (HTX.out.pair.but hB9 hs6)
      have hso := hideit (sum_any d2 (n2 + 32) (catF m2 n2 D) w9 h9 (hC.out.ext HE9.out) hN2)
      rw [← hR.out] at hso
      clear hwo HTX HDX h9 hB9
      have e7 := HP9.out.1 1 (by omega)
      simp only [dv] at e7
      go_upto_region 9 with (fail)
      refine wp_region_lit ?_
      refine wpList_run rfl (.pointer (some ⟨b5, 1, none⟩)) (by simp [go_sem]) ?_
      simp only [zp0, zp1, zp2, zp3]
      refine wpList_run rfl (.pointer (some ⟨d2, 0, none⟩)) (by simp [go_sem, e7]) ?_
      simp only [zp0, zp1, zp2, zp3]
      refine wpList_call rfl (by simp [go_sem]) (hso.out.mono ?_)
      rintro e w10 ⟨rfl, hw10⟩
      refine ⟨_, rfl, ?_⟩
      simp only [zp0, zp1, zp2, zp3]
      have HQ10 := hideit (HQ9.out.carry hw10)
      have HE10 := hideit (Ext.trans HE9.out hw10)
      clear hso hw10 HQ9 HE9 HP9 e7
      refine wpList_store_mid rfl 22 (.tmp 4) (.tmp 31) rfl _ 0 (row 32 (yv R)).toArray rfl rfl (by rw [row_size]; exact HQ10.out.there) (by rw [row_size]; exact info24) (row_one fun _ _ => rfl) ?_
      go_wp2
      exact bodyPost_ret (ret_row Tryz.results70 rfl (HQ10.out.cells (g' := yv R)) Tryz.underlying22 rfl info24) rfl ⟨rfl, below_setCells _ (by omega) _ _ _ HE10.out⟩
end Go.Proofs.YtfpfgbhdehbggaaGreatDoor
