/-
  A region that draws its order: pure operations taken first, then quiet ones, late ones behind: one walk serves every order. A stretch of a region that draws its order: operations that only read, makers of memory, operations that rest on what these made, late ones; all that is not of the stretch waits for it. One walk serves every order; then the rest of the region. The document's padded key, its tag.
-/
import Derived.Test.YtfpfgbhdehbggaaGreatDoorQc32
import Derived.Test.YtfpfgbhdehbggaaGreatDoorQc11
import Derived.Test.YtfpfgbhdehbggaaGreatDoorQc1
import Derived.Test.YtfpfgbhdehbggaaGreatDoorQc12
import Derived.Test.YtfpfgbhdehbggaaGreatDoorQc9
import Derived.Test.YtfpfgbhdehbggaaGreatDoorQc14
namespace Go.Proofs.YtfpfgbhdehbggaaGreatDoor
open Go.RowKit
section
variable {P : Program} {ops : Array Oper} {W : World} {Q : Exit → Act → World → Prop}
structure LateAt (P : Program) (ops : Array Oper) (W : World) (Q : Exit → Act → World → Prop) (ql ll : List Nat) (lops : List Oper) (L : Array Bool) (A : Act) (w : World) : Prop where
  size : L.size = ops.size
  closed : Closed ops L
  way : ((∀ i ∈ ll, L.getD i false = false) ∧ Ext W w ∧ wpS P ops W (fun A' => ∀ w', Ext W w' → wpList P ops Q lops A' w') (lf L ql) A) ∨
    ((∀ k ∈ ql, L.getD k false = true) ∧ ∃ l1 l2 lo2, ll = l1 ++ l2 ∧ (∀ k ∈ l1, L.getD k false = true) ∧ (∀ k ∈ l2, L.getD k false = false) ∧ l2.map (ops[·]?) = lo2.map some ∧ wpList P ops Q lo2 A w)
theorem wpAny_lateF {a : Act} {w : World} (L0 : Array Bool) (fuel : Nat) (hfu : L0.toList.count false ≤ fuel) (hz0 : L0.size = ops.size) (hc0 : Closed ops L0) (ql ll : List Nat) (lops : List Oper) (hB : textB ops = true) (hll : ll.map (ops[·]?) = lops.map some)
    (hnd : (ql ++ ll).Nodup) (hcov0 : ∀ i, i < ops.size → L0.getD i false = true ∨ i ∈ ql ++ ll) (hin0 : ∀ i ∈ ql ++ ll, i < ops.size ∧ L0.getD i false = false) (hq : ql.Pairwise (fun k j => edgeB ops k j = true))
    (hl1 : ∀ j ∈ ll, ∀ k ∈ ql, waits ops ops.size j k = true) (hl2 : ll.Pairwise (fun k j => waits ops ops.size j k = true))
    (h : wpS P ops w (fun A' => ∀ w', Ext w w' → wpList P ops Q lops A' w') ql a) : wpAny P .any ops Q fuel L0 a w := by
  obtain ⟨hsel, htx⟩ := textB_spec hB
  obtain ⟨nq, nl, ndis⟩ := List.nodup_append.1 hnd
  have lq : ∀ i ∈ ll, i ∉ ql := fun i hi e => ndis i e i hi rfl
  have hin : ∀ i ∈ ql ++ ll, i < ops.size := fun i hi => (hin0 i hi).1
  refine wpAny_inv (I := fun L A X => LateAt P ops w Q ql ll lops L A X ∧ ∀ k, L0.getD k false = true → L.getD k false = true) ?hs ?he fuel L0 a w hfu ?h0
  case h0 =>
    refine ⟨⟨hz0, hc0, .inl ⟨fun i hi => (hin0 i (by simp [hi])).2, Ext.refl _, ?_⟩⟩, fun _ hk => hk⟩
    rw [lf_all fun k hk => by rw [← getD_flip' (by rw [hz0]; exact hin k (by simp [hk]))]; exact (hin0 k (by simp [hk])).2]
    exact h
  case hs =>
    intro L A X i o hIM ho hl hdeps
    obtain ⟨hI, hM⟩ := hIM
    have hil : i < ops.size := (Array.getElem?_eq_some_iff.1 ho).1
    have hiL : i < L.size := by rw [hI.size]; exact hil
    have hlf := getD_flip hl
    have hsize : (L.setIfInBounds i true).size = ops.size := by simp [hI.size]
    have hclosed := hI.closed.step ho hdeps
    have hM' : ∀ k, L0.getD k false = true → (L.setIfInBounds i true).getD k false = true := fun k hk => by
      by_cases e : i = k
      · subst e; exact getD_same hiL
      · rw [getD_set_ne false e]; exact hM k hk
    have hcov : i ∈ ql ++ ll := by
      rcases hcov0 i hil with h1 | h1
      · rw [hM i h1] at hlf; cases hlf
      · exact h1
    have hap : ∀ k, edgeB ops k i = true → L.getD k true = false → ∀ ok, ops[k]? = some ok → ok.apart ops o = true := by
      intro k hed hk ok hok
      rcases edgeB_spec ho hok hed with ⟨e, he, hbe, rfl⟩ | h2
      · have h3 := hdeps e he hbe
        rw [getD_flip hk] at h3
        cases h3
      · exact h2
    have hwt : ∀ k, waits ops ops.size i k = true → L.getD k false = true := fun k hk => waits_listed hI.closed _ i k o ho hdeps hk
    have keep : ∀ k d, i ≠ k → (L.setIfInBounds i true).getD k d = L.getD k d := fun k d hk => getD_set_ne d hk
    have hfl : ∀ k, k < ops.size → L.getD k false = L.getD k true := fun k hk => getD_flip' (by rw [hI.size]; exact hk)
    rcases hI.way with ⟨w2, hX, hw⟩ | ⟨w2, l1, l2, lo2, e1, e2, e3, e4, hw⟩
    · rcases List.mem_append.1 hcov with hiq | hil2
      · obtain ⟨r1, r2, s1, s2, s3⟩ := lf_split nq hq hiq hl
        rw [s1] at hw
        obtain ⟨v, hv, hr⟩ := wpS_take hsel ho r2 r1 A (fun k hk => hap k (s3 k hk).1 (s3 k hk).2) hw
        refine StrongY.wpOp ho hX hv fun w' hw' => ⟨⟨hsize, hclosed, .inl ⟨fun k hk => ?_, hX.trans hw', ?_⟩⟩, hM'⟩
        · rw [keep k _ (fun e => lq k hk (e ▸ hiq))]; exact w2 k hk
        · rw [s2]; exact hr
      · have hall : ∀ k ∈ ql, L.getD k false = true := fun k hk => hwt k (hl1 i hil2 k hk)
        rw [lf_nil fun k hk => by rw [← hfl k (hin k (by simp [hk]))]; exact hall k hk] at hw
        have hw2 : wpList P ops Q lops A X := hw X hX
        cases hll' : ll with
        | nil => rw [hll'] at hil2; cases hil2
        | cons j l2 =>
          have hij : i = j := by
            rw [hll'] at hil2 hl2
            rcases List.mem_cons.1 hil2 with rfl | h2
            · rfl
            · have := hwt j ((List.pairwise_cons.1 hl2).1 i h2)
              rw [w2 j (by rw [hll']; exact List.mem_cons_self)] at this
              cases this
          subst hij
          rw [hll'] at hll nl
          cases lops with
          | nil => simp at hll
          | cons o' lo2 =>
            simp only [List.map_cons, List.cons.injEq] at hll
            rw [ho] at hll
            obtain ⟨ho', hrest⟩ := hll
            injection ho' with ho'
            subst ho'
            refine wpOp_of_list ho hw2 fun a' w' hh => ⟨⟨hsize, hclosed, .inr ⟨fun k hk => ?_, [i], l2, lo2, rfl, fun k hk => ?_, fun k hk => ?_, hrest, hh⟩⟩, hM'⟩
            · rw [keep k _ (fun e => lq i (by rw [hll']; exact List.mem_cons_self) (e ▸ hk))]; exact hall k hk
            · obtain rfl : k = i := by simpa using hk
              exact getD_same hiL
            · rw [keep k _ (fun e => (List.nodup_cons.1 nl).1 (e ▸ hk))]
              exact w2 k (by rw [hll']; exact List.mem_cons_of_mem _ hk)
    · rcases List.mem_append.1 hcov with hiq | hil2
      · rw [w2 i hiq] at hlf; cases hlf
      · have hi2 : i ∈ l2 := by
          rw [e1] at hil2
          rcases List.mem_append.1 hil2 with h2 | h2
          · rw [e2 i h2] at hlf; cases hlf
          · exact h2
        cases l2 with
        | nil => cases hi2
        | cons j l3 =>
          have hl2' := hl2
          have nl' := nl
          rw [e1] at hl2' nl'
          have hij : i = j := by
            rcases List.mem_cons.1 hi2 with rfl | h2
            · rfl
            · have := hwt j ((List.pairwise_cons.1 (List.pairwise_append.1 hl2').2.1).1 i h2)
              rw [e3 j List.mem_cons_self] at this
              cases this
          subst hij
          cases lo2 with
          | nil => simp at e4
          | cons o' lo3 =>
            simp only [List.map_cons, List.cons.injEq] at e4
            rw [ho] at e4
            obtain ⟨ho', hrest⟩ := e4
            injection ho' with ho'
            subst ho'
            obtain ⟨_, nl2, nl3⟩ := List.nodup_append.1 nl'
            refine wpOp_of_list ho hw fun a' w' hh => ⟨⟨hsize, hclosed, .inr ⟨fun k hk => ?_, l1 ++ [i], l3, lo3, by rw [e1]; simp, fun k hk => ?_, fun k hk => ?_, hrest, hh⟩⟩, hM'⟩
            · rw [keep k _ (fun e => lq i hil2 (e ▸ hk))]; exact w2 k hk
            · rcases List.mem_append.1 hk with h2 | h2
              · rw [keep k _ (fun e => nl3 k h2 i List.mem_cons_self e.symm)]; exact e2 k h2
              · obtain rfl : k = i := by simpa using h2
                exact getD_same hiL
            · rw [keep k _ (fun e => (List.nodup_cons.1 nl2).1 (e ▸ hk))]
              exact e3 k (List.mem_cons_of_mem _ hk)
  case he =>
    intro L A X hIM hr
    obtain ⟨hI, hM⟩ := hIM
    have hall : ∀ n k, k < n → k < ops.size → L.getD k false = true := by
      intro n
      induction n with
      | zero => intro k hk; omega
      | succ n ih =>
        intro k hk hkn
        cases hv : L.getD k false with
        | true => rfl
        | false =>
          exfalso
          have ho : ops[k]? = some ops[k] := Array.getElem?_eq_getElem hkn
          have hmem : k ∈ Region.ready .any ops L := mem_ready.2 ⟨by rw [← getD_flip' (by rw [hI.size]; omega)]; exact hv, ops[k], ho, fun e he hbe => ih e.on (by have := htx k _ ho e he hbe; omega) (by have := htx k _ ho e he hbe; omega)⟩
          rw [hr] at hmem
          cases hmem
    have hk : ∀ k, k < ops.size → L.getD k false = true := fun k hk => hall (k + 1) k (by omega) hk
    rcases hI.way with ⟨w2, hX, hw⟩ | ⟨w2, l1, l2, lo2, e1, e2, e3, e4, hw⟩
    · rw [lf_nil fun k hk2 => by rw [← getD_flip' (by rw [hI.size]; exact hin k (by simp [hk2]))]; exact hk k (hin k (by simp [hk2]))] at hw
      have hw2 : wpList P ops Q lops A X := hw X hX
      cases hll' : ll with
      | nil =>
        rw [hll'] at hll
        have : lops = [] := by cases lops with | nil => rfl | cons _ _ => simp at hll
        rw [this] at hw2
        exact hw2
      | cons j l2 =>
        have := w2 j (by rw [hll']; exact List.mem_cons_self)
        rw [hk j (hin j (by rw [hll']; simp))] at this
        cases this
    · cases l2 with
      | nil =>
        have : lo2 = [] := by cases lo2 with | nil => rfl | cons _ _ => simp at e4
        rw [this] at hw
        exact hw
      | cons j l3 =>
        have := e3 j List.mem_cons_self
        rw [hk j (hin j (by rw [e1]; simp))] at this
        cases this
theorem wp_region_lateF {id : Nat} {a : Act} {w : World} (fl : List Nat) (flo : List Oper) (ql : List Nat) (qlo : List Oper) (ll : List Nat) (lops : List Oper) (hmo : P.follows .mixedOrders = true) (hns : Region.noSelect ops = true) (hQ : ∀ c a t v w, Q (.panic c) (a.put (some t) v) w → Q (.panic c) a w) (hB : textB ops = true)
    (hfl : fl.map (ops[·]?) = flo.map some) (htk : takesB ops fl (Array.replicate ops.size false) = true) (hql : ql.map (ops[·]?) = qlo.map some) (hll : ll.map (ops[·]?) = lops.map some)
    (hfu : fl.length ≤ ops.size ∧ (listAll fl (Array.replicate ops.size false)).toList.count false ≤ ops.size - fl.length) (hz0 : (listAll fl (Array.replicate ops.size false)).size = ops.size) (hc0 : closedB ops (listAll fl (Array.replicate ops.size false)) = true)
    (hnd : (ql ++ ll).Nodup) (hcov : ∀ i ∈ List.range ops.size, (listAll fl (Array.replicate ops.size false)).getD i false = true ∨ i ∈ ql ++ ll) (hin : ∀ i ∈ ql ++ ll, i < ops.size ∧ (listAll fl (Array.replicate ops.size false)).getD i false = false)
    (hq : ql.Pairwise (fun k j => edgeB ops k j = true))
    (hl1 : ∀ j ∈ ll, ∀ k ∈ ql, waits ops ops.size j k = true) (hl2 : ll.Pairwise (fun k j => waits ops ops.size j k = true))
    (h : wpPure P ops (fun A => wpStrong P ops w.drew (fun A' => ∀ w', Ext w.drew w' → wpList P ops Q lops A' w') qlo A) flo a) : (Code.region id ops true).wp P Q a w := by
  refine wp_region_any hmo ?_
  have h1 := wpAny_pures (P := P) (Q := Q) (w := w.drew) hns hQ fl flo (Array.replicate ops.size false) a (ops.size - fl.length) hfl htk
  rw [Nat.sub_add_cancel hfu.1] at h1
  refine h1 ?_
  have key : ∀ A, wpStrong P ops w.drew (fun A' => ∀ w', Ext w.drew w' → wpList P ops Q lops A' w') qlo A → wpAny P .any ops Q (ops.size - fl.length) (listAll fl (Array.replicate ops.size false)) A w.drew := fun A hA =>
    wpAny_lateF (listAll fl (Array.replicate ops.size false)) _ hfu.2 hz0 (closedB_spec hc0) ql ll lops hB hll hnd (fun i hi => hcov i (by simpa using hi)) hin hq hl1 hl2 (wpS_of_list ql qlo A hql hA)
  clear h1 hfl
  induction flo generalizing a with
  | nil => exact key a h
  | cons o r ih =>
    obtain ⟨v, y, h2⟩ := h
    exact ⟨v, y, ih h2⟩
end
end Go.Proofs.YtfpfgbhdehbggaaGreatDoor
namespace Go.Proofs.YtfpfgbhdehbggaaGreatDoor
open Go.RowKit
section
variable {P : Program} {ops : Array Oper} {W : World} {Q : Exit → Act → World → Prop} {sp : Nat → Sp}
def StrongT (P : Program) (ops : Array Oper) (W : World) (C : World → Prop) (o : Oper) (v : Value) (a : Act) : Prop :=
  (Region.wanted o (yielded ops a.tmps) = true ∧ ∀ w, Ext W w → C w → strongUpon P w v ((execOp a.eval o).run P w)) ∨ (Region.wanted o (yielded ops a.tmps) = false ∧ v = undef)
theorem StrongT.put {C : World → Prop} {o : Oper} {v u : Value} {a : Act} {d : Option Tmp} (hs : ∀ cs b, o.op ≠ .select cs b) (h : ∀ t, d = some t → t ∉ o.looksAt ops) : StrongT P ops W C o v (a.put d u) ↔ StrongT P ops W C o v a := by
  unfold StrongT
  rw [execOp_put (ops := ops) o hs a d u h, wanted_put o a d u h]
theorem StrongT.mono {C C' : World → Prop} {o : Oper} {v : Value} {a : Act} (h : ∀ w, C' w → C w) (k : StrongT P ops W C o v a) : StrongT P ops W C' o v a :=
  k.imp (fun h1 => ⟨h1.1, fun w hw hc => h1.2 w hw (h w hc)⟩) id
theorem StrongT.call {C : World → Prop} {o : Oper} {v : Value} {a : Act} {f : FuncId} {args : Array Value} (hw : Region.wanted o (yielded ops a.tmps) = true) (hr : ∀ w, (execOp a.eval o).run P w = .ok (.enter f args) w) (hc : ∀ w, Ext W w → C w → Calls P f args w fun e w' => e = .returned v ∧ Below w.heap.size w w') : StrongT P ops W C o v a :=
  .inl ⟨hw, fun w h hC => by rw [hr w]; exact ⟨rfl, hc w h hC⟩⟩
theorem StrongT.run {C : World → Prop} {o : Oper} {v : Value} {a : Act} (hw : Region.wanted o (yielded ops a.tmps) = true) (hr : ∀ w, Ext W w → C w → (execOp a.eval o).run P w = .ok (.value v) w) : StrongT P ops W C o v a :=
  .inl ⟨hw, fun w h hC => by rw [hr w h hC]; exact ⟨rfl, rfl⟩⟩
theorem StrongT.wpOp {C : World → Prop} {i : Nat} {o : Oper} {v : Value} {a : Act} {w : World} {K : Act → World → Prop} (hi : ops[i]? = some o) (hw : Ext W w) (hC : C w) (hy : StrongT P ops W C o v a) (hK : ∀ w', Ext w w' → K (a.put o.dst v) w') : wpOp P ops Q i K a w := by
  unfold Go.wpOp
  rw [hi]
  rcases hy with ⟨h1, h2⟩ | ⟨h1, rfl⟩
  · simp only [h1, if_true]
    refine .inl ?_
    have h3 := h2 w hw hC
    unfold Oper.wp
    generalize (execOp a.eval o).run P w = r at *
    cases r with
    | ok n w' =>
      cases n <;> simp only [strongUpon] at h3 <;> simp only [Oper.upon]
      case value u =>
        obtain ⟨rfl, rfl⟩ := h3
        exact hK _ (Ext.refl _)
      case skip =>
        obtain ⟨rfl, rfl⟩ := h3
        exact hK _ (Ext.refl _)
      case enter f args =>
        obtain ⟨rfl, hc⟩ := h3
        exact hc.mono fun e w'' ⟨he, hw''⟩ => by subst he; exact hK _ hw''
    | halt x w' => simp only [strongUpon] at h3
  · simp only [h1, Bool.false_eq_true, if_false]
    exact hK _ (Ext.refl _)
def wpT (P : Program) (ops : Array Oper) (W : World) (C : World → Prop) (vs : Nat → Value) (E : Act → Prop) : List Nat → Act → Prop
  | [], a => E a
  | i :: r, a => ∃ o, ops[i]? = some o ∧ StrongT P ops W C o (vs i) a ∧ wpT P ops W C vs E r (a.put o.dst (vs i))
theorem wpT_mono {C C' : World → Prop} {vs : Nat → Value} {E E' : Act → Prop} (hC : ∀ w, C' w → C w) (hE : ∀ a, E a → E' a) : ∀ (l : List Nat) (a : Act), wpT P ops W C vs E l a → wpT P ops W C' vs E' l a
  | [], _, h => hE _ h
  | _ :: r, _, ⟨o, h1, h2, h3⟩ => ⟨o, h1, h2.mono hC, wpT_mono hC hE r _ h3⟩
theorem wpT_take {C : World → Prop} {vs : Nat → Value} {E : Act → Prop} (hsel : ∀ (j : Nat) (o : Oper) cs b, ops[j]? = some o → o.op ≠ .select cs b) {i : Nat} {o : Oper} (hi : ops[i]? = some o) (r2 : List Nat) : ∀ (r1 : List Nat) (a : Act), (∀ k ∈ r1, ∀ ok, ops[k]? = some ok → ok.apart ops o = true) →
    wpT P ops W C vs E (r1 ++ i :: r2) a → StrongT P ops W C o (vs i) a ∧ wpT P ops W C vs E (r1 ++ r2) (a.put o.dst (vs i))
  | [], a, _, ⟨o', h1, h2, h3⟩ => by
    rw [hi] at h1
    injection h1 with h1
    subst h1
    exact ⟨h2, h3⟩
  | k :: r1, a, hap, ⟨ok, h1, h2, h3⟩ => by
    obtain ⟨p1, p2, p3⟩ := Oper.apart_spec (hap k List.mem_cons_self ok h1)
    obtain ⟨g1, g2⟩ := wpT_take hsel hi r2 r1 _ (fun k' hk' => hap k' (List.mem_cons_of_mem _ hk')) h3
    refine ⟨(StrongT.put (fun cs b => hsel i o cs b hi) p1).1 g1, ok, h1, (StrongT.put (fun cs b => hsel k ok cs b h1) p3).2 h2, ?_⟩
    rw [← Act.put_comm a _ _ p2]
    exact g2
theorem wpST_take {C : World → Prop} {vs : Nat → Value} {E : Act → Prop} (hsel : ∀ (j : Nat) (o : Oper) cs b, ops[j]? = some o → o.op ≠ .select cs b) {i : Nat} {o : Oper} (hi : ops[i]? = some o) (s1 s2 : List Nat) (hs1 : ∀ k ∈ s1, ∀ ok, ops[k]? = some ok → ok.apart ops o = true) : ∀ (r : List Nat) (a : Act), (∀ k ∈ r, ∀ ok, ops[k]? = some ok → ok.apart ops o = true) →
    wpS P ops W (fun A => wpT P ops W C vs E (s1 ++ i :: s2) A) r a → StrongT P ops W C o (vs i) a ∧ wpS P ops W (fun A => wpT P ops W C vs E (s1 ++ s2) A) r (a.put o.dst (vs i))
  | [], a, _, h => wpT_take hsel hi s2 s1 a hs1 h
  | k :: r, a, hap, ⟨ok, vk, h1, h2, h3⟩ => by
    obtain ⟨p1, p2, p3⟩ := Oper.apart_spec (hap k List.mem_cons_self ok h1)
    obtain ⟨g1, g2⟩ := wpST_take hsel hi s1 s2 hs1 r _ (fun k' hk' => hap k' (List.mem_cons_of_mem _ hk')) h3
    refine ⟨(StrongT.put (fun cs b => hsel i o cs b hi) p1).1 g1, ok, vk, h1, (StrongY.put (fun cs b => hsel k ok cs b h1) p3).2 h2, ?_⟩
    rw [← Act.put_comm a vk _ p2]
    exact g2
theorem listAll_size : ∀ (fl : List Nat) (L : Array Bool), (listAll fl L).size = L.size
  | [], _ => rfl
  | i :: fl, L => by
    show (listAll fl (L.setIfInBounds i true)).size = _
    rw [listAll_size fl]
    simp
theorem listAll_out (k : Nat) : ∀ (fl : List Nat) (L : Array Bool), k ∉ fl → (listAll fl L).getD k false = L.getD k false
  | [], _, _ => rfl
  | i :: fl, L, h => by
    show (listAll fl (L.setIfInBounds i true)).getD k false = _
    rw [listAll_out k fl _ (fun e => h (List.mem_cons_of_mem _ e)), getD_set_ne false (fun e => h (by rw [e]; exact List.mem_cons_self))]
theorem listAll_keep (k : Nat) : ∀ (fl : List Nat) (L : Array Bool), L.getD k false = true → (listAll fl L).getD k false = true
  | [], _, h => h
  | i :: fl, L, h => by
    refine listAll_keep k fl _ ?_
    by_cases e : i = k
    · subst e
      refine getD_same ?_
      unfold Array.getD at h
      split at h
      · assumption
      · cases h
    · rw [getD_set_ne false e]; exact h
theorem listAll_in (k : Nat) : ∀ (fl : List Nat) (L : Array Bool), k ∈ fl → k < L.size → (listAll fl L).getD k false = true
  | i :: fl, L, h, hk => by
    by_cases e : i = k
    · subst e
      exact listAll_keep i fl _ (getD_same hk)
    · rcases List.mem_cons.1 h with h | h
      · exact absurd h.symm e
      · exact listAll_in k fl _ h (by simpa using hk)
theorem getD_get {L : Array Bool} {i : Nat} (hl : L.getD i true = false) : L.toList[i]? = some false := by
  rw [Array.getElem?_toList]
  unfold Array.getD at hl
  split at hl
  · rename_i hlt
    rw [Array.getElem?_eq_getElem hlt]; exact congrArg some hl
  · cases hl
structure SegAt (P : Program) (ops : Array Oper) (W : World) (Q : Exit → Act → World → Prop) (sp : Nat → Sp) (vs : Nat → Value) (L0 : Array Bool) (ql ml tl ll : List Nat) (lops : List Oper) (K : Act → World → Prop) (L : Array Bool) (A : Act) (w : World) : Prop where
  size : L.size = ops.size
  closed : Closed ops L
  way : ((∀ k, k ∉ ql ++ ml ++ tl ++ ll → L.getD k false = L0.getD k false) ∧ (∀ i ∈ ll, L.getD i false = false) ∧ Ext W w ∧ ∃ T, HoldsN sp T w ∧ wpS P ops W (fun A' => wpN P ops W sp (fun A'' T' => wpT P ops W (HoldsN sp T') vs (fun A3 => ∀ w', Ext W w' → HoldsN sp T' w' → wpList P ops (Exit.then K Q) lops A3 w') (lf L tl) A'') (lf L ml) A' T) (lf L ql) A) ∨
    ((∀ k, k ∉ ql ++ ml ++ tl ++ ll → L.getD k false = L0.getD k false) ∧ (∀ k ∈ ql ++ ml ++ tl, L.getD k false = true) ∧ ∃ l1 l2 lo2, ll = l1 ++ l2 ∧ l2 ≠ [] ∧ (∀ k ∈ l1, L.getD k false = true) ∧ (∀ k ∈ l2, L.getD k false = false) ∧ l2.map (ops[·]?) = lo2.map some ∧ wpList P ops (Exit.then K Q) lo2 A w) ∨
    (∃ f, L.toList.count false ≤ f ∧ wpAny P .any ops Q f L A w)
theorem then_wp {o : Oper} {a : Act} {w : World} {K : Act → World → Prop} {N : Act → World → Prop} (h : o.wp P a w N (Exit.then K Q)) : o.wp P a w N Q := by
  unfold Oper.wp at *
  generalize (execOp a.eval o).run P w = r at *
  cases r with
  | ok n w' =>
    cases n <;> simp only [Oper.upon] at h ⊢ <;> first
      | exact h
      | exact Calls.mono h (fun e w'' he => by cases e <;> first | exact he)
  | halt x w' => cases x <;> simp only [Oper.upon] at h ⊢ <;> exact h
theorem wpOp_of_listK {i : Nat} {o : Oper} {rest : List Oper} {K N : Act → World → Prop} {A : Act} {X : World} (ho : ops[i]? = some o) (h : wpList P ops (Exit.then K Q) (o :: rest) A X) (hK : ∀ a w, wpList P ops (Exit.then K Q) rest a w → N a w) : wpOp P ops Q i N A X := by
  unfold wpList at h
  unfold wpOp
  rw [ho]
  by_cases hw : Region.wanted o (yielded ops A.tmps) = true
  · rw [if_pos hw] at h
    simp only [hw, if_true]
    refine h.imp (fun h1 => Oper.wp_mono hK (then_wp h1)) (fun h1 => ⟨h1.1, ?_⟩)
    obtain ⟨a, w, h2⟩ := h1.2
    exact ⟨a, w, h2⟩
  · rw [if_neg hw] at h
    simp only [hw]
    exact hK _ _ h
theorem wpAny_seg {a : Act} {w : World} (L0 : Array Bool) (fuel f1 : Nat) (sp : Nat → Sp) (vs : Nat → Value) (hst : ∀ i b w w', (sp i).S b w → Ext w w' → (sp i).S b w') (ql ml tl ll : List Nat) (qlo lops : List Oper) (hfu : L0.toList.count false ≤ fuel) (hz0 : L0.size = ops.size) (hc0 : closedB ops L0 = true) (hB : textB ops = true)
    (hf1 : (listAll (ql ++ ml ++ tl ++ ll) L0).toList.count false ≤ f1) (hne : ll ≠ []) (hql : ql.map (ops[·]?) = qlo.map some) (hll : ll.map (ops[·]?) = lops.map some)
    (hnd : (ql ++ ml ++ tl ++ ll).Nodup) (hcov0 : ∀ i ∈ List.range ops.size, L0.getD i false = true ∨ i ∈ ql ++ ml ++ tl ++ ll ∨ ∀ k ∈ ql ++ ml ++ tl ++ ll, waits ops ops.size i k = true) (hin0 : ∀ i ∈ ql ++ ml ++ tl ++ ll, i < ops.size ∧ L0.getD i false = false)
    (hq : ql.Pairwise (fun k j => edgeB ops k j = true)) (hm : ml.Pairwise (fun k j => edgeB ops k j = true)) (hqm : ∀ j ∈ ml, ∀ k ∈ ql, edgeB ops k j = true)
    (ht : tl.Pairwise (fun k j => edgeB ops k j = true)) (hqt : ∀ j ∈ tl, ∀ k ∈ ql, edgeB ops k j = true) (hmt : ∀ j ∈ tl, ∀ k ∈ ml, waits ops ops.size j k = true)
    (hl1 : ∀ j ∈ ll, ∀ k ∈ ql ++ ml ++ tl, waits ops ops.size j k = true) (hl2 : ll.Pairwise (fun k j => waits ops ops.size j k = true))
    (h : wpStrong P ops w (fun A => wpN P ops w sp (fun A'' T' => wpT P ops w (HoldsN sp T') vs (fun A3 => ∀ w', Ext w w' → HoldsN sp T' w' → wpList P ops (Exit.then (wpAny P .any ops Q f1 (listAll (ql ++ ml ++ tl ++ ll) L0)) Q) lops A3 w') tl A'') ml A []) qlo a) : wpAny P .any ops Q fuel L0 a w := by
  obtain ⟨hsel, htx⟩ := textB_spec hB
  obtain ⟨nqmt, nl, ndis⟩ := List.nodup_append.1 hnd
  obtain ⟨nqm, nt, ndt⟩ := List.nodup_append.1 nqmt
  obtain ⟨nq, nm, ndm⟩ := List.nodup_append.1 nqm
  have lq : ∀ i ∈ ll, i ∉ ql ++ ml ++ tl := fun i hi e => ndis i e i hi rfl
  have hin : ∀ i ∈ ql ++ ml ++ tl ++ ll, i < ops.size := fun i hi => (hin0 i hi).1
  have hTT : ∀ (T T' : List (Nat × Nat)), (∀ y, y ∈ T ↔ y ∈ T') → ∀ X, HoldsN sp T' X → HoldsN sp T X := fun T T' hT X hX y hy => hX y ((hT y).1 hy)
  have hE : ∀ (l : List Nat) (a : Act) (T T' : List (Nat × Nat)), (∀ y, y ∈ T ↔ y ∈ T') →
      wpT P ops w (HoldsN sp T) vs (fun A3 => ∀ w', Ext w w' → HoldsN sp T w' → wpList P ops (Exit.then (wpAny P .any ops Q f1 (listAll (ql ++ ml ++ tl ++ ll) L0)) Q) lops A3 w') l a →
      wpT P ops w (HoldsN sp T') vs (fun A3 => ∀ w', Ext w w' → HoldsN sp T' w' → wpList P ops (Exit.then (wpAny P .any ops Q f1 (listAll (ql ++ ml ++ tl ++ ll) L0)) Q) lops A3 w') l a :=
    fun l a T T' hT => wpT_mono (hTT T T' hT) (fun A hA w' hw' hH => hA w' hw' (hTT T T' hT w' hH)) l a
  refine wpAny_inv (I := fun L A X => SegAt P ops w Q sp vs L0 ql ml tl ll lops (wpAny P .any ops Q f1 (listAll (ql ++ ml ++ tl ++ ll) L0)) L A X) ?hs ?he fuel L0 a w hfu ?h0
  case h0 =>
    have hf : ∀ k, k ∈ ql ++ ml ++ tl ++ ll → L0.getD k true = false := fun k hk => by rw [← getD_flip' (by rw [hz0]; exact hin k hk)]; exact (hin0 k hk).2
    refine ⟨hz0, closedB_spec hc0, .inl ⟨fun _ _ => rfl, fun i hi => (hin0 i (by simp [hi])).2, Ext.refl _, [], (fun y hy => by cases hy), ?_⟩⟩
    rw [lf_all fun k hk => hf k (by simp [hk]), lf_all fun k hk => hf k (by simp [hk]), lf_all fun k hk => hf k (by simp [hk])]
    exact wpS_of_list ql qlo a hql h
  case hs =>
    intro L A X i o hI ho hl hdeps
    have hil : i < ops.size := (Array.getElem?_eq_some_iff.1 ho).1
    have hiL : i < L.size := by rw [hI.size]; exact hil
    have hlf := getD_flip hl
    have hsize : (L.setIfInBounds i true).size = ops.size := by simp [hI.size]
    have hclosed := hI.closed.step ho hdeps
    have hap : ∀ k, edgeB ops k i = true → L.getD k true = false → ∀ ok, ops[k]? = some ok → ok.apart ops o = true := by
      intro k hed hk ok hok
      rcases edgeB_spec ho hok hed with ⟨e, he, hbe, rfl⟩ | h2
      · have h3 := hdeps e he hbe
        rw [getD_flip hk] at h3
        cases h3
      · exact h2
    have hwt : ∀ k, waits ops ops.size i k = true → L.getD k false = true := fun k hk => waits_listed hI.closed _ i k o ho hdeps hk
    have keep : ∀ k d, i ≠ k → (L.setIfInBounds i true).getD k d = L.getD k d := fun k d hk => getD_set_ne d hk
    have hfl : ∀ k, k < ops.size → L.getD k false = L.getD k true := fun k hk => getD_flip' (by rw [hI.size]; exact hk)
    have out : (∀ k, k ∉ ql ++ ml ++ tl ++ ll → L.getD k false = L0.getD k false) → i ∈ ql ++ ml ++ tl ++ ll → ∀ k, k ∉ ql ++ ml ++ tl ++ ll → (L.setIfInBounds i true).getD k false = L0.getD k false := fun hK hi k hk => by
      rw [keep k _ (fun e => hk (e ▸ hi))]; exact hK k hk
    have whole : (∀ k, k ∉ ql ++ ml ++ tl ++ ll → (L.setIfInBounds i true).getD k false = L0.getD k false) → (∀ k ∈ ql ++ ml ++ tl ++ ll, (L.setIfInBounds i true).getD k false = true) → L.setIfInBounds i true = listAll (ql ++ ml ++ tl ++ ll) L0 := fun h1 h2 => by
      apply Array.ext
      · rw [hsize, listAll_size, hz0]
      · intro k hk1 hk2
        have h3 : (L.setIfInBounds i true).getD k false = (listAll (ql ++ ml ++ tl ++ ll) L0).getD k false := by
          by_cases hk : k ∈ ql ++ ml ++ tl ++ ll
          · rw [h2 k hk, listAll_in k _ _ hk (by rw [hz0]; exact hin k hk)]
          · rw [h1 k hk, listAll_out k _ _ hk]
        unfold Array.getD at h3
        rw [dif_pos hk1, dif_pos hk2] at h3
        exact h3
    have notYet : (∀ k, k ∉ ql ++ ml ++ tl ++ ll → L.getD k false = L0.getD k false) → (∃ k ∈ ll, L.getD k false = false) → i ∈ ql ++ ml ++ tl ++ ll := fun hK hex => by
      rcases hcov0 i (by simpa using hil) with h1 | h1 | h1
      · by_cases hi : i ∈ ql ++ ml ++ tl ++ ll
        · exact hi
        · rw [← hK i hi, hlf] at h1; cases h1
      · exact h1
      · obtain ⟨k, hk1, hk2⟩ := hex
        rw [hwt k (h1 k (by simp [hk1]))] at hk2; cases hk2
    rcases hI.way with ⟨wK, w2, hX, T, hT, hw⟩ | ⟨wK, w2, l1, l2, lo2, e1, e0, e2, e3, e4, hw⟩ | ⟨f, hf, hw⟩
    · have hcov : i ∈ ql ++ ml ++ tl ++ ll := notYet wK (by
        cases hll' : ll with
        | nil => exact absurd hll' hne
        | cons j l2 => exact ⟨j, List.mem_cons_self, w2 j (by rw [hll']; exact List.mem_cons_self)⟩)
      have hK' := out wK hcov
      rcases List.mem_append.1 hcov with hi3 | hil2
      · have hll0 : ∀ k ∈ ll, (L.setIfInBounds i true).getD k false = false := fun k hk => by
          rw [keep k _ (fun e => lq k hk (e ▸ hi3))]; exact w2 k hk
        rcases List.mem_append.1 hi3 with hiqm | hit
        · have htl : lf (L.setIfInBounds i true) tl = lf L tl := lf_other fun h2 => ndt i hiqm i h2 rfl
          rcases List.mem_append.1 hiqm with hiq | him
          · obtain ⟨r1, r2, s1, s2, s3⟩ := lf_split nq hq hiq hl
            rw [s1] at hw
            obtain ⟨v, hv, hr⟩ := wpS_take hsel ho r2 r1 A (fun k hk => hap k (s3 k hk).1 (s3 k hk).2) hw
            refine StrongY.wpOp ho hX hv fun w' hw' => ⟨hsize, hclosed, .inl ⟨hK', hll0, hX.trans hw', T, hT.ext hst hw', ?_⟩⟩
            rw [s2, lf_other fun hm2 => ndm i hiq i hm2 rfl, htl]
            exact hr
          · obtain ⟨r1, r2, s1, s2, s3⟩ := lf_split nm hm him hl
            rw [s1] at hw
            obtain ⟨hg, hr⟩ := wpSN_take (hE (lf L tl)) hsel ho r1 r2 T (fun k hk => hap k (s3 k hk).1 (s3 k hk).2) (lf L ql) A (fun k hk => by
              obtain ⟨k1, k2⟩ := List.mem_filter.1 hk
              exact hap k (hqm i him k k1) (by simpa using k2)) hw
            refine GenY.wpOp ho hX hg fun b w' hb1 hb2 hS hw' => ⟨hsize, hclosed, .inl ⟨hK', hll0, hX.trans hw', (b, i) :: T, ?_, ?_⟩⟩
            · intro y hy
              rcases List.mem_cons.1 hy with rfl | hy
              · exact ⟨hS, hb2⟩
              · exact (hT.ext hst hw') y hy
            · rw [s2, lf_other fun hm2 => ndm i hm2 i him rfl, htl]
              exact hr b (Nat.le_trans (Below.size hX) hb1) fun y hy => Nat.ne_of_lt (Nat.lt_of_lt_of_le (hT y hy).2 hb1)
        · have hmd : lf L ml = [] := lf_nil fun k hk => by rw [← hfl k (hin k (by simp [hk]))]; exact hwt k (hmt i hit k hk)
          obtain ⟨r1, r2, s1, s2, s3⟩ := lf_split nt ht hit hl
          rw [hmd, s1] at hw
          obtain ⟨hg, hr⟩ := wpST_take hsel ho r1 r2 (fun k hk => hap k (s3 k hk).1 (s3 k hk).2) (lf L ql) A (fun k hk => by
              obtain ⟨k1, k2⟩ := List.mem_filter.1 hk
              exact hap k (hqt i hit k k1) (by simpa using k2)) hw
          refine StrongT.wpOp ho hX hT hg fun w' hw' => ⟨hsize, hclosed, .inl ⟨hK', hll0, hX.trans hw', T, hT.ext hst hw', ?_⟩⟩
          rw [s2, lf_other (l := ql) fun h2 => ndt i (List.mem_append_left _ h2) i hit rfl, lf_other (l := ml) fun h2 => ndt i (List.mem_append_right _ h2) i hit rfl, hmd]
          exact hr
      · have hall : ∀ k ∈ ql ++ ml ++ tl, L.getD k false = true := fun k hk => hwt k (hl1 i hil2 k hk)
        rw [lf_nil (l := ql) fun k hk => by rw [← hfl k (hin k (by simp [hk]))]; exact hall k (by simp [hk]), lf_nil (l := ml) fun k hk => by rw [← hfl k (hin k (by simp [hk]))]; exact hall k (by simp [hk]), lf_nil (l := tl) fun k hk => by rw [← hfl k (hin k (by simp [hk]))]; exact hall k (by simp [hk])] at hw
        have hw2 := hw X hX hT
        have hall' : ∀ k ∈ ql ++ ml ++ tl, (L.setIfInBounds i true).getD k false = true := fun k hk => by
          rw [keep k _ (fun e => lq i hil2 (e ▸ hk))]; exact hall k hk
        obtain ⟨j, l2, hll'⟩ : ∃ j l2, ll = j :: l2 := by
          cases hl0 : ll with
          | nil => exact absurd hl0 hne
          | cons j l2 => exact ⟨j, l2, rfl⟩
        have hij : i = j := by
          rw [hll'] at hil2 hl2
          rcases List.mem_cons.1 hil2 with rfl | h2
          · rfl
          · have := hwt j ((List.pairwise_cons.1 hl2).1 i h2)
            rw [w2 j (by rw [hll']; exact List.mem_cons_self)] at this
            cases this
        subst hij
        have nl' := nl
        have hll2 := hll
        rw [hll'] at hll2 nl'
        cases hlo : lops with
        | nil => rw [hlo] at hll2; simp at hll2
        | cons o' lo2 =>
          rw [hlo] at hll2 hw2
          simp only [List.map_cons, List.cons.injEq] at hll2
          rw [ho] at hll2
          obtain ⟨ho', hrest⟩ := hll2
          injection ho' with ho'
          subst ho'
          refine wpOp_of_listK ho hw2 fun a' w' hh => ⟨hsize, hclosed, ?_⟩
          cases hl2' : l2 with
          | nil =>
            subst hl2'
            obtain rfl : lo2 = [] := by cases lo2 with | nil => rfl | cons _ _ => simp at hrest
            have heq := whole hK' (fun k hk => by
              rcases List.mem_append.1 hk with h2 | h2
              · exact hall' k h2
              · rw [hll'] at h2
                obtain rfl : k = i := by simpa using h2
                exact getD_same hiL)
            refine .inr (.inr ⟨f1, by rw [heq]; exact hf1, ?_⟩)
            rw [heq]
            exact hh
          | cons j2 l3 =>
            rw [hl2'] at hll' hrest nl'
            refine .inr (.inl ⟨hK', hall', [i], j2 :: l3, lo2, by rw [hll']; rfl, by simp, fun k hk => ?_, fun k hk => ?_, hrest, hh⟩)
            · obtain rfl : k = i := by simpa using hk
              exact getD_same hiL
            · rw [keep k _ (fun e => (List.nodup_cons.1 nl').1 (e ▸ hk))]
              exact w2 k (by rw [hll']; exact List.mem_cons_of_mem _ hk)
    · have hcov : i ∈ ql ++ ml ++ tl ++ ll := notYet wK (by
        cases hl2' : l2 with
        | nil => exact absurd hl2' e0
        | cons j l3 => exact ⟨j, by rw [e1, hl2']; simp, e3 j (by rw [hl2']; exact List.mem_cons_self)⟩)
      have hK' := out wK hcov
      rcases List.mem_append.1 hcov with hiq | hil2
      · rw [w2 i hiq] at hlf; cases hlf
      · have hall' : ∀ k ∈ ql ++ ml ++ tl, (L.setIfInBounds i true).getD k false = true := fun k hk => by
          rw [keep k _ (fun e => lq i hil2 (e ▸ hk))]; exact w2 k hk
        have hi2 : i ∈ l2 := by
          rw [e1] at hil2
          rcases List.mem_append.1 hil2 with h2 | h2
          · rw [e2 i h2] at hlf; cases hlf
          · exact h2
        cases l2 with
        | nil => cases hi2
        | cons j l3 =>
          have hl2' := hl2
          have nl' := nl
          rw [e1] at hl2' nl'
          have hij : i = j := by
            rcases List.mem_cons.1 hi2 with rfl | h2
            · rfl
            · have := hwt j ((List.pairwise_cons.1 (List.pairwise_append.1 hl2').2.1).1 i h2)
              rw [e3 j List.mem_cons_self] at this
              cases this
          subst hij
          cases lo2 with
          | nil => simp at e4
          | cons o' lo3 =>
            simp only [List.map_cons, List.cons.injEq] at e4
            rw [ho] at e4
            obtain ⟨ho', hrest⟩ := e4
            injection ho' with ho'
            subst ho'
            obtain ⟨_, nl2, nl3⟩ := List.nodup_append.1 nl'
            refine wpOp_of_listK ho hw fun a' w' hh => ⟨hsize, hclosed, ?_⟩
            have hl1' : ∀ k ∈ l1 ++ [i], (L.setIfInBounds i true).getD k false = true := fun k hk => by
              rcases List.mem_append.1 hk with h2 | h2
              · rw [keep k _ (fun e => nl3 k h2 i List.mem_cons_self e.symm)]; exact e2 k h2
              · obtain rfl : k = i := by simpa using h2
                exact getD_same hiL
            cases hl3 : l3 with
            | nil =>
              subst hl3
              obtain rfl : lo3 = [] := by cases lo3 with | nil => rfl | cons _ _ => simp at hrest
              have heq := whole hK' (fun k hk => by
                rcases List.mem_append.1 hk with h2 | h2
                · exact hall' k h2
                · rw [e1] at h2
                  exact hl1' k h2)
              refine .inr (.inr ⟨f1, by rw [heq]; exact hf1, ?_⟩)
              rw [heq]
              exact hh
            | cons j2 l4 =>
              rw [hl3] at hrest nl2 e1 e3
              refine .inr (.inl ⟨hK', hall', l1 ++ [i], j2 :: l4, lo3, by rw [e1]; simp, by simp, hl1', fun k hk => ?_, hrest, hh⟩)
              rw [keep k _ (fun e => (List.nodup_cons.1 nl2).1 (e ▸ hk))]
              exact e3 k (List.mem_cons_of_mem _ hk)
    · cases f with
      | zero =>
        exfalso
        have h1 : L.toList[i]? = some false := getD_get hl
        have h2 := count_set_lt _ _ h1
        omega
      | succ f =>
        have hmem : i ∈ Region.ready .any ops L := mem_ready.2 ⟨hl, o, ho, hdeps⟩
        refine wpOp_mono (fun a' w' hh => ⟨hsize, hclosed, .inr (.inr ⟨f, ?_, hh⟩)⟩) (hw.2 i hmem)
        have h1 : L.toList[i]? = some false := getD_get hl
        have h2 := count_set_lt _ _ h1
        rw [Array.toList_setIfInBounds]
        omega
  case he =>
    intro L A X hI hr
    have hall : ∀ n k, k < n → k < ops.size → L.getD k false = true := by
      intro n
      induction n with
      | zero => intro k hk; omega
      | succ n ih =>
        intro k hk hkn
        cases hv : L.getD k false with
        | true => rfl
        | false =>
          exfalso
          have ho : ops[k]? = some ops[k] := Array.getElem?_eq_getElem hkn
          have hmem : k ∈ Region.ready .any ops L := mem_ready.2 ⟨by rw [← getD_flip' (by rw [hI.size]; omega)]; exact hv, ops[k], ho, fun e he hbe => ih e.on (by have := htx k _ ho e he hbe; omega) (by have := htx k _ ho e he hbe; omega)⟩
          rw [hr] at hmem
          cases hmem
    have hk : ∀ k, k < ops.size → L.getD k false = true := fun k hk => hall (k + 1) k (by omega) hk
    rcases hI.way with ⟨_, w2, _⟩ | ⟨_, w2, l1, l2, lo2, e1, e0, e2, e3, e4, hw⟩ | ⟨f, hf, hw⟩
    · cases hll' : ll with
      | nil => exact absurd hll' hne
      | cons j l2 =>
        have := w2 j (by rw [hll']; exact List.mem_cons_self)
        rw [hk j (hin j (by rw [hll']; simp))] at this
        cases this
    · cases l2 with
      | nil => exact absurd rfl e0
      | cons j l3 =>
        have := e3 j List.mem_cons_self
        rw [hk j (hin j (by rw [e1]; simp))] at this
        cases this
    · cases f with
      | zero => exact hw.2
      | succ f => exact hw.1 hr
theorem wpN_nil {E : Act → List (Nat × Nat) → Prop} {a : Act} {T : List (Nat × Nat)} (h : E a T) : wpN P ops W sp E [] a T := h
theorem wpT_nil {C : World → Prop} {vs : Nat → Value} {E : Act → Prop} {a : Act} (h : E a) : wpT P ops W C vs E [] a := h
theorem wpN_one {E : Act → List (Nat × Nat) → Prop} {a : Act} {T : List (Nat × Nat)} {i : Nat} {r : List Nat} (o : Oper) (ho : ops[i]? = some o) (hg : GenY P ops W o (sp i) a) (h : ∀ b, W.heap.size ≤ b → (∀ y ∈ T, y.1 ≠ b) → wpN P ops W sp E r (a.put o.dst ((sp i).V b)) ((b, i) :: T)) : wpN P ops W sp E (i :: r) a T := ⟨o, ho, hg, h⟩
theorem wpList_go {K : Act → World → Prop} {a : Act} {w : World} (h : K a w) : wpList P ops (Exit.then K Q) [] a w := h
theorem wpAny_done {a : Act} {w : World} {f : Nat} {L : Array Bool} (hr : Region.ready .any ops L = []) (h : Q .normal a w) : wpAny P .any ops Q f L a w := by
  cases f with
  | zero => exact ⟨hr, h⟩
  | succ f => exact ⟨fun _ => h, fun i hi => by rw [hr] at hi; cases hi⟩
end
end Go.Proofs.YtfpfgbhdehbggaaGreatDoor
namespace Go.Proofs.YtfpfgbhdehbggaaGreatDoor
open Go.RowKit Go.BigFrame
theorem BV.setCell {v : Value} {l : Nat} {b : Nat → BitVec 8} {w : World} (h : BV v l b w) (p : Addr) (u : Value) (hp : ∀ a n c, v = .slice (some a) n c → a.block ≠ p.block) : BV v l b (w.setCell p u) := by
  rcases h with h | ⟨a, cap, h1, h2, h3⟩
  · exact .inl h
  · refine .inr ⟨a, cap, h1, h2, fun j hj => ?_, by simpa [World.setCell] using h3.2⟩
    have hb := Below.heap_setCell w p u a.block (hp a l cap h1)
    exact (World.cell?_of_block (a := a.add j) (by rw [add_block]; exact hb)).trans (h3.1 j hj)
set_option maxRecDepth 20000 in
set_option maxHeartbeats 2000000 in
theorem pad_any (v : Value) (l : Nat) (key : Nat → BitVec 8) (x : BitVec 8) (w : World) (h : BV v l key w) (hl : l ≤ 140737488351232) :
    Calls Tryz.prog 57 #[v, .int .u8 (x.toNat : Int)] w fun e w' => ∃ b, w.heap.size ≤ b ∧ b < w'.heap.size ∧ e = .returned (.slice (some ⟨b, 0, none⟩) 64 64) ∧ OwnB w.heap.size 5 (.slice (some ⟨b, 0, none⟩) 64 64) 64 (yv (maskF (readyF l key) x)) w' ∧ Ext w w' := by
  have hz2 := zero24
  have c23 := cutR23
  obtain ⟨oa, cp, rfl⟩ := h.form
  obtain ⟨M, hMM⟩ : ∃ M, M = maskF (readyF l key) x := ⟨_, rfl⟩
  rw [← hMM]
  by_cases h64 : 64 < l
  · have i64 : (64 : Int) < (l : Int) := by omega
    obtain ⟨kf, hkf⟩ : ∃ kf, kf = shaF key l := ⟨_, rfl⟩
    have hM : Hid (∀ j, M j = if j < 32 then xE8 (kf j) x else xE8 0#8 x) := fun j => by
      rw [hMM, hkf]
      unfold maskF readyF
      rw [if_pos h64]
      split <;> rfl
    have hs := rsumV _ l key w h (by omega)
    rw [← hkf] at hs
    replace hs := hideit hs
    clear h hMM hkf
    go_enter Tryz.func57, Tryz.ntmps57
    go_upto_region 2 with (fail)
    refine wp_region_lit ?_
    refine wpList_run rfl (.slice oa l cp) (by simp [go_sem]) ?_
    simp only [zp0, zp1, zp2, zp3]
    refine wpList_call rfl (by simp [go_sem]) (hs.out.mono ?_)
    rintro e w3 ⟨rfl, hw3⟩
    refine ⟨_, rfl, ?_⟩
    simp only [zp0, zp1, zp2, zp3]
    have HN := hideit (RowAt.new w3 32 (yv fun _ => 0#8) 22)
    have hE4 : Ext w3 (w3.alloc (.cells (row 32 (yv fun _ => 0#8)).toArray 22)) := (Below.refl _ _).alloc (Nat.le_refl _) _
    refine wpList_to rfl (.pointer (some ⟨w3.heap.size, 0, none⟩)) (w3.alloc (.cells (row 32 (yv fun _ => 0#8)).toArray 22)) (by simp [go_sem, hz2]) ?_
    simp only [zp0, zp1, zp2, zp3]
    refine wpList_store_mid rfl 22 (.tmp 5) (.tmp 12) rfl _ 0 (row 32 (yv kf)).toArray rfl rfl (by rw [row_size]; exact HN.out.there) (by rw [row_size]; exact info24) (row_one fun _ _ => rfl) ?_
    have KE : Ext w ((w3.alloc (.cells (row 32 (yv fun _ => 0#8)).toArray 22)).setCells w3.heap.size 0 (row 32 (yv kf))) := below_setCells w3.heap.size (Below.size hw3) _ _ _ (Ext.trans hw3 hE4)
    have HK : BV (.slice (some ⟨w3.heap.size, 0, none⟩) 32 32) 32 kf ((w3.alloc (.cells (row 32 (yv fun _ => 0#8)).toArray 22)).setCells w3.heap.size 0 (row 32 (yv kf))) :=
      .inr ⟨_, 32, rfl, Nat.le_refl _, (HN.out.cells (g' := yv kf)).lie 32 (Nat.le_refl _)⟩
    replace HK := hideit HK
    generalize (w3.alloc (.cells (row 32 (yv fun _ => 0#8)).toArray 22)).setCells w3.heap.size 0 (row 32 (yv kf)) = KW at *
    generalize w3.heap.size = b3 at *
    clear HN hE4 hw3 hs
    simp only [Act.put]
    go_upto_region 4 with (fail)
    generalize (some (⟨b3, 0, none⟩ : Addr)) = koa at HK ⊢
    refine wp_region_lit ?_
    refine wpList_made KW Tryz.underlying25 (by kernel_rfl) rfl (.const (.int .i64 64)) (.const (.int .i64 64)) rfl 64 rfl rfl (by omega) ?_
    intro w6 hO6 hE6
    have HO6 := hideit hO6
    have HE6 := hideit (Ext.trans KE hE6)
    have HK6 := hideit (HK.out.ext hE6)
    have hkb : Hid (∀ a n c, (Value.slice koa 32 32) = .slice (some a) n c → a.block < KW.heap.size) := fun a n c he => by
      rcases HK.out with ⟨h, _⟩ | ⟨a', cap', h, _, h3⟩
      · rw [h] at he; cases he
      · rw [h] at he
        injection he with e1 e2 e3
        injection e1 with e1
        subst e1
        exact h3.2
    clear hO6 hE6 HK
    obtain ⟨b, hb⟩ : ∃ b, b = KW.heap.size := ⟨_, rfl⟩
    rw [← hb] at HO6 hkb ⊢
    have hwk : w.heap.size ≤ b := by rw [hb]; exact Below.size KE
    replace hb := hideit hb
    simp only [zp0, zp1, zp2, zp3]
    refine wpList_run rfl (.slice (some ⟨b, 0, none⟩) 64 64) (by simp [go_sem]) ?_
    simp only [zp0, zp1, zp2, zp3]
    go_wp2
    go_loopw [7] (fun iv wr => ∃ i : Nat, i ≤ 64 ∧ iv = .int .i64 (i : Int) ∧ OwnB b 5 (.slice (some ⟨b, 0, none⟩) 64 64) 64 (yv fun j => if j < i then M j else 0#8) wr ∧ BV (.slice koa 32 32) 32 kf wr ∧ Ext w wr) (fun iv _ => 64 - (intOf iv).toNat)
    case atStart => exact ⟨0, by omega, rfl, HO6.out.congr fun j _ => by simp [yv], HK6.out, HE6.out⟩
    case round =>
      clear HO6 HK6 HE6
      obtain ⟨i, hi, rfl, hO, hK, hE⟩ := hrel
      by_cases hlt : i < 64
      · have i0 : (0 : Int) ≤ (i : Int) := by omega
        have i1 : (i : Int) < 64 := by omega
        have HO := hideit hO
        have HK := hideit hK
        have HE := hideit hE
        clear hO hK hE
        obtain ⟨g, cp9, hv, hg1, hg2, hg3, hRow⟩ := HO.out.lies (by omega)
        injection hv with e1 e2 e3
        injection e1 with e1
        injection e1 with e1
        subst e1
        have ec := hRow.1 i hlt
        have gc := hRow.2.1 i hlt
        simp only [yv, if_neg (Nat.lt_irrefl i)] at ec
        clear hRow hg1 hg2 hg3 e2 e3
        by_cases hk : i < 32
        · have k1 : (i : Int) < 32 := by omega
          obtain ⟨a, rfl, hcell⟩ : ∃ a, koa = some a ∧ wr.cell? (a.add i) = some (yv kf i) := by
            rcases HK.out with ⟨h, h0⟩ | ⟨a, cap', h, _, h3⟩
            · omega
            · injection h with e1 e2 e3
              exact ⟨a, e1, h3.1 i hk⟩
          have hab : a.block ≠ b := by have := hkb.out a 32 32 rfl; omega
          simp only [yv] at hcell
          have hx := xor8' (kf i) x
          have hMi : xE8 (kf i) x = M i := by rw [hM.out i, if_pos hk]
          rw [hMi] at hx
          go_wp2
          refine ⟨⟨i + 1, by omega, by go_num, ?_, ?_, ?_⟩, by simp [intOf]; omega⟩
          · refine ((HO.out.set (b := b) rfl i hlt (.int .u8 ((kf i).toNat : Int))).set (b := b) rfl i hlt (yv M i)).congr fun j _ => ?_
            simp only [yv]
            by_cases e : j = i
            · subst e
              simp only [if_true]
              rw [if_pos (by omega)]
            · simp only [if_neg e]
              by_cases h : j < i
              · rw [if_pos h, if_pos (by omega)]
              · rw [if_neg h, if_neg (by omega)]
          · exact (by first | exact (HK.out.setCell _ _ (fun a n c he => Nat.ne_of_lt (hkb.out a n c he))).setCell _ _ (fun a n c he => Nat.ne_of_lt (hkb.out a n c he)) | exact HK.out.setCell _ _ (fun a n c he => Nat.ne_of_lt (hkb.out a n c he)))
          · first | exact (HE.out.setCell hwk _).setCell hwk _ | exact HE.out.setCell hwk _
        · have k1 : ¬ (i : Int) < 32 := by omega
          have hx := xor8' 0#8 x
          have hMi : xE8 0#8 x = M i := by rw [hM.out i, if_neg hk]
          rw [hMi] at hx
          have hx0 : bits .xor .u8 0 (x.toNat : Int) = ((M i).toNat : Int) := hx
          go_wp2
          refine ⟨⟨i + 1, by omega, by go_num, ?_, ?_, ?_⟩, by simp [intOf]; omega⟩
          · refine (HO.out.set (b := b) rfl i hlt (yv M i)).congr fun j _ => ?_
            simp only [yv]
            by_cases e : j = i
            · subst e
              simp only [if_true]
              rw [if_pos (by omega)]
            · simp only [if_neg e]
              by_cases h : j < i
              · rw [if_pos h, if_pos (by omega)]
              · rw [if_neg h, if_neg (by omega)]
          · exact (by first | exact (HK.out.setCell _ _ (fun a n c he => Nat.ne_of_lt (hkb.out a n c he))).setCell _ _ (fun a n c he => Nat.ne_of_lt (hkb.out a n c he)) | exact HK.out.setCell _ _ (fun a n c he => Nat.ne_of_lt (hkb.out a n c he)))
          · first | exact (HE.out.setCell hwk _).setCell hwk _ | exact HE.out.setCell hwk _
      · obtain rfl : i = 64 := by omega
        have HO := hideit (hO.congr (g' := yv M) fun j hj => by simp only [yv]; rw [if_pos hj])
        have HE := hideit hE
        clear hO hK hE
        go_wp2
        go_ret
        exact ⟨b, hwk, (HO.out.lt b rfl).2, rfl, HO.out.down hwk, HE.out⟩
  · have i64 : ¬ (64 : Int) < (l : Int) := by omega
    obtain ⟨kf, hkf⟩ : ∃ kf, kf = key := ⟨_, rfl⟩
    have hM : Hid (∀ j, M j = if j < l then xE8 (kf j) x else xE8 0#8 x) := fun j => by
      rw [hMM, hkf]
      unfold maskF readyF
      rw [if_neg h64]
      split <;> rfl
    have HK := hideit h
    rw [← hkf] at HK
    clear h hMM hkf
    have KE := Ext.refl w
    go_enter Tryz.func57, Tryz.ntmps57
    go_upto_region 4 with (fail)
    refine wp_region_lit ?_
    refine wpList_made w Tryz.underlying25 (by kernel_rfl) rfl (.const (.int .i64 64)) (.const (.int .i64 64)) rfl 64 rfl rfl (by omega) ?_
    intro w6 hO6 hE6
    have HO6 := hideit hO6
    have HE6 := hideit (Ext.trans KE hE6)
    have HK6 := hideit (HK.out.ext hE6)
    have hkb : Hid (∀ a n c, (Value.slice oa l cp) = .slice (some a) n c → a.block < w.heap.size) := fun a n c he => by
      rcases HK.out with ⟨h, _⟩ | ⟨a', cap', h, _, h3⟩
      · rw [h] at he; cases he
      · rw [h] at he
        injection he with e1 e2 e3
        injection e1 with e1
        subst e1
        exact h3.2
    clear hO6 hE6 HK
    obtain ⟨b, hb⟩ : ∃ b, b = w.heap.size := ⟨_, rfl⟩
    rw [← hb] at HO6 hkb ⊢
    have hwk : w.heap.size ≤ b := by rw [hb]; exact Below.size KE
    replace hb := hideit hb
    simp only [zp0, zp1, zp2, zp3]
    refine wpList_run rfl (.slice (some ⟨b, 0, none⟩) 64 64) (by simp [go_sem]) ?_
    simp only [zp0, zp1, zp2, zp3]
    go_wp2
    go_loopw [7] (fun iv wr => ∃ i : Nat, i ≤ 64 ∧ iv = .int .i64 (i : Int) ∧ OwnB b 5 (.slice (some ⟨b, 0, none⟩) 64 64) 64 (yv fun j => if j < i then M j else 0#8) wr ∧ BV (.slice oa l cp) l kf wr ∧ Ext w wr) (fun iv _ => 64 - (intOf iv).toNat)
    case atStart => exact ⟨0, by omega, rfl, HO6.out.congr fun j _ => by simp [yv], HK6.out, HE6.out⟩
    case round =>
      clear HO6 HK6 HE6
      obtain ⟨i, hi, rfl, hO, hK, hE⟩ := hrel
      by_cases hlt : i < 64
      · have i0 : (0 : Int) ≤ (i : Int) := by omega
        have i1 : (i : Int) < 64 := by omega
        have HO := hideit hO
        have HK := hideit hK
        have HE := hideit hE
        clear hO hK hE
        obtain ⟨g, cp9, hv, hg1, hg2, hg3, hRow⟩ := HO.out.lies (by omega)
        injection hv with e1 e2 e3
        injection e1 with e1
        injection e1 with e1
        subst e1
        have ec := hRow.1 i hlt
        have gc := hRow.2.1 i hlt
        simp only [yv, if_neg (Nat.lt_irrefl i)] at ec
        clear hRow hg1 hg2 hg3 e2 e3
        by_cases hk : i < l
        · have k1 : (i : Int) < (l : Int) := by omega
          obtain ⟨a, rfl, hcell⟩ : ∃ a, oa = some a ∧ wr.cell? (a.add i) = some (yv kf i) := by
            rcases HK.out with ⟨h, h0⟩ | ⟨a, cap', h, _, h3⟩
            · omega
            · injection h with e1 e2 e3
              exact ⟨a, e1, h3.1 i hk⟩
          have hab : a.block ≠ b := by have := hkb.out a l cp rfl; omega
          simp only [yv] at hcell
          have hx := xor8' (kf i) x
          have hMi : xE8 (kf i) x = M i := by rw [hM.out i, if_pos hk]
          rw [hMi] at hx
          go_wp2
          refine ⟨⟨i + 1, by omega, by go_num, ?_, ?_, ?_⟩, by simp [intOf]; omega⟩
          · refine ((HO.out.set (b := b) rfl i hlt (.int .u8 ((kf i).toNat : Int))).set (b := b) rfl i hlt (yv M i)).congr fun j _ => ?_
            simp only [yv]
            by_cases e : j = i
            · subst e
              simp only [if_true]
              rw [if_pos (by omega)]
            · simp only [if_neg e]
              by_cases h : j < i
              · rw [if_pos h, if_pos (by omega)]
              · rw [if_neg h, if_neg (by omega)]
          · exact (by first | exact (HK.out.setCell _ _ (fun a n c he => Nat.ne_of_lt (hkb.out a n c he))).setCell _ _ (fun a n c he => Nat.ne_of_lt (hkb.out a n c he)) | exact HK.out.setCell _ _ (fun a n c he => Nat.ne_of_lt (hkb.out a n c he)))
          · first | exact (HE.out.setCell hwk _).setCell hwk _ | exact HE.out.setCell hwk _
        · have k1 : ¬ (i : Int) < (l : Int) := by omega
          have hx := xor8' 0#8 x
          have hMi : xE8 0#8 x = M i := by rw [hM.out i, if_neg hk]
          rw [hMi] at hx
          have hx0 : bits .xor .u8 0 (x.toNat : Int) = ((M i).toNat : Int) := hx
          go_wp2
          refine ⟨⟨i + 1, by omega, by go_num, ?_, ?_, ?_⟩, by simp [intOf]; omega⟩
          · refine (HO.out.set (b := b) rfl i hlt (yv M i)).congr fun j _ => ?_
            simp only [yv]
            by_cases e : j = i
            · subst e
              simp only [if_true]
              rw [if_pos (by omega)]
            · simp only [if_neg e]
              by_cases h : j < i
              · rw [if_pos h, if_pos (by omega)]
              · rw [if_neg h, if_neg (by omega)]
          · exact (by first | exact (HK.out.setCell _ _ (fun a n c he => Nat.ne_of_lt (hkb.out a n c he))).setCell _ _ (fun a n c he => Nat.ne_of_lt (hkb.out a n c he)) | exact HK.out.setCell _ _ (fun a n c he => Nat.ne_of_lt (hkb.out a n c he)))
          · first | exact (HE.out.setCell hwk _).setCell hwk _ | exact HE.out.setCell hwk _
      · obtain rfl : i = 64 := by omega
        have HO := hideit (hO.congr (g' := yv M) fun j hj => by simp only [yv]; rw [if_pos hj])
        have HE := hideit hE
        clear hO hK hE
        go_wp2
        go_ret
        exact ⟨b, hwk, (HO.out.lt b rfl).2, rfl, HO.out.down hwk, HE.out⟩
end Go.Proofs.YtfpfgbhdehbggaaGreatDoor
