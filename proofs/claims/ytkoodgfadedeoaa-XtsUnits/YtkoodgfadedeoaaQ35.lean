/-
  A region that draws its order: pure operations taken first, then quiet ones, late ones behind: one walk serves every order. Bytes, nil or not, appended to a slice of the call's own.
-/
import Derived.Test.YtkoodgfadedeoaaQ30
import Derived.Test.YtkoodgfadedeoaaQ24
namespace Go.Proofs.Ytkoodgfadedeoaa
open Go.RowKit
section
variable {P : Program} {ops : Array Oper} {W : World} {Q : Exit → Act → World → Prop}
structure LateAt (P : Program) (ops : Array Oper) (W : World) (Q : Exit → Act → World → Prop) (ql ll : List Nat) (lops : List Oper) (L : Array Bool) (A : Act) (w : World) : Prop where
  size : L.size = ops.size
  closed : Closed ops L
  way : ((∀ i ∈ ll, L.getD i false = false) ∧ Ext W w ∧ wpS P ops W (fun A' => ∀ w', Ext W w' → wpList P ops Q lops A' w') (lf L ql) A) ∨
    ((∀ k ∈ ql, L.getD k false = true) ∧ ∃ l1 l2 lo2, ll = l1 ++ l2 ∧ (∀ k ∈ l1, L.getD k false = true) ∧ (∀ k ∈ l2, L.getD k false = false) ∧ l2.map (ops[·]?) = lo2.map some ∧ wpList P ops Q lo2 A w)
theorem wpAny_lateF {a : Act} {w : World} (L0 : Array Bool) (fuel : Nat) (hfu : L0.toList.count false ≤ fuel) (hz0 : L0.size = ops.size) (hc0 : Closed ops L0) (ql ll : List Nat) (lops : List Oper) (hB : textB ops = true) (hll : ll.map (ops[·]?) = lops.map some)
    (hnd : (ql ++ ll).Nodup) (hcov0 : ∀ i, i < ops.size → L0.getD i false = true ∨ i ∈ ql ++ ll) (hin0 : ∀ i ∈ ql ++ ll, i < ops.size ∧ L0.getD i false = false) (hq : ql.Pairwise (fun k j => edgeB ops k j = true))
    (hl1 : ∀ j ∈ ll, ∀ k ∈ ql, waits ops ops.size j k = true) (hl2 : ll.Pairwise (fun k j => waits ops ops.size j k = true))
    (h : wpS P ops w (fun A' => ∀ w', Ext w w' → wpList P ops Q lops A' w') ql a) : wpAny P .any ops Q fuel L0 a w := by
  obtain ⟨hsel, htx⟩ := textB_spec hB
  obtain ⟨nq, nl, ndis⟩ := List.nodup_append.1 hnd
  have lq : ∀ i ∈ ll, i ∉ ql := fun i hi e => ndis i e i hi rfl
  have hin : ∀ i ∈ ql ++ ll, i < ops.size := fun i hi => (hin0 i hi).1
  refine wpAny_inv (I := fun L A X => LateAt P ops w Q ql ll lops L A X ∧ ∀ k, L0.getD k false = true → L.getD k false = true) ?hs ?he fuel L0 a w hfu ?h0
  case h0 =>
    refine ⟨⟨hz0, hc0, .inl ⟨fun i hi => (hin0 i (by simp [hi])).2, Ext.refl _, ?_⟩⟩, fun _ hk => hk⟩
    rw [lf_all fun k hk => by rw [← getD_flip' (by rw [hz0]; exact hin k (by simp [hk]))]; exact (hin0 k (by simp [hk])).2]
    exact h
  case hs =>
    intro L A X i o hIM ho hl hdeps
    obtain ⟨hI, hM⟩ := hIM
    have hil : i < ops.size := (Array.getElem?_eq_some_iff.1 ho).1
    have hiL : i < L.size := by rw [hI.size]; exact hil
    have hlf := getD_flip hl
    have hsize : (L.setIfInBounds i true).size = ops.size := by simp [hI.size]
    have hclosed := hI.closed.step ho hdeps
    have hM' : ∀ k, L0.getD k false = true → (L.setIfInBounds i true).getD k false = true := fun k hk => by
      by_cases e : i = k
      · subst e; exact getD_same hiL
      · rw [getD_set_ne false e]; exact hM k hk
    have hcov : i ∈ ql ++ ll := by
      rcases hcov0 i hil with h1 | h1
      · rw [hM i h1] at hlf; cases hlf
      · exact h1
    have hap : ∀ k, edgeB ops k i = true → L.getD k true = false → ∀ ok, ops[k]? = some ok → ok.apart ops o = true := by
      intro k hed hk ok hok
      rcases edgeB_spec ho hok hed with ⟨e, he, hbe, rfl⟩ | h2
      · have h3 := hdeps e he hbe
        rw [getD_flip hk] at h3
        cases h3
      · exact h2
    have hwt : ∀ k, waits ops ops.size i k = true → L.getD k false = true := fun k hk => waits_listed hI.closed _ i k o ho hdeps hk
    have keep : ∀ k d, i ≠ k → (L.setIfInBounds i true).getD k d = L.getD k d := fun k d hk => getD_set_ne d hk
    have hfl : ∀ k, k < ops.size → L.getD k false = L.getD k true := fun k hk => getD_flip' (by rw [hI.size]; exact hk)
    rcases hI.way with ⟨w2, hX, hw⟩ | ⟨w2, l1, l2, lo2, e1, e2, e3, e4, hw⟩
    · rcases List.mem_append.1 hcov with hiq | hil2
      · obtain ⟨r1, r2, s1, s2, s3⟩ := lf_split nq hq hiq hl
        rw [s1] at hw
        obtain ⟨v, hv, hr⟩ := wpS_take hsel ho r2 r1 A (fun k hk => hap k (s3 k hk).1 (s3 k hk).2) hw
        refine StrongY.wpOp ho hX hv fun w' hw' => ⟨⟨hsize, hclosed, .inl ⟨fun k hk => ?_, hX.trans hw', ?_⟩⟩, hM'⟩
        · rw [keep k _ (fun e => lq k hk (e ▸ hiq))]; exact w2 k hk
        · rw [s2]; exact hr
      · have hall : ∀ k ∈ ql, L.getD k false = true := fun k hk => hwt k (hl1 i hil2 k hk)
        rw [lf_nil fun k hk => by rw [← hfl k (hin k (by simp [hk]))]; exact hall k hk] at hw
        have hw2 : wpList P ops Q lops A X := hw X hX
        cases hll' : ll with
        | nil => rw [hll'] at hil2; cases hil2
        | cons j l2 =>
          have hij : i = j := by
            rw [hll'] at hil2 hl2
            rcases List.mem_cons.1 hil2 with rfl | h2
            · rfl
            · have := hwt j ((List.pairwise_cons.1 hl2).1 i h2)
              rw [w2 j (by rw [hll']; exact List.mem_cons_self)] at this
              cases this
          subst hij
          rw [hll'] at hll nl
          cases lops with
          | nil => simp at hll
          | cons o' lo2 =>
            simp only [List.map_cons, List.cons.injEq] at hll
            rw [ho] at hll
            obtain ⟨ho', hrest⟩ := hll
            injection ho' with ho'
            subst ho'
            refine wpOp_of_list ho hw2 fun a' w' hh => ⟨⟨hsize, hclosed, .inr ⟨fun k hk => ?_, [i], l2, lo2, rfl, fun k hk => ?_, fun k hk => ?_, hrest, hh⟩⟩, hM'⟩
            · rw [keep k _ (fun e => lq i (by rw [hll']; exact List.mem_cons_self) (e ▸ hk))]; exact hall k hk
            · obtain rfl : k = i := by simpa using hk
              exact getD_same hiL
            · rw [keep k _ (fun e => (List.nodup_cons.1 nl).1 (e ▸ hk))]
              exact w2 k (by rw [hll']; exact List.mem_cons_of_mem _ hk)
    · rcases List.mem_append.1 hcov with hiq | hil2
      · rw [w2 i hiq] at hlf; cases hlf
      · have hi2 : i ∈ l2 := by
          rw [e1] at hil2
          rcases List.mem_append.1 hil2 with h2 | h2
          · rw [e2 i h2] at hlf; cases hlf
          · exact h2
        cases l2 with
        | nil => cases hi2
        | cons j l3 =>
          have hl2' := hl2
          have nl' := nl
          rw [e1] at hl2' nl'
          have hij : i = j := by
            rcases List.mem_cons.1 hi2 with rfl | h2
            · rfl
            · have := hwt j ((List.pairwise_cons.1 (List.pairwise_append.1 hl2').2.1).1 i h2)
              rw [e3 j List.mem_cons_self] at this
              cases this
          subst hij
          cases lo2 with
          | nil => simp at e4
          | cons o' lo3 =>
            simp only [List.map_cons, List.cons.injEq] at e4
            rw [ho] at e4
            obtain ⟨ho', hrest⟩ := e4
            injection ho' with ho'
            subst ho'
            obtain ⟨_, nl2, nl3⟩ := List.nodup_append.1 nl'
            refine wpOp_of_list ho hw fun a' w' hh => ⟨⟨hsize, hclosed, .inr ⟨fun k hk => ?_, l1 ++ [i], l3, lo3, by rw [e1]; simp, fun k hk => ?_, fun k hk => ?_, hrest, hh⟩⟩, hM'⟩
            · rw [keep k _ (fun e => lq i hil2 (e ▸ hk))]; exact w2 k hk
            · rcases List.mem_append.1 hk with h2 | h2
              · rw [keep k _ (fun e => nl3 k h2 i List.mem_cons_self e.symm)]; exact e2 k h2
              · obtain rfl : k = i := by simpa using h2
                exact getD_same hiL
            · rw [keep k _ (fun e => (List.nodup_cons.1 nl2).1 (e ▸ hk))]
              exact e3 k (List.mem_cons_of_mem _ hk)
  case he =>
    intro L A X hIM hr
    obtain ⟨hI, hM⟩ := hIM
    have hall : ∀ n k, k < n → k < ops.size → L.getD k false = true := by
      intro n
      induction n with
      | zero => intro k hk; omega
      | succ n ih =>
        intro k hk hkn
        cases hv : L.getD k false with
        | true => rfl
        | false =>
          exfalso
          have ho : ops[k]? = some ops[k] := Array.getElem?_eq_getElem hkn
          have hmem : k ∈ Region.ready .any ops L := mem_ready.2 ⟨by rw [← getD_flip' (by rw [hI.size]; omega)]; exact hv, ops[k], ho, fun e he hbe => ih e.on (by have := htx k _ ho e he hbe; omega) (by have := htx k _ ho e he hbe; omega)⟩
          rw [hr] at hmem
          cases hmem
    have hk : ∀ k, k < ops.size → L.getD k false = true := fun k hk => hall (k + 1) k (by omega) hk
    rcases hI.way with ⟨w2, hX, hw⟩ | ⟨w2, l1, l2, lo2, e1, e2, e3, e4, hw⟩
    · rw [lf_nil fun k hk2 => by rw [← getD_flip' (by rw [hI.size]; exact hin k (by simp [hk2]))]; exact hk k (hin k (by simp [hk2]))] at hw
      have hw2 : wpList P ops Q lops A X := hw X hX
      cases hll' : ll with
      | nil =>
        rw [hll'] at hll
        have : lops = [] := by cases lops with | nil => rfl | cons _ _ => simp at hll
        rw [this] at hw2
        exact hw2
      | cons j l2 =>
        have := w2 j (by rw [hll']; exact List.mem_cons_self)
        rw [hk j (hin j (by rw [hll']; simp))] at this
        cases this
    · cases l2 with
      | nil =>
        have : lo2 = [] := by cases lo2 with | nil => rfl | cons _ _ => simp at e4
        rw [this] at hw
        exact hw
      | cons j l3 =>
        have := e3 j List.mem_cons_self
        rw [hk j (hin j (by rw [e1]; simp))] at this
        cases this
theorem wp_region_lateF {id : Nat} {a : Act} {w : World} (fl : List Nat) (flo : List Oper) (ql : List Nat) (qlo : List Oper) (ll : List Nat) (lops : List Oper) (hmo : P.follows .mixedOrders = true) (hns : Region.noSelect ops = true) (hQ : ∀ c a t v w, Q (.panic c) (a.put (some t) v) w → Q (.panic c) a w) (hB : textB ops = true)
    (hfl : fl.map (ops[·]?) = flo.map some) (htk : takesB ops fl (Array.replicate ops.size false) = true) (hql : ql.map (ops[·]?) = qlo.map some) (hll : ll.map (ops[·]?) = lops.map some)
    (hfu : fl.length ≤ ops.size ∧ (listAll fl (Array.replicate ops.size false)).toList.count false ≤ ops.size - fl.length) (hz0 : (listAll fl (Array.replicate ops.size false)).size = ops.size) (hc0 : closedB ops (listAll fl (Array.replicate ops.size false)) = true)
    (hnd : (ql ++ ll).Nodup) (hcov : ∀ i ∈ List.range ops.size, (listAll fl (Array.replicate ops.size false)).getD i false = true ∨ i ∈ ql ++ ll) (hin : ∀ i ∈ ql ++ ll, i < ops.size ∧ (listAll fl (Array.replicate ops.size false)).getD i false = false)
    (hq : ql.Pairwise (fun k j => edgeB ops k j = true))
    (hl1 : ∀ j ∈ ll, ∀ k ∈ ql, waits ops ops.size j k = true) (hl2 : ll.Pairwise (fun k j => waits ops ops.size j k = true))
    (h : wpPure P ops (fun A => wpStrong P ops w.drew (fun A' => ∀ w', Ext w.drew w' → wpList P ops Q lops A' w') qlo A) flo a) : (Code.region id ops true).wp P Q a w := by
  refine wp_region_any hmo ?_
  have h1 := wpAny_pures (P := P) (Q := Q) (w := w.drew) hns hQ fl flo (Array.replicate ops.size false) a (ops.size - fl.length) hfl htk
  rw [Nat.sub_add_cancel hfu.1] at h1
  refine h1 ?_
  have key : ∀ A, wpStrong P ops w.drew (fun A' => ∀ w', Ext w.drew w' → wpList P ops Q lops A' w') qlo A → wpAny P .any ops Q (ops.size - fl.length) (listAll fl (Array.replicate ops.size false)) A w.drew := fun A hA =>
    wpAny_lateF (listAll fl (Array.replicate ops.size false)) _ hfu.2 hz0 (closedB_spec hc0) ql ll lops hB hll hnd (fun i hi => hcov i (by simpa using hi)) hin hq hl1 hl2 (wpS_of_list ql qlo A hql hA)
  clear h1 hfl
  induction flo generalizing a with
  | nil => exact key a h
  | cons o r ih =>
    obtain ⟨v, y, h2⟩ := h
    exact ⟨v, y, ih h2⟩
end
end Go.Proofs.Ytkoodgfadedeoaa
namespace Go.Proofs.Ytkoodgfadedeoaa
open Go.RowKit Go.BigFrame
theorem grown_refl (w : World) (r : Option Nat) : w.grownBy w r := ⟨rfl, rfl, rfl, Nat.le_refl _, fun _ _ _ => rfl⟩
theorem BV.grown {v : Value} {l : Nat} {b : Nat → BitVec 8} {w X : World} {row : Option Nat} (h : BV v l b w) (hg : w.grownBy X row) (hne : ∀ k, row = some k → ∀ a n c, v = .slice (some a) n c → a.block ≠ k) : BV v l b X := by
  rcases h with h | ⟨a, cap, h1, h2, h3⟩
  · exact .inl h
  · refine .inr ⟨a, cap, h1, h2, fun j hj => ?_, Nat.lt_of_lt_of_le h3.2 hg.size⟩
    have hb := hg.block a.block h3.2 (fun e => hne a.block e.symm a l cap h1 rfl)
    exact (World.cell?_of_block (a := a.add j) (by rw [add_block]; exact hb)).trans (h3.1 j hj)
/-- append of bytes, nil or not -/
theorem wpList_growV {P : Program} {ops : Array Oper} {rest : List Oper} {o : Oper} {a : Act} {Q : Exit → Act → World → Prop} {t e : TypeId} {base n : Nat} {v : Value} {g : Nat → Value} {w : World} (E : ElemIs P t e) (hgd : o.guard = none) (s x : Operand)
    (ho : o.op = .call { callee := .builtin .append, args := #[s, x], argTypes := #[t, t] }) (hs : a.eval s = v) (hown : OwnB base e v n g w)
    (xv : Value) (l : Nat) (b : Nat → BitVec 8) (f : Nat → Value) (hx : a.eval x = xv) (hb : BV xv l b w) (hf1 : ∀ j, j < n → g j = f j) (hf2 : ∀ j, j < l → yv b j = f (n + j))
    (hbytes : n + l ≤ 140737488355328) (hbase : base ≤ w.heap.size)
    (h : ∀ v' w', OwnB base e v' (n + l) f w' → w.grownBy w' v.ownBlock → wpList P ops Q rest (a.put o.dst v') w') : wpList P ops Q (o :: rest) a w := by
  rcases hb with ⟨rfl, rfl⟩ | ⟨ad, cap, rfl, h2, h3⟩
  · exact wpList_grow_none E hgd s x ho hs hown hx (h v w (hown.congr hf1) (grown_refl _ _))
  · exact wpList_grow E hgd s x ho hs hown ad l cap (yv b) f hx h3 (fun _ _ => rfl) hf1 hf2 hbytes hbase h
/-- .. where the operation is guarded -/
theorem wpList_ungrd {P : Program} {ops : Array Oper} {rest : List Oper} {o : Oper} {a : Act} {Q : Exit → Act → World → Prop} {w : World} (hw : Region.wanted o (yielded ops a.tmps) = true) (h : wpList P ops Q ({ o with guard := none } :: rest) a w) : wpList P ops Q (o :: rest) a w := by
  have h1 : Region.wanted { o with guard := none } (yielded ops a.tmps) = true := by unfold Region.wanted; rfl
  unfold wpList at h ⊢
  rw [if_pos h1] at h
  rw [if_pos hw]
  exact h
theorem wpList_growVW {P : Program} {ops : Array Oper} {rest : List Oper} {o : Oper} {a : Act} {Q : Exit → Act → World → Prop} {t e : TypeId} {base n : Nat} {v : Value} {g : Nat → Value} {w : World} (E : ElemIs P t e) (hgd : Region.wanted o (yielded ops a.tmps) = true) (s x : Operand)
    (ho : o.op = .call { callee := .builtin .append, args := #[s, x], argTypes := #[t, t] }) (hs : a.eval s = v) (hown : OwnB base e v n g w)
    (xv : Value) (l : Nat) (b : Nat → BitVec 8) (f : Nat → Value) (hx : a.eval x = xv) (hb : BV xv l b w) (hf1 : ∀ j, j < n → g j = f j) (hf2 : ∀ j, j < l → yv b j = f (n + j))
    (hbytes : n + l ≤ 140737488355328) (hbase : base ≤ w.heap.size)
    (h : ∀ v' w', OwnB base e v' (n + l) f w' → w.grownBy w' v.ownBlock → wpList P ops Q rest (a.put o.dst v') w') : wpList P ops Q (o :: rest) a w :=
  wpList_ungrd hgd (wpList_growV (o := { o with guard := none }) E rfl s x ho hs hown xv l b f hx hb hf1 hf2 hbytes hbase h)
end Go.Proofs.Ytkoodgfadedeoaa
