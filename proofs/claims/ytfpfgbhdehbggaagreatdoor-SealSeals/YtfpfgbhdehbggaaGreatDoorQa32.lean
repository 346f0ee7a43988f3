/-
  A number's four bytes, the document's. A region that draws its order, makes one block and ends with late operations: the quiet ones first in the text. A region that draws its order: pure operations taken first, then quiet ones, one block made, late ones behind: one walk serves every order.
-/
import Derived.Test.YtfpfgbhdehbggaaGreatDoorQa1
import Derived.Test.YtfpfgbhdehbggaaGreatDoorQa31
import Derived.Test.YtfpfgbhdehbggaaGreatDoorQa10
namespace Go.Proofs.YtfpfgbhdehbggaaGreatDoor
open Go.RowKit Go.BigFrame
set_option linter.unusedVariables false
set_option maxRecDepth 20000
def few (n : Nat) (f : Nat → BitVec 8) (v : Value) (X : World) : Prop := ∃ g, v = .slice (some ⟨g, 0, none⟩) n n ∧ X.heap[g]? = some (.cells (row n (yv f)).toArray 5 (0, 0))
theorem few_bv {n : Nat} {f : Nat → BitVec 8} {v : Value} {X : World} (h : few n f v X) : BV v n f X := by
  obtain ⟨g, rfl, h⟩ := h
  exact .inr ⟨⟨g, 0, none⟩, n, rfl, Nat.le_refl _, RowAt.lie (row_heap h) n (Nat.le_refl _)⟩
theorem nb0 {x : Nat} (h : x < 4294967296) : IntKind.u8.wrap (x : Int) = ((numB x 0).toNat : Int) := by
  unfold numB byB
  rw [IntKind.wrap_u8, BitVec.toNat_setWidth, BitVec.toNat_ushiftRight, n4_nat h, Nat.shiftRight_eq_div_pow]
  omega
theorem nb1 {x : Nat} (h : x < 4294967296) : IntKind.u8.wrap ((x : Int) / 256) = ((numB x 1).toNat : Int) := by
  unfold numB byB
  rw [IntKind.wrap_u8, BitVec.toNat_setWidth, BitVec.toNat_ushiftRight, n4_nat h, Nat.shiftRight_eq_div_pow]
  omega
theorem nb2 {x : Nat} (h : x < 4294967296) : IntKind.u8.wrap ((x : Int) / 65536) = ((numB x 2).toNat : Int) := by
  unfold numB byB
  rw [IntKind.wrap_u8, BitVec.toNat_setWidth, BitVec.toNat_ushiftRight, n4_nat h, Nat.shiftRight_eq_div_pow]
  omega
theorem nb3 {x : Nat} (h : x < 4294967296) : IntKind.u8.wrap ((x : Int) / 16777216) = ((numB x 3).toNat : Int) := by
  unfold numB byB
  rw [IntKind.wrap_u8, BitVec.toNat_setWidth, BitVec.toNat_ushiftRight, n4_nat h, Nat.shiftRight_eq_div_pow]
  omega
set_option maxRecDepth 20000 in
set_option maxHeartbeats 4000000 in
theorem four_any (x : Nat) (hx : x < 4294967296) (w : World) : Calls Tryz.prog 29 #[.int .i64 (x : Int)] w fun e w' => ∃ v, e = .returned v ∧ few 4 (numB x) v w' ∧ Ext w w' := by
  have hE := hideit (Ext.refl w)
  go_enter Tryz.func29, Tryz.ntmps29
  go_upto_region 0 with (fail)
  refine wp_region_lit ?_
  refine xm [some (.slice none 0 0)] (by kernel_rfl) (by simp [xr, go_sem]) ?_
  simp only [xw, p0, p1, p2, p3]
  go_upto_region 1 with (fail)
  refine wp_region_lit ?_
  refine xm [some (.int .i64 (x : Int)), some (.int .u8 ((numB x 0).toNat : Int)), some (.int .i64 (x : Int)), some (.int .i64 ((x : Int) / 256)), some (.int .u8 ((numB x 1).toNat : Int)), some (.int .i64 (x : Int)), some (.int .i64 ((x : Int) / 65536)), some (.int .u8 ((numB x 2).toNat : Int)), some (.int .i64 (x : Int)), some (.int .i64 ((x : Int) / 16777216)), some (.int .u8 ((numB x 3).toNat : Int))] (by kernel_rfl) (by simp [xr, go_sem, nb0 hx, nb1 hx, nb2 hx, nb3 hx]) ?_
  simp only [xw, p0, p1, p2, p3]
  refine wpList_to rfl (.slice (some ⟨w.heap.size, 0, none⟩) 4 4) (w.alloc (.cells #[.int .u8 ((numB x 0).toNat : Int), .int .u8 ((numB x 1).toNat : Int), .int .u8 ((numB x 2).toNat : Int), .int .u8 ((numB x 3).toNat : Int)] 5)) (by simp [go_sem]) ?_
  simp only [zp0, zp1, zp2, zp3]
  refine xm [some (.slice (some ⟨w.heap.size, 0, none⟩) 4 4)] (by kernel_rfl) (by simp [xr, go_sem]) ?_
  simp only [xw, p0, p1, p2, p3]
  go_wp2
  go_ret
  exact ⟨_, rfl, ⟨_, rfl, heap_new _ _ _⟩, Below.alloc hE.out (Below.size hE.out) _⟩
end Go.Proofs.YtfpfgbhdehbggaaGreatDoor
namespace Go.Proofs.YtfpfgbhdehbggaaGreatDoor
open Go.RowKit
theorem range_ops (ops : Array Oper) (s q : Nat) (hq : s + q ≤ ops.size) : (List.range' s q).map (ops[·]?) = ((ops.toList.drop s).take q).map some := by
  apply List.ext_getElem?
  intro i
  by_cases h : i < q
  · have h1 : s + i < ops.size := by omega
    simp [h, List.getElem?_drop, h1]
  · simp [List.getElem?_take, h]
theorem wp_region_mixn {P : Program} {ops : Array Oper} {Q : Exit → Act → World → Prop} {id : Nat} {a : Act} {w : World} (q r : Nat) (om : Oper) (lops : List Oper) (hsz : ops.size = q + (1 + r)) (hd : ops.toList.drop q = om :: lops) (hmo : P.follows .mixedOrders = true) (hB : textB ops = true)
    (hq : (List.range' 0 q).Pairwise (fun k j => edgeB ops k j = true)) (hqm : ∀ k ∈ List.range' 0 q, edgeB ops k q = true)
    (hl1 : ∀ j ∈ List.range' (q + 1) r, ∀ k ∈ List.range' 0 q ++ [q], waits ops ops.size j k = true) (hl2 : (List.range' (q + 1) r).Pairwise (fun k j => waits ops ops.size j k = true))
    (h : wpStrong P ops w.drew (MK P ops w.drew Q om lops) (ops.toList.take q) a) : (Code.region id ops true).wp P Q a w := by
  have hall : List.range' 0 q ++ q :: List.range' (q + 1) r = List.range' 0 (q + (1 + r)) := by
    rw [show q :: List.range' (q + 1) r = List.range' (0 + q) (1 + r) by rw [Nat.add_comm 1 r, List.range'_succ, Nat.zero_add]]
    exact List.range'_append_1
  have hm : ops[q]? = some om := by
    have h1 : (ops.toList.drop q)[0]? = some om := by rw [hd]; rfl
    simpa [List.getElem?_drop] using h1
  have hll : (List.range' (q + 1) r).map (ops[·]?) = lops.map some := by
    rw [range_ops ops (q + 1) r (by omega)]
    have h1 : ops.toList.drop (q + 1) = lops := by
      rw [← List.drop_drop, hd]
      rfl
    rw [h1, List.take_of_length_le]
    have h2 := congrArg List.length hd
    simp at h2
    omega
  refine wp_region_mix (List.range' 0 q) q om (List.range' (q + 1) r) lops hmo hB hm hll (by rw [hall]; exact List.nodup_range') (fun i hi => by rw [hall]; simp; omega) (fun i hi => by rw [hall] at hi; simp at hi; omega) hq hqm hl1 hl2 ?_
  refine wpS_of_list _ _ _ ?_ h
  exact range_ops ops 0 q (by omega)
end Go.Proofs.YtfpfgbhdehbggaaGreatDoor
namespace Go.Proofs.YtfpfgbhdehbggaaGreatDoor
open Go.RowKit
section
variable {P : Program} {ops : Array Oper} {W : World} {Q : Exit → Act → World → Prop}
def wpPure (P : Program) (ops : Array Oper) (E : Act → Prop) : List Oper → Act → Prop
  | [], a => E a
  | o :: r, a => ∃ v, Yields P ops o v a ∧ wpPure P ops E r (a.put o.dst v)
theorem wpPure_nil {E : Act → Prop} {a : Act} (h : E a) : wpPure P ops E [] a := h
theorem wpPure_one {E : Act → Prop} {o : Oper} {r : List Oper} {a : Act} (v : Value) (hw : Region.wanted o (yielded ops a.tmps) = true) (hr : ∀ w, (execOp a.eval o).run P w = .ok (.value v) w) (h : wpPure P ops E r (a.put o.dst v)) : wpPure P ops E (o :: r) a := ⟨v, .inl ⟨hw, hr⟩, h⟩
def takesB (ops : Array Oper) : List Nat → Array Bool → Bool
  | [], _ => true
  | i :: r, L => Region.free .any ops L i && (Region.ready .any ops L).contains i && takesB ops r (L.setIfInBounds i true)
def listAll (fl : List Nat) (L : Array Bool) : Array Bool := fl.foldl (fun L i => L.setIfInBounds i true) L
theorem wpAny_pures (hs : Region.noSelect ops = true) (hQ : ∀ c a t v w, Q (.panic c) (a.put (some t) v) w → Q (.panic c) a w) {w : World} : ∀ (fl : List Nat) (lo : List Oper) (L : Array Bool) (a : Act) (fuel : Nat), fl.map (ops[·]?) = lo.map some → takesB ops fl L = true →
    wpPure P ops (fun a' => wpAny P .any ops Q fuel (listAll fl L) a' w) lo a → wpAny P .any ops Q (fuel + fl.length) L a w
  | [], lo, L, a, fuel, hl, _, h => by
    cases lo with
    | nil => exact h
    | cons _ _ => simp at hl
  | i :: fl, lo, L, a, fuel, hl, ht, h => by
    cases lo with
    | nil => simp at hl
    | cons o lo =>
      simp only [List.map_cons, List.cons.injEq] at hl
      unfold takesB at ht
      simp only [Bool.and_eq_true] at ht
      obtain ⟨v, h1, h2⟩ := h
      have h3 := wpAny_pures hs hQ fl lo (L.setIfInBounds i true) (a.put o.dst v) fuel hl.2 ht.2 h2
      exact wpAny_take (fuel := fuel + fl.length) hl.1 hs ht.1.1 ht.1.2 (fun c a w => by
        cases o.dst with
        | none => exact id
        | some t => exact hQ c a t _ w) h1 h3
def closedB (ops : Array Oper) (L : Array Bool) : Bool := (List.range ops.size).all fun i => match ops[i]? with
  | none => true
  | some o => !L.getD i false || o.after.all fun e => !Region.binds .any e || L.getD e.on false
theorem closedB_spec {L : Array Bool} (h : closedB ops L = true) : Closed ops L := by
  intro i o ho hi e he hb
  unfold closedB at h
  rw [List.all_eq_true] at h
  have h1 := h i (by simpa using (Array.getElem?_eq_some_iff.1 ho).1)
  simp only [ho, hi, Bool.not_true, Bool.false_or] at h1
  rw [Array.all_eq_true_iff_forall_mem] at h1
  have h2 := h1 e he
  simpa [hb] using h2
theorem wpAny_mix {a : Act} {w : World} (L0 : Array Bool) (fuel : Nat) (hfu : L0.toList.count false ≤ fuel) (hz0 : L0.size = ops.size) (hc0 : Closed ops L0) (ql : List Nat) (m : Nat) (om : Oper) (ll : List Nat) (lops : List Oper) (hB : textB ops = true) (hm : ops[m]? = some om) (hll : ll.map (ops[·]?) = lops.map some)
    (hnd : (ql ++ m :: ll).Nodup) (hcov0 : ∀ i, i < ops.size → L0.getD i false = true ∨ i ∈ ql ++ m :: ll) (hin0 : ∀ i ∈ ql ++ m :: ll, i < ops.size ∧ L0.getD i false = false) (hq : ql.Pairwise (fun k j => edgeB ops k j = true)) (hqm : ∀ k ∈ ql, edgeB ops k m = true)
    (hl1 : ∀ j ∈ ll, ∀ k ∈ ql ++ [m], waits ops ops.size j k = true) (hl2 : ll.Pairwise (fun k j => waits ops ops.size j k = true))
    (h : wpS P ops w (MK P ops w Q om lops) ql a) : wpAny P .any ops Q fuel L0 a w := by
  obtain ⟨hsel, htx⟩ := textB_spec hB
  obtain ⟨nq, nml, ndis⟩ := List.nodup_append.1 hnd
  obtain ⟨nm, nl⟩ := List.nodup_cons.1 nml
  have mq : m ∉ ql := fun e => ndis m e m List.mem_cons_self rfl
  have lq : ∀ i ∈ ll, i ∉ ql := fun i hi e => ndis i e i (List.mem_cons_of_mem _ hi) rfl
  have hin : ∀ i ∈ ql ++ m :: ll, i < ops.size := fun i hi => (hin0 i hi).1
  refine wpAny_inv (I := fun L A X => MixAt' P ops w Q ql m om ll lops L A X ∧ ∀ k, L0.getD k false = true → L.getD k false = true) ?hs ?he fuel L0 a w hfu ?h0
  case h0 =>
    refine ⟨⟨hz0, hc0, .inl ⟨(hin0 m (by simp)).2, fun i hi => (hin0 i (by simp [hi])).2, Ext.refl _, ?_⟩⟩, fun _ hk => hk⟩
    rw [lf_all fun k hk => by rw [← getD_flip' (by rw [hz0]; exact hin k (by simp [hk]))]; exact (hin0 k (by simp [hk])).2]
    exact h
  case hs =>
    intro L A X i o hIM ho hl hdeps
    obtain ⟨hI, hM⟩ := hIM
    have hil : i < ops.size := (Array.getElem?_eq_some_iff.1 ho).1
    have hiL : i < L.size := by rw [hI.size]; exact hil
    have hlf := getD_flip hl
    have hsize : (L.setIfInBounds i true).size = ops.size := by simp [hI.size]
    have hclosed := hI.closed.step ho hdeps
    have hM' : ∀ k, L0.getD k false = true → (L.setIfInBounds i true).getD k false = true := fun k hk => by
      by_cases e : i = k
      · subst e; exact getD_same hiL
      · rw [getD_set_ne false e]; exact hM k hk
    have hcov : i ∈ ql ++ m :: ll := by
      rcases hcov0 i hil with h1 | h1
      · rw [hM i h1] at hlf; cases hlf
      · exact h1
    have hap : ∀ k, edgeB ops k i = true → L.getD k true = false → ∀ ok, ops[k]? = some ok → ok.apart ops o = true := by
      intro k hed hk ok hok
      rcases edgeB_spec ho hok hed with ⟨e, he, hbe, rfl⟩ | h2
      · have h3 := hdeps e he hbe
        rw [getD_flip hk] at h3
        cases h3
      · exact h2
    have hwt : ∀ k, waits ops ops.size i k = true → L.getD k false = true := fun k hk => waits_listed hI.closed _ i k o ho hdeps hk
    have keep : ∀ k d, i ≠ k → (L.setIfInBounds i true).getD k d = L.getD k d := fun k d hk => getD_set_ne d hk
    have hfl : ∀ k, k < ops.size → L.getD k false = L.getD k true := fun k hk => getD_flip' (by rw [hI.size]; exact hk)
    rcases hI.way with ⟨w1, w2, hX, hw⟩ | ⟨w1, w2, b, n, g, hX, hR, hw⟩ | ⟨w1, w2, l1, l2, lo2, e1, e2, e3, e4, hw⟩
    · rcases List.mem_append.1 hcov with hiq | hir
      · obtain ⟨r1, r2, s1, s2, s3⟩ := lf_split nq hq hiq hl
        rw [s1] at hw
        obtain ⟨v, hv, hr⟩ := wpS_take hsel ho r2 r1 A (fun k hk => hap k (s3 k hk).1 (s3 k hk).2) hw
        refine StrongY.wpOp ho hX hv fun w' hw' => ⟨⟨hsize, hclosed, .inl ⟨?_, fun k hk => ?_, hX.trans hw', ?_⟩⟩, hM'⟩
        · rw [keep m _ (fun e => mq (e ▸ hiq))]; exact w1
        · rw [keep k _ (fun e => lq k hk (e ▸ hiq))]; exact w2 k hk
        · rw [s2]; exact hr
      · rcases List.mem_cons.1 hir with rfl | hil2
        · rw [hm] at ho
          injection ho with ho
          subst ho
          obtain ⟨n, g, vf, g1, g2⟩ := mk_take hsel hm (lf L ql) A (fun k hk => by
            obtain ⟨k1, k2⟩ := List.mem_filter.1 hk
            exact hap k (hqm k k1) (by simpa using k2)) hw
          refine StrongM.wpOp hm hX g1 fun w' hw' hR => ⟨⟨hsize, hclosed, .inr (.inl ⟨getD_same hiL, fun k hk => ?_, _, n, g, hX.trans hw', hR, ?_⟩)⟩, hM'⟩
          · rw [keep k _ (fun e => nm (e ▸ hk))]; exact w2 k hk
          · rw [lf_other mq]
            exact g2 X.heap.size (Below.size hX)
        · have := hwt m (hl1 i hil2 m (by simp))
          rw [w1] at this
          cases this
    · rcases List.mem_append.1 hcov with hiq | hir
      · obtain ⟨r1, r2, s1, s2, s3⟩ := lf_split nq hq hiq hl
        rw [s1] at hw
        obtain ⟨v, hv, hr⟩ := wpS_take hsel ho r2 r1 A (fun k hk => hap k (s3 k hk).1 (s3 k hk).2) hw
        refine StrongY.wpOp ho hX hv fun w' hw' => ⟨⟨hsize, hclosed, .inr (.inl ⟨?_, fun k hk => ?_, b, n, g, hX.trans hw', hR.carry hw', ?_⟩)⟩, hM'⟩
        · rw [keep m _ (fun e => mq (e ▸ hiq))]; exact w1
        · rw [keep k _ (fun e => lq k hk (e ▸ hiq))]; exact w2 k hk
        · rw [s2]; exact hr
      · rcases List.mem_cons.1 hir with rfl | hil2
        · rw [w1] at hlf; cases hlf
        · have hall : ∀ k ∈ ql, L.getD k false = true := fun k hk => hwt k (hl1 i hil2 k (by simp [hk]))
          rw [lf_nil fun k hk => by rw [← hfl k (hin k (by simp [hk]))]; exact hall k hk] at hw
          have hw2 : wpList P ops Q lops A X := hw X hX hR
          cases hll' : ll with
          | nil => rw [hll'] at hil2; cases hil2
          | cons j l2 =>
            have hij : i = j := by
              rw [hll'] at hil2 hl2
              rcases List.mem_cons.1 hil2 with rfl | h2
              · rfl
              · have := hwt j ((List.pairwise_cons.1 hl2).1 i h2)
                rw [w2 j (by rw [hll']; exact List.mem_cons_self)] at this
                cases this
            subst hij
            rw [hll'] at hll nl
            cases lops with
            | nil => simp at hll
            | cons o' lo2 =>
              simp only [List.map_cons, List.cons.injEq] at hll
              rw [ho] at hll
              obtain ⟨ho', hrest⟩ := hll
              injection ho' with ho'
              subst ho'
              refine wpOp_of_list ho hw2 fun a' w' hh => ⟨⟨hsize, hclosed, .inr (.inr ⟨?_, fun k hk => ?_, [i], l2, lo2, rfl, fun k hk => ?_, fun k hk => ?_, hrest, hh⟩)⟩, hM'⟩
              · rw [keep m _ (fun e => nm (by rw [hll', ← e]; exact List.mem_cons_self))]; exact w1
              · rw [keep k _ (fun e => lq i (by rw [hll']; exact List.mem_cons_self) (e ▸ hk))]; exact hall k hk
              · obtain rfl : k = i := by simpa using hk
                exact getD_same hiL
              · rw [keep k _ (fun e => (List.nodup_cons.1 nl).1 (e ▸ hk))]
                exact w2 k (by rw [hll']; exact List.mem_cons_of_mem _ hk)
    · rcases List.mem_append.1 hcov with hiq | hir
      · rw [w2 i hiq] at hlf; cases hlf
      · rcases List.mem_cons.1 hir with rfl | hil2
        · rw [w1] at hlf; cases hlf
        · have hi2 : i ∈ l2 := by
            rw [e1] at hil2
            rcases List.mem_append.1 hil2 with h2 | h2
            · rw [e2 i h2] at hlf; cases hlf
            · exact h2
          cases l2 with
          | nil => cases hi2
          | cons j l3 =>
            have hl2' := hl2
            have nl' := nl
            rw [e1] at hl2' nl'
            have hij : i = j := by
              rcases List.mem_cons.1 hi2 with rfl | h2
              · rfl
              · have := hwt j ((List.pairwise_cons.1 (List.pairwise_append.1 hl2').2.1).1 i h2)
                rw [e3 j List.mem_cons_self] at this
                cases this
            subst hij
            cases lo2 with
            | nil => simp at e4
            | cons o' lo3 =>
              simp only [List.map_cons, List.cons.injEq] at e4
              rw [ho] at e4
              obtain ⟨ho', hrest⟩ := e4
              injection ho' with ho'
              subst ho'
              obtain ⟨_, nl2, nl3⟩ := List.nodup_append.1 nl'
              refine wpOp_of_list ho hw fun a' w' hh => ⟨⟨hsize, hclosed, .inr (.inr ⟨?_, fun k hk => ?_, l1 ++ [i], l3, lo3, by rw [e1]; simp, fun k hk => ?_, fun k hk => ?_, hrest, hh⟩)⟩, hM'⟩
              · rw [keep m _ (fun e => nm (e ▸ hil2))]; exact w1
              · rw [keep k _ (fun e => lq i hil2 (e ▸ hk))]; exact w2 k hk
              · rcases List.mem_append.1 hk with h2 | h2
                · rw [keep k _ (fun e => nl3 k h2 i List.mem_cons_self e.symm)]; exact e2 k h2
                · obtain rfl : k = i := by simpa using h2
                  exact getD_same hiL
              · rw [keep k _ (fun e => (List.nodup_cons.1 nl2).1 (e ▸ hk))]
                exact e3 k (List.mem_cons_of_mem _ hk)
  case he =>
    intro L A X hIM hr
    obtain ⟨hI, hM⟩ := hIM
    have hall : ∀ n k, k < n → k < ops.size → L.getD k false = true := by
      intro n
      induction n with
      | zero => intro k hk; omega
      | succ n ih =>
        intro k hk hkn
        cases hv : L.getD k false with
        | true => rfl
        | false =>
          exfalso
          have ho : ops[k]? = some ops[k] := Array.getElem?_eq_getElem hkn
          have hmem : k ∈ Region.ready .any ops L := mem_ready.2 ⟨by rw [← getD_flip' (by rw [hI.size]; omega)]; exact hv, ops[k], ho, fun e he hbe => ih e.on (by have := htx k _ ho e he hbe; omega) (by have := htx k _ ho e he hbe; omega)⟩
          rw [hr] at hmem
          cases hmem
    have hk : ∀ k, k < ops.size → L.getD k false = true := fun k hk => hall (k + 1) k (by omega) hk
    rcases hI.way with ⟨w1, w2, hX, hw⟩ | ⟨w1, w2, b, n, g, hX, hR, hw⟩ | ⟨w1, w2, l1, l2, lo2, e1, e2, e3, e4, hw⟩
    · rw [hk m (hin m (by simp))] at w1; cases w1
    · rw [lf_nil fun k hk2 => by rw [← getD_flip' (by rw [hI.size]; exact hin k (by simp [hk2]))]; exact hk k (hin k (by simp [hk2]))] at hw
      have hw2 : wpList P ops Q lops A X := hw X hX hR
      cases hll' : ll with
      | nil =>
        rw [hll'] at hll
        have : lops = [] := by cases lops with | nil => rfl | cons _ _ => simp at hll
        rw [this] at hw2
        exact hw2
      | cons j l2 =>
        have := w2 j (by rw [hll']; exact List.mem_cons_self)
        rw [hk j (hin j (by rw [hll']; simp))] at this
        cases this
    · cases l2 with
      | nil =>
        have : lo2 = [] := by cases lo2 with | nil => rfl | cons _ _ => simp at e4
        rw [this] at hw
        exact hw
      | cons j l3 =>
        have := e3 j List.mem_cons_self
        rw [hk j (hin j (by rw [e1]; simp))] at this
        cases this
theorem wp_region_mixF {id : Nat} {a : Act} {w : World} (fl : List Nat) (flo : List Oper) (ql : List Nat) (qlo : List Oper) (m : Nat) (om : Oper) (ll : List Nat) (lops : List Oper) (hmo : P.follows .mixedOrders = true) (hns : Region.noSelect ops = true) (hQ : ∀ c a t v w, Q (.panic c) (a.put (some t) v) w → Q (.panic c) a w) (hB : textB ops = true)
    (hfl : fl.map (ops[·]?) = flo.map some) (htk : takesB ops fl (Array.replicate ops.size false) = true) (hql : ql.map (ops[·]?) = qlo.map some) (hm : ops[m]? = some om) (hll : ll.map (ops[·]?) = lops.map some)
    (hfu : fl.length ≤ ops.size ∧ (listAll fl (Array.replicate ops.size false)).toList.count false ≤ ops.size - fl.length) (hz0 : (listAll fl (Array.replicate ops.size false)).size = ops.size) (hc0 : closedB ops (listAll fl (Array.replicate ops.size false)) = true)
    (hnd : (ql ++ m :: ll).Nodup) (hcov : ∀ i ∈ List.range ops.size, (listAll fl (Array.replicate ops.size false)).getD i false = true ∨ i ∈ ql ++ m :: ll) (hin : ∀ i ∈ ql ++ m :: ll, i < ops.size ∧ (listAll fl (Array.replicate ops.size false)).getD i false = false)
    (hq : ql.Pairwise (fun k j => edgeB ops k j = true)) (hqm : ∀ k ∈ ql, edgeB ops k m = true)
    (hl1 : ∀ j ∈ ll, ∀ k ∈ ql ++ [m], waits ops ops.size j k = true) (hl2 : ll.Pairwise (fun k j => waits ops ops.size j k = true))
    (h : wpPure P ops (fun A => wpStrong P ops w.drew (MK P ops w.drew Q om lops) qlo A) flo a) : (Code.region id ops true).wp P Q a w := by
  refine wp_region_any hmo ?_
  have h1 := wpAny_pures (P := P) (Q := Q) (w := w.drew) hns hQ fl flo (Array.replicate ops.size false) a (ops.size - fl.length) hfl htk
  rw [Nat.sub_add_cancel hfu.1] at h1
  refine h1 ?_
  have key : ∀ A, wpStrong P ops w.drew (MK P ops w.drew Q om lops) qlo A → wpAny P .any ops Q (ops.size - fl.length) (listAll fl (Array.replicate ops.size false)) A w.drew := fun A hA =>
    wpAny_mix (listAll fl (Array.replicate ops.size false)) _ hfu.2 hz0 (closedB_spec hc0) ql m om ll lops hB hm hll hnd (fun i hi => hcov i (by simpa using hi)) hin hq hqm hl1 hl2 (wpS_of_list ql qlo A hql hA)
  clear h1 hfl
  induction flo generalizing a with
  | nil => exact key a h
  | cons o r ih =>
    obtain ⟨v, y, h2⟩ := h
    exact ⟨v, y, ih h2⟩
end
end Go.Proofs.YtfpfgbhdehbggaaGreatDoor
