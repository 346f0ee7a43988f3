/-
  A region that draws its order, told as in Lad; besides, an operation that waits for all that is listed ahead of it may turn what the floating reads saw; no word of the program. The plan of redos: the walk.
-/
import Derived.Test.YtiakkclabgelfaaDoorQc21
import Derived.Test.YtiakkclabgelfaaDoorQc1
import Derived.Test.YtiakkclabgelfaaDoorQc19
import Derived.Test.YtiakkclabgelfaaDoorQc20
namespace Go.Proofs.YtiakkclabgelfaaDoor
open Go.RowKit
section
variable {P : Program} {ops : Array Oper} {Q : Exit → Act → World → Prop} {brk : List Nat}
def wpZ (P : Program) (ops : Array Oper) (Q : Exit → Act → World → Prop) (brk : List Nat) : List (Bool × Nat) → (World → Prop) → Act → World → Prop
  | [], _, a, w => Q .normal a w
  | (false, i) :: r, C, a, w => ∃ o v, ops[i]? = some o ∧ StrC P ops C o v a ∧ wpZ P ops Q brk r C (a.put o.dst v) w
  | (true, i) :: r, C, a, w => ∃ o, ops[i]? = some o ∧ EffY P ops o w (fun v w' => ∃ C' : World → Prop, (i ∈ brk ∨ ∀ X, C' X → C X) ∧ C' w' ∧ wpZ P ops Q brk r C' (a.put o.dst v) w') a
theorem wpZ_float {C : World → Prop} (hsel : ∀ (j : Nat) (o : Oper) cs b, ops[j]? = some o → o.op ≠ .select cs b) {i : Nat} {o : Oper} (hi : ops[i]? = some o) (s2 : List (Bool × Nat)) {w : World} : ∀ (s1 : List (Bool × Nat)) (a : Act), (∀ p ∈ s1, p.1 = false ∧ ∀ ok, ops[p.2]? = some ok → ok.apart ops o = true) →
    wpZ P ops Q brk (s1 ++ (false, i) :: s2) C a w → ∃ v, StrC P ops C o v a ∧ wpZ P ops Q brk (s1 ++ s2) C (a.put o.dst v) w
  | [], a, _, ⟨o', v, h1, h2, h3⟩ => by
    rw [hi] at h1
    injection h1 with h1
    subst h1
    exact ⟨v, h2, h3⟩
  | (true, k) :: s1, a, hap, h => by have := (hap (true, k) List.mem_cons_self).1; cases this
  | (false, k) :: s1, a, hap, ⟨ok, vk, h1, h2, h3⟩ => by
    obtain ⟨p1, p2, p3⟩ := Oper.apart_spec ((hap (false, k) List.mem_cons_self).2 ok h1)
    obtain ⟨v, g1, g2⟩ := wpZ_float hsel hi s2 s1 _ (fun k' hk' => hap k' (List.mem_cons_of_mem _ hk')) h3
    refine ⟨v, (StrC.put (fun cs b => hsel i o cs b hi) p1).1 g1, ok, vk, h1, (StrC.put (fun cs b => hsel k ok cs b h1) p3).2 h2, ?_⟩
    rw [← Act.put_comm a vk v p2]
    exact g2
theorem wpZ_stand {C : World → Prop} (hsel : ∀ (j : Nat) (o : Oper) cs b, ops[j]? = some o → o.op ≠ .select cs b) {i : Nat} {o : Oper} (hi : ops[i]? = some o) (s2 : List (Bool × Nat)) {w : World} : ∀ (s1 : List (Bool × Nat)) (a : Act), (s1 = [] ∨ i ∉ brk) → (∀ p ∈ s1, p.1 = false ∧ ∀ ok, ops[p.2]? = some ok → ok.apart ops o = true) →
    wpZ P ops Q brk (s1 ++ (true, i) :: s2) C a w → EffY P ops o w (fun v w' => ∃ C' : World → Prop, (i ∈ brk ∨ ∀ X, C' X → C X) ∧ C' w' ∧ wpZ P ops Q brk (s1 ++ s2) C' (a.put o.dst v) w') a
  | [], a, _, _, ⟨o', h1, h2⟩ => by
    rw [hi] at h1
    injection h1 with h1
    subst h1
    exact h2
  | (true, k) :: s1, a, _, hap, h => by have := (hap (true, k) List.mem_cons_self).1; cases this
  | (false, k) :: s1, a, hb, hap, ⟨ok, vk, h1, h2, h3⟩ => by
    have hnb : i ∉ brk := by
      rcases hb with hb | hb
      · cases hb
      · exact hb
    obtain ⟨p1, p2, p3⟩ := Oper.apart_spec ((hap (false, k) List.mem_cons_self).2 ok h1)
    have g := wpZ_stand hsel hi s2 s1 _ (.inr hnb) (fun k' hk' => hap k' (List.mem_cons_of_mem _ hk')) h3
    refine EffY.mono (fun v w' ⟨C', c1, c2, c3⟩ => ⟨C', c1, c2, ok, vk, h1, ((StrC.put (fun cs b => hsel k ok cs b h1) p3).2 h2).mono (c1.resolve_left hnb), ?_⟩) ((EffY.put (fun cs b => hsel i o cs b hi) p1).1 g)
    rw [← Act.put_comm a vk v p2]
    exact c3
structure LadZAt (P : Program) (ops : Array Oper) (Q : Exit → Act → World → Prop) (brk : List Nat) (l : List (Bool × Nat)) (L : Array Bool) (A : Act) (w : World) : Prop where
  size : L.size = ops.size
  closed : Closed ops L
  way : ∃ C : World → Prop, C w ∧ wpZ P ops Q brk (lfx L l) C A w
def ladZB (ops : Array Oper) (brk : List Nat) (p q : Bool × Nat) : Bool := ladB ops p q && (!brk.contains q.2 || reachB ops q.2 p.2)
theorem wp_region_ladz {id : Nat} {a : Act} {w : World} (C : World → Prop) (brk : List Nat) (l : List (Bool × Nat)) (hmo : P.follows .mixedOrders = true) (hB : textB ops = true) (hnd : (l.map (·.2)).Nodup) (hcov : ∀ i ∈ List.range ops.size, i ∈ l.map (·.2)) (hin : ∀ p ∈ l, p.2 < ops.size)
    (hp : l.Pairwise (fun p q => ladZB ops brk p q = true)) (hC : C w.drew) (h : wpZ P ops Q brk l C a w.drew) : (Code.region id ops true).wp P Q a w := by
  obtain ⟨hsel, htx⟩ := textB_spec hB
  refine wp_region_inv (I := fun L A X => LadZAt P ops Q brk l L A X) hmo ?h0 ?hs ?he
  case h0 =>
    have hf0 : ∀ k d, k < ops.size → (Array.replicate ops.size false).getD k d = false := fun k d hk => by unfold Array.getD; simp [hk]
    refine ⟨by simp, ?_, C, hC, ?_⟩
    · intro i o ho hi
      rw [hf0 i _ (Array.getElem?_eq_some_iff.1 ho).1] at hi
      cases hi
    · rw [show lfx (Array.replicate ops.size false) l = l from List.filter_eq_self.2 fun p hpm => by simp [hf0 p.2 true (hin p hpm)]]
      exact h
  case hs =>
    intro L A X i o hI ho hl hdeps
    have hil : i < ops.size := (Array.getElem?_eq_some_iff.1 ho).1
    have hsize : (L.setIfInBounds i true).size = ops.size := by simp [hI.size]
    have hclosed := hI.closed.step ho hdeps
    have hap : ∀ k, edgeB ops k i = true → L.getD k true = false → ∀ ok, ops[k]? = some ok → ok.apart ops o = true := by
      intro k hed hk ok hok
      rcases edgeB_spec ho hok hed with ⟨e, he, hbe, rfl⟩ | h2
      · have h3 := hdeps e he hbe
        rw [getD_flip hk] at h3
        cases h3
      · exact h2
    have hwt : ∀ k, reachB ops i k = true → L.getD k false = true := fun k hk => reachB_listed hI.closed i k o ho hdeps hk
    obtain ⟨p, hpl, rfl⟩ := List.mem_map.1 (hcov i (by simpa using hil))
    obtain ⟨r1, r2, s1, s2, s3⟩ := lfx_split hnd hp hpl hl
    have hr1 : ∀ q ∈ r1, q.1 = false ∧ ∀ ok, ops[q.2]? = some ok → ok.apart ops o = true := by
      intro q hq
      obtain ⟨t1, t2⟩ := s3 q hq
      unfold ladZB at t1
      rw [Bool.and_eq_true] at t1
      replace t1 := t1.1
      unfold ladB at t1
      cases hb : q.1 with
      | true =>
        rw [hb, if_pos rfl] at t1
        have := hwt _ t1
        rw [getD_flip t2] at this
        cases this
      | false =>
        rw [hb, if_neg (by simp)] at t1
        exact ⟨rfl, hap q.2 t1 t2⟩
    have hr2 : r1 = [] ∨ p.2 ∉ brk := by
      by_cases hbk : p.2 ∈ brk
      · refine .inl ?_
        cases hr : r1 with
        | nil => rfl
        | cons q r =>
          exfalso
          obtain ⟨t1, t2⟩ := s3 q (by rw [hr]; exact List.mem_cons_self)
          unfold ladZB at t1
          rw [Bool.and_eq_true, Bool.or_eq_true] at t1
          rcases t1.2 with h9 | h9
          · simp [hbk] at h9
          · have := hwt _ h9
            rw [getD_flip t2] at this
            cases this
      · exact .inr hbk
    obtain ⟨C1, hC1, hw⟩ := hI.way
    rw [s1] at hw
    obtain ⟨b, i⟩ := p
    cases b with
    | false =>
      obtain ⟨v, g1, g2⟩ := wpZ_float hsel ho r2 r1 A hr1 hw
      exact StrC.wpOp ho hC1 g1 ⟨hsize, hclosed, C1, hC1, by rw [s2]; exact g2⟩
    | true => exact EffY.wpOp ho (wpZ_stand hsel ho r2 r1 A hr2 hr1 hw) fun v w' ⟨C', c1, c2, c3⟩ => ⟨hsize, hclosed, C', c2, by rw [s2]; exact c3⟩
  case he =>
    intro L A X hI hr
    have hall : ∀ n k, k < n → k < ops.size → L.getD k false = true := by
      intro n
      induction n with
      | zero => intro k hk; omega
      | succ n ih =>
        intro k hk hkn
        cases hv : L.getD k false with
        | true => rfl
        | false =>
          exfalso
          have ho : ops[k]? = some ops[k] := Array.getElem?_eq_getElem hkn
          have hmem : k ∈ Region.ready .any ops L := mem_ready.2 ⟨by rw [← getD_flip' (by rw [hI.size]; omega)]; exact hv, ops[k], ho, fun e he hbe => ih e.on (by have := htx k _ ho e he hbe; omega) (by have := htx k _ ho e he hbe; omega)⟩
          rw [hr] at hmem
          cases hmem
    obtain ⟨C1, hC1, hw⟩ := hI.way
    rw [show lfx L l = [] from List.filter_eq_nil_iff.2 fun p hpm => by
      have := hall (p.2 + 1) p.2 (by omega) (hin p hpm)
      rw [getD_flip' (by rw [hI.size]; exact hin p hpm)] at this
      simp [this]] at hw
    exact hw
theorem wpZ_nil {C : World → Prop} {a : Act} {w : World} (h : Q .normal a w) : wpZ P ops Q brk [] C a w := h
theorem wpZ_f {C : World → Prop} {a : Act} {w : World} {i : Nat} {r : List (Bool × Nat)} (o : Oper) (v : Value) (ho : ops[i]? = some o) (hw : Region.wanted o (yielded ops a.tmps) = true) (hr : ∀ X, C X → (execOp a.eval o).run P X = .ok (.value v) X) (h : wpZ P ops Q brk r C (a.put o.dst v) w) : wpZ P ops Q brk ((false, i) :: r) C a w := ⟨o, v, ho, .inl ⟨hw, hr⟩, h⟩
theorem wpZ_call {C : World → Prop} {a : Act} {w : World} {i : Nat} {r : List (Bool × Nat)} (o : Oper) {f : FuncId} {args : Array Value} (ho : ops[i]? = some o) (hw : Region.wanted o (yielded ops a.tmps) = true) (hr : (execOp a.eval o).run P w = .ok (.enter f args) w)
    (hc : Calls P f args w fun e w' => ∃ v, e = .returned v ∧ ∃ C' : World → Prop, (i ∈ brk ∨ ∀ X, C' X → C X) ∧ C' w' ∧ wpZ P ops Q brk r C' (a.put o.dst v) w') : wpZ P ops Q brk ((true, i) :: r) C a w := ⟨o, ho, .inl ⟨hw, by rw [hr]; exact hc⟩⟩
theorem wpZ_to {C : World → Prop} {a : Act} {w : World} {i : Nat} {r : List (Bool × Nat)} (o : Oper) (v : Value) (w' : World) (ho : ops[i]? = some o) (hw : Region.wanted o (yielded ops a.tmps) = true) (hr : (execOp a.eval o).run P w = .ok (.value v) w') (C' : World → Prop) (h1 : i ∈ brk ∨ ∀ X, C' X → C X) (h2 : C' w') (h : wpZ P ops Q brk r C' (a.put o.dst v) w') : wpZ P ops Q brk ((true, i) :: r) C a w := ⟨o, ho, .inl ⟨hw, by rw [hr]; exact ⟨C', h1, h2, h⟩⟩⟩
theorem wpZ_st {C : World → Prop} {a : Act} {w : World} {i : Nat} {r : List (Bool × Nat)} (o : Oper) (w' : World) (ho : ops[i]? = some o) (hw : Region.wanted o (yielded ops a.tmps) = true) (hr : (execOp a.eval o).run P w = .ok .skip w') (C' : World → Prop) (h1 : i ∈ brk ∨ ∀ X, C' X → C X) (h2 : C' w') (h : wpZ P ops Q brk r C' (a.put o.dst undef) w') : wpZ P ops Q brk ((true, i) :: r) C a w := ⟨o, ho, .inl ⟨hw, by rw [hr]; exact ⟨C', h1, h2, h⟩⟩⟩
end
end Go.Proofs.YtiakkclabgelfaaDoor
namespace Go.Proofs.YtiakkclabgelfaaDoor
set_option maxRecDepth 20000
open Go.RowKit Go.BigFrame
theorem exec_loadL {P : Program} {o : Oper} {a : Act} {w : World} (t : TypeId) (x : Operand) (ho : o.op = .load t x) (ad : Addr) (n : Nat) (g : Nat → Value) {d : TypeDesc} (hx : a.eval x = .pointer (some ad)) (h : LieAt ad n g w)
    (hu : P.underlying t = some d) (hd : d.isRow = true) (hi : (P.info? t).map (·.size) = some n) : (execOp a.eval o).run P w = .ok (.value (.agg (row n g).toArray)) w := by
  have hl := loadLie (P := P) h
  cases hq : P.info? t with
  | none => simp [hq] at hi
  | some i =>
    have hs : i.size = n := by simpa [hq] using hi
    have hagg : (isAgg t).run P w = .ok true w := by
      unfold isAgg
      rw [Sem.run_bind, run_underlying hu w]
      cases d <;> simp_all
    unfold execOp
    simp [ho, hx, Instr.loadAt, Instr.sureAddr, Sem.run_bind, loadVar, hagg, sizeOf, typeInfo, hq, hs, hl]
def kpI (x y : Int) (j : Nat) : Value := if j = 0 then .int .i64 x else .int .i64 y
def kpV (kb kw : Nat → Int) (j : Nat) : Value := kpI (kb (j / 2)) (kw (j / 2)) (j % 2)
def KL (v : Value) (n : Nat) (kb kw : Nat → Int) (W : World) : Prop := (v = .slice none 0 0 ∧ n = 0) ∨ ∃ a cap, v = .slice (some a) n cap ∧ n ≤ cap ∧ LieAt a (n * 2) (kpV kb kw) W
theorem exec_loadR {P : Program} {o : Oper} {a : Act} {w : World} (t : TypeId) (x : Operand) (ho : o.op = .load t x) (b off n : Nat) (g : Nat → Value) {d : TypeDesc} (hx : a.eval x = .pointer (some ⟨b, off, none⟩)) (h : w.rangeAt b off (row n g))
    (hu : P.underlying t = some d) (hd : d.isRow = true) (hi : (P.info? t).map (·.size) = some n) : (execOp a.eval o).run P w = .ok (.value (.agg (row n g).toArray)) w := by
  unfold execOp
  simp only [ho, hx, Instr.loadAt, Instr.sureAddr, Sem.run_bind, Sem.run_pure, Result.andThen_ok, run_loadVar_mid (P := P) w b off t (row n g) _ h hu hd (by rw [row_length]; exact hi)]
theorem info51 : (Tryd.prog.info? 47).map (·.size) = some 2 := by kernel_rfl
theorem info47 : (Tryd.prog.info? 76).map (·.size) = some 3 := by kernel_rfl
theorem elem36 : ElemB Tryd.prog 74 3 8 := elem_b Tryd.underlying74 (by kernel_rfl) (by kernel_rfl) (by kernel_rfl)
theorem alloc47 {o : Oper} {a : Act} {w : World} (ho : o.op = .alloc 76) : (execOp a.eval o).run Tryd.prog w = .ok (.value (.pointer (some ⟨w.heap.size, 0, none⟩))) (w.alloc (.cells #[.int .u64 0, .int .u64 0, .slice none 0 0] 76)) := by
  unfold execOp
  simp only [ho, Instr.alloc, show (zeroValue 76).run Tryd.prog w = .ok (.agg #[.int .u64 0, .int .u64 0, .slice none 0 0]) w by kernel_rfl, newVar, newRow, Value.cells, Sem.run_bind, Sem.run_pure, Result.andThen_ok]
  rfl
theorem alloc51 {o : Oper} {a : Act} {w : World} (ho : o.op = .alloc 47) : (execOp a.eval o).run Tryd.prog w = .ok (.value (.pointer (some ⟨w.heap.size, 0, none⟩))) (w.alloc (.cells #[.int .i64 0, .slice none 0 0] 47)) := by
  unfold execOp
  simp only [ho, Instr.alloc, show (zeroValue 47).run Tryd.prog w = .ok (.agg #[.int .i64 0, .slice none 0 0]) w by kernel_rfl, newVar, newRow, Value.cells, Sem.run_bind, Sem.run_pure, Result.andThen_ok]
  rfl
theorem wpList_st9 {P : Program} {w : World} {ops : Array Oper} {rest : List Oper} {o : Oper} {a : Act} {Q : Exit → Act → World → Prop} (hg : o.guard = none) (w' : World) (hr : (execOp a.eval o).run P w = .ok .skip w')
    (h : wpList P ops Q rest (a.put o.dst undef) w') : wpList P ops Q (o :: rest) a w := by
  refine wpList_plain hg fun K hK => ?_
  unfold Oper.wp
  rw [hr]
  exact hK _ _ h
theorem plV_one {x t : BitVec 64} {v : Value} (hv : v.oneCell' = true) : ∀ j, j < 3 → (plV x t v j).oneCell' = true := fun j hj => by
  rcases (by omega : j = 0 ∨ j = 1 ∨ j = 2) with rfl | rfl | rfl
  · rfl
  · rfl
  · exact hv
theorem row_new1 (w : World) (v : Value) (t : TypeId) : RowAt w.heap.size 1 (fun _ => v) (w.alloc (.cells #[v] t)) := RowAt.newOf w 1 _ t _ fun j hj => by
  obtain rfl : j = 0 := by omega
  rfl
theorem rdC_one {x : Int} {u : Value} (hu : u.oneCell' = true) : ∀ j, j < 2 → (rdC (fun _ => x) (fun _ => u) j).oneCell' = true := fun j hj => by
  rcases (by omega : j = 0 ∨ j = 1) with rfl | rfl
  · rfl
  · exact hu
structure PS (w : World) (b r : Nat) (x : BitVec 64) (bs : Nat → Int) (tm : BitVec 64) (k : Nat) (v : Value) (X : World) : Prop where
  row : RowAt b 3 (plV x tm v) X
  own : OwnB (b + 1) 3 v k (fun j => .int .i64 (bs j)) X
  res : RowAt r 3 (plV 0#64 0#64 (.slice none 0 0)) X
  rb : r < b
  wr : w.heap.size ≤ r
  ext : Ext w X
section
variable {w : World} {b r : Nat} {x tm : BitVec 64} {bs : Nat → Int} {k : Nat} {v : Value} {X Y : World}
theorem PS.keep (h : PS w b r x bs tm k v X) (e : Ext X Y) : PS w b r x bs tm k v Y := { h with row := h.row.carry e, own := h.own.ext e, res := h.res.carry e, ext := Ext.trans h.ext e }
theorem PS.grown {v' : Value} {u : Value} (h : PS w b r x bs tm k v X) (hg : X.grownBy Y v.ownBlock) (hO : OwnB (b + 1) 3 v' (k + 1) (fun j => .int .i64 (bs j)) Y) : PS w b r x bs tm (k + 1) v' (Y.setCell ⟨b, 2, none⟩ v') ∧ u = u := by
  have hb : ∀ q, v.ownBlock = some q → b + 1 ≤ q := fun q hq => (h.own.lt q hq).1
  have hr1 := h.row.grown hg fun e => by have := hb b e.symm; omega
  have hr2 := h.res.grown hg fun e => by have := hb r e.symm; have := h.rb; omega
  have hbt := but_setCell Y b 2 v'
  have hEY : Ext w Y := Below.trans h.ext (below_grown (Below.size h.ext) hg fun q hq => by have := hb q hq; have := h.rb; have := h.wr; omega)
  refine ⟨⟨(hr1.set 2 v').congr fun j hj => by rcases (by omega : j = 0 ∨ j = 1 ∨ j = 2) with rfl | rfl | rfl <;> rfl, hO.but hbt fun e => by have := (hO.lt b e).1; omega, hr2.but hbt (by have := h.rb; omega), h.rb, h.wr, Below.trans hEY (But.below hbt (by have := h.rb; have := h.wr; omega) (Below.size hEY))⟩, rfl⟩
theorem PS.turn (h : PS w b r x bs tm k v X) (tm' : BitVec 64) : PS w b r x bs tm' k v (X.setCell ⟨b, 1, none⟩ (.int .u64 (tm'.toNat : Int))) := by
  have hbt := but_setCell X b 1 (.int .u64 (tm'.toNat : Int))
  exact ⟨(h.row.set 1 _).congr fun j hj => by rcases (by omega : j = 0 ∨ j = 1 ∨ j = 2) with rfl | rfl | rfl <;> rfl, h.own.but hbt fun e => by have := (h.own.lt b e).1; omega, h.res.but hbt (by have := h.rb; omega), h.rb, h.wr, Below.trans h.ext (But.below hbt (by have := h.rb; have := h.wr; omega) (Below.size h.ext))⟩
end
set_option maxRecDepth 20000 in
set_option maxHeartbeats 4000000 in
theorem planOf_any (x : BitVec 64) (v0 : Value) (n : Nat) (bs : Nat → Int) (us : Nat → Value) (ls : Nat → Nat) (fs : Nat → Nat → BitVec 8) (w : World) (hL : RLs v0 n bs us ls fs w) (hn : n ≤ 4398046511104) : Calls Tryd.prog 41 #[.int .u64 (x.toNat : Int), v0] w fun e w' => ∃ v, e = .returned (plA x (tmK ls fs n) v) ∧ OwnB w.heap.size 3 v n (fun j => .int .i64 (bs j)) w' ∧ Ext w w' := by
  obtain ⟨o, cap, rfl⟩ := hL.form
  replace hL := hideit hL
  have hr1 : RowAt w.heap.size 3 (plV 0#64 0#64 (.slice none 0 0)) (w.alloc (.cells #[.int .u64 0, .int .u64 0, .slice none 0 0] 76)) := RowAt.newOf w 3 _ 76 _ fun j hj => by rcases (by omega : j = 0 ∨ j = 1 ∨ j = 2) with rfl | rfl | rfl <;> rfl
  have hX1 : Ext w (w.alloc (.cells #[.int .u64 0, .int .u64 0, .slice none 0 0] 76)) := (Below.refl _ _).alloc (Nat.le_refl _) _
  have hz1 : (w.alloc (.cells #[.int .u64 0, .int .u64 0, .slice none 0 0] 76)).heap.size = w.heap.size + 1 := by simp
  go_enter Tryd.func41, Tryd.ntmps41
  go_upto_region 0 with (fail)
  refine wp_region_lit ?_
  refine wpList_to rfl (.pointer (some ⟨w.heap.size, 0, none⟩)) (w.alloc (.cells #[.int .u64 0, .int .u64 0, .slice none 0 0] 76)) (alloc47 rfl) ?_
  simp only [zp0, zp1, zp2, zp3]
  generalize w.alloc (.cells #[.int .u64 0, .int .u64 0, .slice none 0 0] 76) = w1 at *
  have hr2 : RowAt w1.heap.size 3 (plV 0#64 0#64 (.slice none 0 0)) (w1.alloc (.cells #[.int .u64 0, .int .u64 0, .slice none 0 0] 76)) := RowAt.newOf w1 3 _ 76 _ fun j hj => by rcases (by omega : j = 0 ∨ j = 1 ∨ j = 2) with rfl | rfl | rfl <;> rfl
  have hX2 : Ext w1 (w1.alloc (.cells #[.int .u64 0, .int .u64 0, .slice none 0 0] 76)) := (Below.refl _ _).alloc (Nat.le_refl _) _
  have hr3 := hr2.cells (g' := plV x 0#64 (.slice none 0 0))
  have hX3 : Ext w1 ((w1.alloc (.cells #[.int .u64 0, .int .u64 0, .slice none 0 0] 76)).setCells w1.heap.size 0 (row 3 (plV x 0#64 (.slice none 0 0)))) := below_setCells w1.heap.size (Nat.le_refl _) _ 0 _ hX2
  have hS : Hid (PS w w1.heap.size w.heap.size x bs (tmK ls fs 0) 0 (.slice none 0 0) ((w1.alloc (.cells #[.int .u64 0, .int .u64 0, .slice none 0 0] 76)).setCells w1.heap.size 0 (row 3 (plV x 0#64 (.slice none 0 0))))) := ⟨hr3, own_nil _ _ _ _, hr1.carry hX3, by omega, Nat.le_refl _, Ext.trans hX1 hX3⟩
  go_upto_region 1 with (fail)
  refine wp_region_lit ?_
  refine wpList_run rfl (.int .u64 (x.toNat : Int)) (by simp [go_sem]) ?_
  simp only [zp0, zp1, zp2, zp3]
  refine wpList_run rfl (plA x 0#64 (.slice none 0 0)) (by simp [go_sem]; rfl) ?_
  simp only [zp0, zp1, zp2, zp3]
  refine wpList_to rfl (.pointer (some ⟨w1.heap.size, 0, none⟩)) (w1.alloc (.cells #[.int .u64 0, .int .u64 0, .slice none 0 0] 76)) (alloc47 rfl) ?_
  simp only [zp0, zp1, zp2, zp3]
  refine wpList_store_mid rfl 76 (.tmp 5) (.tmp 9) rfl w1.heap.size 0 (row 3 (plV x 0#64 (.slice none 0 0))).toArray rfl rfl (by rw [row_size]; exact hr2.there) (by rw [row_size]; exact info47) (row_one fun j hj => by rcases (by omega : j = 0 ∨ j = 1 ∨ j = 2) with rfl | rfl | rfl <;> rfl) ?_
  rw [show (row 3 (plV x 0#64 (.slice none 0 0))).toArray.toList = row 3 (plV x 0#64 (.slice none 0 0)) from rfl]
  generalize (w1.alloc (.cells #[.int .u64 0, .int .u64 0, .slice none 0 0] 76)).setCells w1.heap.size 0 (row 3 (plV x 0#64 (.slice none 0 0))) = w3 at *
  clear hr1 hr2 hr3 hX1 hX2 hX3 hz1
  generalize w1.heap.size = b at *
  simp only [Act.put]
  go_wp2
  go_loopw [6, 7, 12] (fun _ _ iv X => ∃ (k : Nat) (v : Value), k ≤ n ∧ iv = .int .i64 (k : Int) ∧ PS w b w.heap.size x bs (tmK ls fs k) k v X) (fun _ _ iv _ => 5000000000000 - (intOf iv).toNat)
  case atStart => exact ⟨0, _, Nat.zero_le _, rfl, hS.out⟩
  case round =>
    obtain ⟨k, v, hk, rfl, hI⟩ := hrel
    clear hS
    by_cases hlt : k < n
    · have k0 : (0 : Int) ≤ (k : Int) := by omega
      have k1 : (k : Int) < (n : Int) := by omega
      obtain ⟨a, rfl, hel⟩ := (hL.out.ext hI.ext).at k hlt
      obtain ⟨hpv, hls⟩ := (hL.out.ext hI.ext).2 k hlt
      obtain ⟨uo, ucp, hu⟩ := hpv.form
      have hX2 : Ext wr ((wr.alloc (.cells #[.int .i64 0, .slice none 0 0] 47)).setCells wr.heap.size 0 (row 2 (rdC (fun _ => bs k) (fun _ => us k)))) := below_setCells wr.heap.size (Nat.le_refl _) _ 0 _ ((Below.refl _ _).alloc (Nat.le_refl _) _)
      have hT : RowAt wr.heap.size 2 (rdC (fun _ => 0) (fun _ => .slice none 0 0)) (wr.alloc (.cells #[.int .i64 0, .slice none 0 0] 47)) := RowAt.newOf wr 2 _ 47 _ fun j hj => by rcases (by omega : j = 0 ∨ j = 1) with rfl | rfl <;> rfl
      have hR2 := hT.cells (g' := rdC (fun _ => bs k) (fun _ => us k))
      go_upto_region 3 with (fail)
      refine wp_region_lit ?_
      refine wpList_run rfl (.bool true) (by simp [go_sem, k1]) ?_
      simp only [zp0, zp1, zp2, zp3]
      go_upto_region 4 with (fail)
      refine wp_region_lit ?_
      refine wpList_run rfl (.int .i64 (k : Int)) (by simp [go_sem]) ?_
      simp only [zp0, zp1, zp2, zp3]
      refine wpList_run rfl (.pointer (some (a.add (k * 2)))) (by simp [go_sem, k1]) ?_
      simp only [zp0, zp1, zp2, zp3]
      refine wpList_run rfl (.agg (row 2 (rdC (fun _ => bs k) (fun _ => us k))).toArray) (exec_loadL 47 (.tmp 15) rfl (a.add (k * 2)) 2 _ rfl hel Tryd.underlying47 rfl info51) ?_
      simp only [zp0, zp1, zp2, zp3]
      refine wpList_to rfl (.pointer (some ⟨wr.heap.size, 0, none⟩)) (wr.alloc (.cells #[.int .i64 0, .slice none 0 0] 47)) (alloc51 rfl) ?_
      simp only [zp0, zp1, zp2, zp3]
      refine wpList_run rfl (.int .i64 (k : Int)) (by simp [go_sem]) ?_
      simp only [zp0, zp1, zp2, zp3]
      refine wpList_store_mid rfl 47 (.tmp 7) (.tmp 16) rfl wr.heap.size 0 (row 2 (rdC (fun _ => bs k) (fun _ => us k))).toArray rfl rfl (by rw [row_size]; exact hT.there) (by rw [row_size]; exact info51) (row_one (rdC_one (by rw [hu]; rfl))) ?_
      rw [show (row 2 (rdC (fun _ => bs k) (fun _ => us k))).toArray.toList = row 2 (rdC (fun _ => bs k) (fun _ => us k)) from rfl]
      have hbx : b < wr.heap.size := hI.row.2.2
      have hlt9 : ∀ q, v.ownBlock = some q → q < wr.heap.size := fun q hq => (hI.own.lt q hq).2
      have hI2 := hI.keep hX2
      have hpv2 := hpv.ext hX2
      generalize (wr.alloc (.cells #[.int .i64 0, .slice none 0 0] 47)).setCells wr.heap.size 0 (row 2 (rdC (fun _ => bs k) (fun _ => us k))) = x2 at *
      generalize wr.heap.size = wx at *
      clear hT hX2 hel
      simp only [Act.put]
      have f0 : x2.cell? ⟨wx, 0, none⟩ = some (.int .i64 (bs k)) := hR2.1 0 (by decide)
      have e2 : x2.cell? ⟨b, 2, none⟩ = some v := hI2.row.1 2 (by decide)
      have hX3 : Ext x2 (x2.alloc (.cells #[.int .i64 (bs k)] 3)) := (Below.refl _ _).alloc (Nat.le_refl _) _
      have hLq : LieAt ⟨x2.heap.size, 0, none⟩ 1 (fun _ => .int .i64 (bs k)) (x2.alloc (.cells #[.int .i64 (bs k)] 3)) := RowAt.lie (row_new1 x2 (.int .i64 (bs k)) 3) 1 (Nat.le_refl _)
      have hI3 := hI2.keep hX3
      have hR3 := hR2.carry hX3
      have hpv3 := hpv2.ext hX3
      obtain ⟨vo, vc, hv⟩ : ∃ vo vc, v = .slice vo k vc := by
        rcases hI3.own.2 with ⟨e, e'⟩ | ⟨g, cc, cur, e, _⟩
        · exact ⟨none, 0, by rw [e, e']⟩
        · exact ⟨_, cc, e⟩
      go_upto_region 5 with (fail)
      refine wp_region_lit ?_
      refine wpList_run rfl (.pointer (some ⟨b, 2, none⟩)) (by simp [go_sem]) ?_
      simp only [zp0, zp1, zp2, zp3]
      refine wpList_run rfl (v) (by simp [go_sem, e2]) ?_
      simp only [zp0, zp1, zp2, zp3]
      refine wpList_run rfl (.pointer (some ⟨wx, 0, none⟩)) (by simp [go_sem]) ?_
      simp only [zp0, zp1, zp2, zp3]
      refine wpList_run rfl (.int .i64 (bs k)) (by simp [go_sem, f0]) ?_
      simp only [zp0, zp1, zp2, zp3]
      refine wpList_to rfl (.slice (some ⟨x2.heap.size, 0, none⟩) 1 1) (x2.alloc (.cells #[.int .i64 (bs k)] 3)) (by simp [go_sem]) ?_
      simp only [zp0, zp1, zp2, zp3]
      generalize x2.alloc (.cells #[.int .i64 (bs k)] 3) = x3 at *
      generalize x2.heap.size = q3 at *
      refine wpList_growE (n := k) (base := b + 1) elem36 rfl (.tmp 18) (.tmp 21) rfl rfl hI3.own ⟨q3, 0, none⟩ 1 1 (fun _ => .int .i64 (bs k)) (fun j => .int .i64 (bs j)) rfl hLq (fun j _ => rfl) (fun j hj => rfl) (fun j hj => by rw [show k + j = k by omega]) (by omega) (by omega) (by have := hI3.row.2.2; omega) ?_
      intro v4 x4 hO4 hg4
      simp only [zp0, zp1, zp2, zp3]
      have hR4 := hR3.grown hg4 fun e => by have := hlt9 wx e.symm; omega
      have hI5 := (hI3.grown (u := undef) hg4 hO4).1
      have hpv4 : PV (us k) (ls k) (fs k) (x4.setCell ⟨b, 2, none⟩ v4) := (hL.out.ext hI5.ext).2 k hlt |>.1
      have hR5 := hR4.but (but_setCell x4 b 2 v4) (fun e => by omega)
      have c4 : (x4.cell? ⟨b, 2, none⟩).isSome = true := by
        have := (hI3.row.grown hg4 fun e => by have := (hI3.own.lt b e.symm).1; omega).1 2 (by decide)
        rw [this]; rfl
      have z4 : x4.frozen? ⟨b, 2, none⟩ = false := (hI3.row.grown hg4 fun e => by have := (hI3.own.lt b e.symm).1; omega).2.1 2 (by decide)
      obtain ⟨vo4, vc4, hv4⟩ : ∃ vo vc, v4 = .slice vo (k + 1) vc := by
        obtain ⟨b9, c9, e9, _⟩ := hO4.lies (by omega)
        exact ⟨_, c9, e9⟩
      obtain ⟨cv4, hcv4⟩ := Option.isSome_iff_exists.1 c4
      refine wpList_run rfl (.pointer (some ⟨b, 2, none⟩)) (by simp [go_sem]) ?_
      simp only [zp0, zp1, zp2, zp3]
      refine wpList_st9 rfl (x4.setCell ⟨b, 2, none⟩ v4) (by rw [hv4]; simp [go_sem, hcv4, z4]) ?_
      simp only [Act.put]
      generalize x4.setCell ⟨b, 2, none⟩ v4 = x5 at *
      have f1 : x5.cell? ⟨wx, 1, none⟩ = some (.slice uo (ls k) ucp) := by rw [← hu]; exact hR5.1 1 (by decide)
      have kj := hideit (isJ_any (.slice uo (ls k) ucp) (ls k) (fs k) x5 (by rw [← hu]; exact hpv4) hls)
      replace hI5 := hideit hI5
      clear hI hI2 hI3 hR2 hR3 hR4 hR5 hpv hpv2 hpv3 hpv4 hO4 hg4 hLq hX3 f0 e2 c4 z4 hcv4 hlt9 hv hv4 hu
      go_upto_region 6 with (fail)
      refine wp_region_lit ?_
      refine wpList_run rfl (.pointer (some ⟨wx, 1, none⟩)) (by simp [go_sem]) ?_
      simp only [zp0, zp1, zp2, zp3]
      refine wpList_run rfl (.slice uo (ls k) ucp) (by simp [go_sem, f1]) ?_
      simp only [zp0, zp1, zp2, zp3]
      refine wpList_call rfl (by simp [go_sem]) ((kj.out).mono ?_)
      rintro e x6 ⟨rfl, hX6⟩
      refine ⟨_, rfl, ?_⟩
      simp only [zp0, zp1, zp2, zp3]
      have hI6 := hideit (hI5.out.keep hX6)
      have htm : tmK ls fs (k + 1) = if like (ls k) (fs k) = true then tmK ls fs k ||| (1#64 <<< k) else tmK ls fs k := rfl
      clear kj hX6 f1 hI5
      cases hlk : like (ls k) (fs k) with
      | false =>
        rw [hlk, if_neg (by decide)] at htm
        rw [← htm] at hI6
        clear htm hlk
        go_wp2
        exact ⟨⟨k + 1, v4, by omega, by go_num, hI6.out⟩, by simp [intOf]; omega⟩
      | true =>
        rw [hlk, if_pos rfl] at htm
        have hD : Ext x6 x6.drew := (Ext.refl x6).draw
        have hID := hideit (hI6.out.keep hD)
        have hIT := hideit (hI6.out.keep hD |>.turn (tmK ls fs (k + 1)))
        have t1 : ∀ X, Ext x6.drew X → X.cell? ⟨b, 1, none⟩ = some (.int .u64 ((tmK ls fs k).toNat : Int)) := fun X hX => (hID.out.keep hX).row.1 1 (by decide)
        have c1 := t1 _ (Ext.refl _)
        have z1 : x6.drew.frozen? ⟨b, 1, none⟩ = false := hID.out.row.2.1 1 (by decide)
        have os := one_shl k
        have on := or_nat (tmK ls fs k) (1#64 <<< k)
        rw [← htm] at on
        generalize tmK ls fs k = ta at *
        generalize (1#64 <<< k) = sa at *
        obtain ⟨tb, htb⟩ : ∃ tb, tb = tmK ls fs (k + 1) := ⟨_, rfl⟩
        rw [← htb] at hIT on
        replace htb := hideit htb
        clear hI6 hlk htm
        go_upto_region 7 with (fail)
        refine wp_region_ladz (fun X => Ext x6.drew X) [6] [(false, 0), (false, 1), (false, 2), (false, 3), (false, 4), (false, 5), (true, 6)] (by kernel_rfl) (by kernel_rfl) (by decide +kernel) (by decide +kernel) (by decide +kernel) (by decide +kernel) (Ext.refl _) ?_
        generalize x6.drew = xd at *
        refine wpZ_f _ (.pointer (some ⟨b, 1, none⟩)) rfl rfl (fun X _ => by simp [go_sem]) ?_
        simp only [List.getElem_toArray, List.getElem_cons_zero, Act.put, List.setIfInBounds_toArray, List.set_cons_zero, List.set_cons_succ]
        refine wpZ_f _ (.int .u64 (ta.toNat : Int)) rfl rfl (fun X hX => by have e := t1 X hX; simp [go_sem, e]) ?_
        simp only [zp4, zp5, zp6, zp0, zp1, zp2, zp3]
        refine wpZ_f _ (.int .i64 (k : Int)) rfl rfl (fun X _ => by simp [go_sem]) ?_
        simp only [zp4, zp5, zp6, zp0, zp1, zp2, zp3]
        refine wpZ_f _ (.int .u64 (sa.toNat : Int)) rfl rfl (fun X hX => by simp [go_sem, os]) ?_
        simp only [zp4, zp5, zp6, zp0, zp1, zp2, zp3]
        refine wpZ_f _ (.int .u64 (tb.toNat : Int)) rfl rfl (fun X hX => by simp [go_sem, on]) ?_
        simp only [zp4, zp5, zp6, zp0, zp1, zp2, zp3]
        refine wpZ_f _ (.pointer (some ⟨b, 1, none⟩)) rfl rfl (fun X _ => by simp [go_sem]) ?_
        simp only [zp4, zp5, zp6, zp0, zp1, zp2, zp3]
        refine wpZ_st _ (xd.setCell ⟨b, 1, none⟩ (.int .u64 (tb.toNat : Int))) rfl rfl (by simp [go_sem, c1, z1]) (fun _ => True) (.inl (by simp)) trivial ?_
        simp only [List.getElem_toArray, List.getElem_cons_zero, List.getElem_cons_succ, Act.put]
        refine wpZ_nil ?_
        clear t1 c1 z1 os on hD hID
        go_wp2
        exact ⟨⟨k + 1, v4, by omega, by go_num, by rw [← htb.out]; exact hIT.out⟩, by simp [intOf]; omega⟩
    · obtain rfl : k = n := by omega
      have k1 : ¬ (k : Int) < (k : Int) := by omega
      have hfin := hI.row.range
      have hth := hI.res.there
      have hO := hI.own
      have hbt : But w.heap.size wr (wr.setCells w.heap.size 0 (row 3 (plV x (tmK ls fs k) v))) := But.sets _ _ _ (But.refl _ _)
      have hlv : ∀ q, v.ownBlock = some q → b + 1 ≤ q := fun q hq => (hI.own.lt q hq).1
      have hO2 : Hid (OwnB w.heap.size 3 v k (fun j => .int .i64 (bs j)) (wr.setCells w.heap.size 0 (row 3 (plV x (tmK ls fs k) v)))) := (hO.but hbt fun e => by have := hlv _ e; have := hI.rb; omega).weaken (by have := hI.rb; have := hI.wr; omega)
      have hE2 : Hid (Ext w (wr.setCells w.heap.size 0 (row 3 (plV x (tmK ls fs k) v)))) := Below.trans hI.ext (But.below hbt (Nat.le_refl _) (Below.size hI.ext))
      have hR2 := hI.res.cells (g' := plV x (tmK ls fs k) v)
      have hv1 : v.oneCell' = true := by
        rcases hI.own.2 with ⟨e, _⟩ | ⟨g, cc, cur, e, _⟩ <;> rw [e] <;> rfl
      obtain ⟨ta, hta⟩ : ∃ ta, ta = tmK ls fs k := ⟨_, rfl⟩
      rw [← hta] at hfin hR2 hO2 hE2
      replace hta := hideit hta
      replace hR2 := hideit hR2
      have hb9 : wr.there b 0 3 := hI.row.there
      clear hI hbt hlv hO
      go_upto_region 3 with (fail)
      refine wp_region_lit ?_
      refine wpList_run rfl (.bool false) (by simp [go_sem, k1]) ?_
      simp only [zp0, zp1, zp2, zp3]
      go_upto_region 9 with (fail)
      refine wp_region_lit ?_
      refine wpList_run rfl (.agg (row 3 (plV x ta v)).toArray) (exec_loadR 76 (.tmp 5) rfl b 0 3 _ rfl hfin Tryd.underlying76 rfl info47) ?_
      simp only [zp0, zp1, zp2, zp3]
      refine wpList_store_mid rfl 76 (.tmp 4) (.tmp 34) rfl w.heap.size 0 (row 3 (plV x ta v)).toArray rfl rfl (by rw [row_size]; exact hth) (by rw [row_size]; exact info47) (row_one (plV_one hv1)) ?_
      rw [show (row 3 (plV x ta v)).toArray.toList = row 3 (plV x ta v) from rfl]
      generalize wr.setCells w.heap.size 0 (row 3 (plV x ta v)) = wz at *
      clear hfin hth hb9 hv1
      simp only [Act.put]
      go_wp2
      refine bodyPost_ret (ret_row Tryd.results41 rfl hR2.out Tryd.underlying76 rfl info47) rfl ?_
      exact ⟨v, by rw [← hta.out]; rfl, hO2.out, hE2.out⟩
end Go.Proofs.YtiakkclabgelfaaDoor
