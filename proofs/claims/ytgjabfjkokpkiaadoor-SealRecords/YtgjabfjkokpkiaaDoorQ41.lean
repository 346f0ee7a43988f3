/-
  A region that draws its order, told as in Lad; besides, an operation that waits for all that is listed ahead of it may turn what the floating reads saw; no word of the program. A block of tags with another record.
-/
import Derived.Test.YtgjabfjkokpkiaaDoorQ22
import Derived.Test.YtgjabfjkokpkiaaDoorQ1
import Derived.Test.YtgjabfjkokpkiaaDoorQ40
namespace Go.Proofs.YtgjabfjkokpkiaaDoor
open Go.RowKit
section
variable {P : Program} {ops : Array Oper} {Q : Exit → Act → World → Prop} {brk : List Nat}
def wpZ (P : Program) (ops : Array Oper) (Q : Exit → Act → World → Prop) (brk : List Nat) : List (Bool × Nat) → (World → Prop) → Act → World → Prop
  | [], _, a, w => Q .normal a w
  | (false, i) :: r, C, a, w => ∃ o v, ops[i]? = some o ∧ StrC P ops C o v a ∧ wpZ P ops Q brk r C (a.put o.dst v) w
  | (true, i) :: r, C, a, w => ∃ o, ops[i]? = some o ∧ EffY P ops o w (fun v w' => ∃ C' : World → Prop, (i ∈ brk ∨ ∀ X, C' X → C X) ∧ C' w' ∧ wpZ P ops Q brk r C' (a.put o.dst v) w') a
theorem wpZ_float {C : World → Prop} (hsel : ∀ (j : Nat) (o : Oper) cs b, ops[j]? = some o → o.op ≠ .select cs b) {i : Nat} {o : Oper} (hi : ops[i]? = some o) (s2 : List (Bool × Nat)) {w : World} : ∀ (s1 : List (Bool × Nat)) (a : Act), (∀ p ∈ s1, p.1 = false ∧ ∀ ok, ops[p.2]? = some ok → ok.apart ops o = true) →
    wpZ P ops Q brk (s1 ++ (false, i) :: s2) C a w → ∃ v, StrC P ops C o v a ∧ wpZ P ops Q brk (s1 ++ s2) C (a.put o.dst v) w
  | [], a, _, ⟨o', v, h1, h2, h3⟩ => by
    rw [hi] at h1
    injection h1 with h1
    subst h1
    exact ⟨v, h2, h3⟩
  | (true, k) :: s1, a, hap, h => by have := (hap (true, k) List.mem_cons_self).1; cases this
  | (false, k) :: s1, a, hap, ⟨ok, vk, h1, h2, h3⟩ => by
    obtain ⟨p1, p2, p3⟩ := Oper.apart_spec ((hap (false, k) List.mem_cons_self).2 ok h1)
    obtain ⟨v, g1, g2⟩ := wpZ_float hsel hi s2 s1 _ (fun k' hk' => hap k' (List.mem_cons_of_mem _ hk')) h3
    refine ⟨v, (StrC.put (fun cs b => hsel i o cs b hi) p1).1 g1, ok, vk, h1, (StrC.put (fun cs b => hsel k ok cs b h1) p3).2 h2, ?_⟩
    rw [← Act.put_comm a vk v p2]
    exact g2
theorem wpZ_stand {C : World → Prop} (hsel : ∀ (j : Nat) (o : Oper) cs b, ops[j]? = some o → o.op ≠ .select cs b) {i : Nat} {o : Oper} (hi : ops[i]? = some o) (s2 : List (Bool × Nat)) {w : World} : ∀ (s1 : List (Bool × Nat)) (a : Act), (s1 = [] ∨ i ∉ brk) → (∀ p ∈ s1, p.1 = false ∧ ∀ ok, ops[p.2]? = some ok → ok.apart ops o = true) →
    wpZ P ops Q brk (s1 ++ (true, i) :: s2) C a w → EffY P ops o w (fun v w' => ∃ C' : World → Prop, (i ∈ brk ∨ ∀ X, C' X → C X) ∧ C' w' ∧ wpZ P ops Q brk (s1 ++ s2) C' (a.put o.dst v) w') a
  | [], a, _, _, ⟨o', h1, h2⟩ => by
    rw [hi] at h1
    injection h1 with h1
    subst h1
    exact h2
  | (true, k) :: s1, a, _, hap, h => by have := (hap (true, k) List.mem_cons_self).1; cases this
  | (false, k) :: s1, a, hb, hap, ⟨ok, vk, h1, h2, h3⟩ => by
    have hnb : i ∉ brk := by
      rcases hb with hb | hb
      · cases hb
      · exact hb
    obtain ⟨p1, p2, p3⟩ := Oper.apart_spec ((hap (false, k) List.mem_cons_self).2 ok h1)
    have g := wpZ_stand hsel hi s2 s1 _ (.inr hnb) (fun k' hk' => hap k' (List.mem_cons_of_mem _ hk')) h3
    refine EffY.mono (fun v w' ⟨C', c1, c2, c3⟩ => ⟨C', c1, c2, ok, vk, h1, ((StrC.put (fun cs b => hsel k ok cs b h1) p3).2 h2).mono (c1.resolve_left hnb), ?_⟩) ((EffY.put (fun cs b => hsel i o cs b hi) p1).1 g)
    rw [← Act.put_comm a vk v p2]
    exact c3
structure LadZAt (P : Program) (ops : Array Oper) (Q : Exit → Act → World → Prop) (brk : List Nat) (l : List (Bool × Nat)) (L : Array Bool) (A : Act) (w : World) : Prop where
  size : L.size = ops.size
  closed : Closed ops L
  way : ∃ C : World → Prop, C w ∧ wpZ P ops Q brk (lfx L l) C A w
def ladZB (ops : Array Oper) (brk : List Nat) (p q : Bool × Nat) : Bool := ladB ops p q && (!brk.contains q.2 || reachB ops q.2 p.2)
theorem wp_region_ladz {id : Nat} {a : Act} {w : World} (C : World → Prop) (brk : List Nat) (l : List (Bool × Nat)) (hmo : P.follows .mixedOrders = true) (hB : textB ops = true) (hnd : (l.map (·.2)).Nodup) (hcov : ∀ i ∈ List.range ops.size, i ∈ l.map (·.2)) (hin : ∀ p ∈ l, p.2 < ops.size)
    (hp : l.Pairwise (fun p q => ladZB ops brk p q = true)) (hC : C w.drew) (h : wpZ P ops Q brk l C a w.drew) : (Code.region id ops true).wp P Q a w := by
  obtain ⟨hsel, htx⟩ := textB_spec hB
  refine wp_region_inv (I := fun L A X => LadZAt P ops Q brk l L A X) hmo ?h0 ?hs ?he
  case h0 =>
    have hf0 : ∀ k d, k < ops.size → (Array.replicate ops.size false).getD k d = false := fun k d hk => by unfold Array.getD; simp [hk]
    refine ⟨by simp, ?_, C, hC, ?_⟩
    · intro i o ho hi
      rw [hf0 i _ (Array.getElem?_eq_some_iff.1 ho).1] at hi
      cases hi
    · rw [show lfx (Array.replicate ops.size false) l = l from List.filter_eq_self.2 fun p hpm => by simp [hf0 p.2 true (hin p hpm)]]
      exact h
  case hs =>
    intro L A X i o hI ho hl hdeps
    have hil : i < ops.size := (Array.getElem?_eq_some_iff.1 ho).1
    have hsize : (L.setIfInBounds i true).size = ops.size := by simp [hI.size]
    have hclosed := hI.closed.step ho hdeps
    have hap : ∀ k, edgeB ops k i = true → L.getD k true = false → ∀ ok, ops[k]? = some ok → ok.apart ops o = true := by
      intro k hed hk ok hok
      rcases edgeB_spec ho hok hed with ⟨e, he, hbe, rfl⟩ | h2
      · have h3 := hdeps e he hbe
        rw [getD_flip hk] at h3
        cases h3
      · exact h2
    have hwt : ∀ k, reachB ops i k = true → L.getD k false = true := fun k hk => reachB_listed hI.closed i k o ho hdeps hk
    obtain ⟨p, hpl, rfl⟩ := List.mem_map.1 (hcov i (by simpa using hil))
    obtain ⟨r1, r2, s1, s2, s3⟩ := lfx_split hnd hp hpl hl
    have hr1 : ∀ q ∈ r1, q.1 = false ∧ ∀ ok, ops[q.2]? = some ok → ok.apart ops o = true := by
      intro q hq
      obtain ⟨t1, t2⟩ := s3 q hq
      unfold ladZB at t1
      rw [Bool.and_eq_true] at t1
      replace t1 := t1.1
      unfold ladB at t1
      cases hb : q.1 with
      | true =>
        rw [hb, if_pos rfl] at t1
        have := hwt _ t1
        rw [getD_flip t2] at this
        cases this
      | false =>
        rw [hb, if_neg (by simp)] at t1
        exact ⟨rfl, hap q.2 t1 t2⟩
    have hr2 : r1 = [] ∨ p.2 ∉ brk := by
      by_cases hbk : p.2 ∈ brk
      · refine .inl ?_
        cases hr : r1 with
        | nil => rfl
        | cons q r =>
          exfalso
          obtain ⟨t1, t2⟩ := s3 q (by rw [hr]; exact List.mem_cons_self)
          unfold ladZB at t1
          rw [Bool.and_eq_true, Bool.or_eq_true] at t1
          rcases t1.2 with h9 | h9
          · simp [hbk] at h9
          · have := hwt _ h9
            rw [getD_flip t2] at this
            cases this
      · exact .inr hbk
    obtain ⟨C1, hC1, hw⟩ := hI.way
    rw [s1] at hw
    obtain ⟨b, i⟩ := p
    cases b with
    | false =>
      obtain ⟨v, g1, g2⟩ := wpZ_float hsel ho r2 r1 A hr1 hw
      exact StrC.wpOp ho hC1 g1 ⟨hsize, hclosed, C1, hC1, by rw [s2]; exact g2⟩
    | true => exact EffY.wpOp ho (wpZ_stand hsel ho r2 r1 A hr2 hr1 hw) fun v w' ⟨C', c1, c2, c3⟩ => ⟨hsize, hclosed, C', c2, by rw [s2]; exact c3⟩
  case he =>
    intro L A X hI hr
    have hall : ∀ n k, k < n → k < ops.size → L.getD k false = true := by
      intro n
      induction n with
      | zero => intro k hk; omega
      | succ n ih =>
        intro k hk hkn
        cases hv : L.getD k false with
        | true => rfl
        | false =>
          exfalso
          have ho : ops[k]? = some ops[k] := Array.getElem?_eq_getElem hkn
          have hmem : k ∈ Region.ready .any ops L := mem_ready.2 ⟨by rw [← getD_flip' (by rw [hI.size]; omega)]; exact hv, ops[k], ho, fun e he hbe => ih e.on (by have := htx k _ ho e he hbe; omega) (by have := htx k _ ho e he hbe; omega)⟩
          rw [hr] at hmem
          cases hmem
    obtain ⟨C1, hC1, hw⟩ := hI.way
    rw [show lfx L l = [] from List.filter_eq_nil_iff.2 fun p hpm => by
      have := hall (p.2 + 1) p.2 (by omega) (hin p hpm)
      rw [getD_flip' (by rw [hI.size]; exact hin p hpm)] at this
      simp [this]] at hw
    exact hw
theorem wpZ_nil {C : World → Prop} {a : Act} {w : World} (h : Q .normal a w) : wpZ P ops Q brk [] C a w := h
theorem wpZ_f {C : World → Prop} {a : Act} {w : World} {i : Nat} {r : List (Bool × Nat)} (o : Oper) (v : Value) (ho : ops[i]? = some o) (hw : Region.wanted o (yielded ops a.tmps) = true) (hr : ∀ X, C X → (execOp a.eval o).run P X = .ok (.value v) X) (h : wpZ P ops Q brk r C (a.put o.dst v) w) : wpZ P ops Q brk ((false, i) :: r) C a w := ⟨o, v, ho, .inl ⟨hw, hr⟩, h⟩
theorem wpZ_call {C : World → Prop} {a : Act} {w : World} {i : Nat} {r : List (Bool × Nat)} (o : Oper) {f : FuncId} {args : Array Value} (ho : ops[i]? = some o) (hw : Region.wanted o (yielded ops a.tmps) = true) (hr : (execOp a.eval o).run P w = .ok (.enter f args) w)
    (hc : Calls P f args w fun e w' => ∃ v, e = .returned v ∧ ∃ C' : World → Prop, (i ∈ brk ∨ ∀ X, C' X → C X) ∧ C' w' ∧ wpZ P ops Q brk r C' (a.put o.dst v) w') : wpZ P ops Q brk ((true, i) :: r) C a w := ⟨o, ho, .inl ⟨hw, by rw [hr]; exact hc⟩⟩
theorem wpZ_to {C : World → Prop} {a : Act} {w : World} {i : Nat} {r : List (Bool × Nat)} (o : Oper) (v : Value) (w' : World) (ho : ops[i]? = some o) (hw : Region.wanted o (yielded ops a.tmps) = true) (hr : (execOp a.eval o).run P w = .ok (.value v) w') (C' : World → Prop) (h1 : i ∈ brk ∨ ∀ X, C' X → C X) (h2 : C' w') (h : wpZ P ops Q brk r C' (a.put o.dst v) w') : wpZ P ops Q brk ((true, i) :: r) C a w := ⟨o, ho, .inl ⟨hw, by rw [hr]; exact ⟨C', h1, h2, h⟩⟩⟩
end
end Go.Proofs.YtgjabfjkokpkiaaDoor
namespace Go.Proofs.YtgjabfjkokpkiaaDoor
open Go.RowKit Go.BigFrame
set_option linter.unusedVariables false
set_option maxRecDepth 20000
theorem xhi0 {o : Oper} {a : Act} {w : World} (x lo : Operand) (ho : o.op = .slice 22 x (some lo) none none) (b l cap i : Nat) (hx : a.eval x = .slice (some ⟨b, 0, none⟩) l cap) (hlo : a.eval lo = .int .i64 (i : Int)) (hi : i < l) (hc : l ≤ cap) :
    (execOp a.eval o).run Tryd.prog w = .ok (.value (.slice (some ⟨b, i, none⟩) (l - i) (cap - i))) w := by
  have e := xhi (w := w) x lo ho ⟨b, 0, none⟩ l cap i hx hlo hi hc
  rw [add_off] at e
  exact e
set_option maxRecDepth 20000 in
set_option maxHeartbeats 4000000 in
theorem with_no (o : Option Addr) (l k : Nat) (n : Int) (R : Nat → BitVec 8) (w : World) (hne : ¬ tgE l n = 0) : Calls Tryd.prog 7 #[.slice o l k, .int .i64 n, .agg (row 64 (yv R)).toArray] w fun e w' => e = .returned (.tuple #[.slice none 0 0, .int .i64 (tgE l n)]) ∧ Ext w w' := by
  have hE := hideit (Ext.refl w)
  go_enter Tryd.func7, Tryd.ntmps7
  go_upto_region 0 with (fail)
  refine wp_region_lit ?_
  have A0 := hideit (RowAt.new w 64 (yv R) 23)
  have XB : Ext w (w.alloc (.cells (row 64 (yv R)).toArray 23)) := (Below.refl _ _).alloc (Nat.le_refl _) _
  have AE := hideit (Ext.trans hE.out (XB))
  have AB := hideit (hE.out.size)
  clear XB
  refine wpList_to rfl (.pointer (some ⟨w.heap.size, 0, none⟩)) (w.alloc (.cells (row 64 (yv R)).toArray 23)) (by simp [go_sem]) ?_
  simp only [zp0, zp1, zp2, zp3]
  generalize w.alloc (.cells (row 64 (yv R)).toArray 23) = x1 at A0 AE ⊢
  obtain ⟨c5, ec5⟩ : ∃ b, b = w.heap.size := ⟨_, rfl⟩
  have ABc5 : Hid (w.heap.size ≤ c5) := by rw [ec5]; exact AB.out
  clear AB
  rw [← ec5] at A0  ⊢
  clear ec5
  have Hc5 := A0
  clear A0
  replace hE := AE
  clear AE
  refine xm [some (.slice none 0 0), some (.int .i64 0)] (by kernel_rfl) (by simp [xr, go_sem]) ?_
  simp only [xw, p0, p1, p2, p3]
  go_upto_region 1 with (fail)
  refine wp_region_lit ?_
  refine xm [some (.slice o l k), some (.int .i64 (n))] (by kernel_rfl) (by simp [xr, go_sem]) ?_
  simp only [xw, p0, p1, p2, p3]
  refine wpList_call rfl (by simp [go_sem]) ((refu_any o l k n x1).mono ?_)
  rintro e yy ⟨rfl, hyy⟩
  refine ⟨_, rfl, ?_⟩
  simp only [zp0, zp1, zp2, zp3]
  replace hyy := hyy.symm
  subst hyy
  refine xm [some (.int .i64 (tgE l n))] (by kernel_rfl) (by simp [xr, go_sem]) ?_
  simp only [xw, p0, p1, p2, p3]
  go_upto_region 2 with (fail)
  refine wp_region_lit ?_
  refine xm [some (.int .i64 (tgE l n)), some (.bool true)] (by kernel_rfl) (by simp [xr, go_sem, hne]) ?_
  simp only [xw, p0, p1, p2, p3]
  go_upto_region 3 with (fail)
  refine wp_region_lit ?_
  refine xm [some (.int .i64 (tgE l n)), some (.slice none 0 0), some (.int .i64 (tgE l n))] (by kernel_rfl) (by simp [xr, go_sem]) ?_
  simp only [xw, p0, p1, p2, p3]
  go_wp2
  refine bodyPost_ret (res2 rfl _ _ _) rfl ?_
  exact ⟨rfl, hE.out⟩
set_option maxRecDepth 20000 in
set_option maxHeartbeats 4000000 in
theorem with_ok (a : Addr) (cap : Nat) (T R : Nat → BitVec 8) (n : Nat) (w : World) (hV : LieAt a 512 (yv T) w) (hcap : 512 ≤ cap) : Calls Tryd.prog 7 #[.slice (some a) 512 cap, .int .i64 (n : Int), .agg (row 64 (yv R)).toArray] w fun e w' => ∃ b c, e = .returned (.tuple #[.slice (some ⟨b, 0, none⟩) 512 c, .int .i64 0]) ∧ 512 ≤ c ∧ RowAt b 512 (yv (wiF T n R)) w' ∧ Ext w w' := by
  have hok := fun X => refu_ok (some a) 512 cap (n : Int) X (by omega) rfl
  replace hV := hideit hV
  replace hcap := hideit hcap
  have hE := hideit (Ext.refl w)
  go_enter Tryd.func7, Tryd.ntmps7
  go_upto_region 0 with (fail)
  refine wp_region_lit ?_
  have A0 := hideit (RowAt.new w 64 (yv R) 23)
  have XB : Ext w (w.alloc (.cells (row 64 (yv R)).toArray 23)) := (Below.refl _ _).alloc (Nat.le_refl _) _
  have AE := hideit (Ext.trans hE.out (XB))
  have AB := hideit (hE.out.size)
  clear XB
  refine wpList_to rfl (.pointer (some ⟨w.heap.size, 0, none⟩)) (w.alloc (.cells (row 64 (yv R)).toArray 23)) (by simp [go_sem]) ?_
  simp only [zp0, zp1, zp2, zp3]
  generalize w.alloc (.cells (row 64 (yv R)).toArray 23) = x1 at A0 AE ⊢
  obtain ⟨c5, ec5⟩ : ∃ b, b = w.heap.size := ⟨_, rfl⟩
  have ABc5 : Hid (w.heap.size ≤ c5) := by rw [ec5]; exact AB.out
  clear AB
  rw [← ec5] at A0  ⊢
  clear ec5
  have Hc5 := A0
  clear A0
  replace hE := AE
  clear AE
  refine xm [some (.slice none 0 0), some (.int .i64 0)] (by kernel_rfl) (by simp [xr, go_sem]) ?_
  simp only [xw, p0, p1, p2, p3]
  go_upto_region 1 with (fail)
  refine wp_region_lit ?_
  refine xm [some (.slice (some a) 512 cap), some (.int .i64 (n : Int))] (by kernel_rfl) (by simp [xr, go_sem]) ?_
  simp only [xw, p0, p1, p2, p3]
  refine wpList_call rfl (by simp [go_sem]) ((hok x1).mono ?_)
  rintro e yy ⟨rfl, hyy⟩
  refine ⟨_, rfl, ?_⟩
  simp only [zp0, zp1, zp2, zp3]
  replace hyy := hyy.symm
  subst hyy
  refine xm [some (.int .i64 0)] (by kernel_rfl) (by simp [xr, go_sem]) ?_
  simp only [xw, p0, p1, p2, p3]
  go_upto_region 2 with (fail)
  refine wp_region_lit ?_
  refine xm [some (.int .i64 0), some (.bool false)] (by kernel_rfl) (by simp [xr, go_sem]) ?_
  simp only [xw, p0, p1, p2, p3]
  go_upto_region 4 with (fail)
  refine wp_region_lit ?_
  refine xm [some (.slice (some a) 512 cap)] (by kernel_rfl) (by simp [xr, go_sem]) ?_
  simp only [xw, p0, p1, p2, p3]
  have hE5 := hE
  refine wpList_call rfl (by simp [go_sem]) ((clone_any (.slice (some a) 512 cap) 512 T x1 (.inr ⟨a, cap, rfl, hcap.out, hV.out.carry hE.out⟩) (by decide)).mono ?_)
  rintro e y5 ⟨v5, rfl, hO5, hX5⟩
  refine ⟨_, rfl, ?_⟩
  simp only [zp0, zp1, zp2, zp3]
  replace Hc5 := hideit (Hc5.out.carry hX5)
  replace hE := hideit (Ext.trans hE.out (hX5))
  obtain ⟨b, c5c, rfl, hb5, hc5, _, hR5⟩ := OwnB.lies hO5 (by decide)
  replace hR5 := hideit hR5
  replace hb5 := hideit (Nat.le_trans (Below.size hE5.out) hb5)
  clear hO5 hX5
  refine xm [some (.slice (some ⟨b, 0, none⟩) 512 c5c)] (by kernel_rfl) (by simp [xr, go_sem]) ?_
  simp only [xw, p0, p1, p2, p3]
  go_upto_region 5 with (fail)
  replace Hc5 := hideit Hc5.out.drew
  replace hR5 := hideit hR5.out.drew
  replace hE := hideit (Ext.draw hE.out)
  refine wp_region_ladz (fun X => Ext y5.drew X) [5] [(false, 0), (false, 1), (false, 4), (true, 2), (false, 3), (true, 5)] (by kernel_rfl) (by kernel_rfl) (by decide +kernel) (by decide +kernel) (by decide +kernel) (by decide +kernel) (Ext.refl _) ?_
  refine wpZ_f _ (.slice (some ⟨b, 0, none⟩) 512 c5c) rfl rfl (fun X _ => by simp [go_sem]) ?_
  simp only [List.getElem_toArray, List.getElem_cons_zero, Act.put, List.setIfInBounds_toArray, List.set_cons_zero, List.set_cons_succ]
  refine wpZ_f _ (.int .i64 (n : Int)) rfl rfl (fun X _ => by simp [go_sem]) ?_
  simp only [zp4, zp5, zp6, zp0, zp1, zp2, zp3]
  refine wpZ_f _ (.slice (some ⟨c5, 0, none⟩) 64 64) rfl rfl (fun X _ => by simp [go_sem]) ?_
  simp only [zp4, zp5, zp6, zp0, zp1, zp2, zp3]
  refine wpZ_call _ rfl rfl (by simp [go_sem]) ((place_any n y5.drew).mono ?_)
  rintro e _ ⟨rfl, rfl⟩
  refine ⟨_, rfl, fun X => Ext y5.drew X, .inr (fun X hX => hX), Ext.refl _, ?_⟩
  simp only [zp4, zp5, zp6, zp0, zp1, zp2, zp3]
  refine wpZ_f _ (.slice (some ⟨b, n % 8 * 64, none⟩) (512 - n % 8 * 64) (c5c - n % 8 * 64)) rfl rfl (fun X hX => xhi0 (.tmp 18) (.tmp 20) rfl b 512 c5c (n % 8 * 64) rfl rfl (by omega) hc5) ?_
  simp only [zp4, zp5, zp6, zp0, zp1, zp2, zp3]
  have hR6 := hideit ((hR5.out).part (n % 8 * 64) 64 (yv R) (by omega))
  have hE6 := hideit (below_setCells b hb5.out (row 64 (yv R)) (n % 8 * 64) _ hE.out)
  refine wpZ_to _ (goInt 64) (y5.drew.setCells b (n % 8 * 64) (row 64 (yv R))) rfl rfl (exec_copy (.tmp 21) (.tmp 22) 22 22 rfl 5 Tryd.underlying22 inf5 b 512 (yv T) hR5.out (n % 8 * 64) (512 - n % 8 * 64) (c5c - n % 8 * 64) ⟨c5, 0, none⟩ 64 64 rfl rfl 64 (yv R) (by show 64 = Nat.min 64 _; unfold Nat.min; omega) (fun j hj => by rw [add_off]; exact Hc5.out.1 j hj) (by omega) (fun j _ => rfl)) (fun _ => True) (.inl (by simp)) trivial ?_
  simp only [zp4, zp5, zp6, zp0, zp1, zp2, zp3]
  generalize y5.drew.setCells b (n % 8 * 64) (row 64 (yv R)) = y6 at hR6 hE6 ⊢
  clear hR5 hE Hc5
  refine wpZ_nil ?_
  go_upto_region 6 with (fail)
  refine wp_region_lit ?_
  refine xm [some (.slice (some ⟨b, 0, none⟩) 512 c5c), some (.slice (some ⟨b, 0, none⟩) 512 c5c), some (.int .i64 0)] (by kernel_rfl) (by simp [xr, go_sem]) ?_
  simp only [xw, p0, p1, p2, p3]
  go_wp2
  refine bodyPost_ret (res2 rfl _ _ _) rfl ?_
  exact ⟨b, c5c, rfl, hc5, hR6.out.congr fun j hj => by unfold yv wiF; split <;> rfl, hE6.out⟩
end Go.Proofs.YtgjabfjkokpkiaaDoor
