/-
  A number in a message; why there is no record; where it is. A record of a block of tags. A region that draws its order, told as in Lad; besides, an operation that waits for all that is listed ahead of it may turn what the floating reads saw; no word of the program.
-/
import Derived.Test.YtfpfgbhdehbggaaGreatDoorQc1
import Derived.Test.YtfpfgbhdehbggaaGreatDoorQc14
import Derived.Test.YtfpfgbhdehbggaaGreatDoorQc16
import Derived.Test.YtfpfgbhdehbggaaGreatDoorQc12
import Derived.Test.YtfpfgbhdehbggaaGreatDoorQc26
import Derived.Test.YtfpfgbhdehbggaaGreatDoorQc7
import Derived.Test.YtfpfgbhdehbggaaGreatDoorQc15
namespace Go.Proofs.YtfpfgbhdehbggaaGreatDoor
open Go.RowKit Go.BigFrame
set_option linter.unusedVariables false
set_option maxRecDepth 20000
def n4 (x : Nat) : BitVec 64 := BitVec.ofNat 64 x
def numB (x : Nat) (j : Nat) : BitVec 8 := byB (n4 x) j
theorem n4_nat {x : Nat} (h : x < 4294967296) : (n4 x).toNat = x := by unfold n4; rw [BitVec.toNat_ofNat]; omega
set_option maxRecDepth 20000 in
set_option maxHeartbeats 4000000 in
theorem num_any (x : Nat) (hx : x < 4294967296) (w : World) : Calls Tryz.prog 39 #[.int .i64 (x : Int)] w fun e w' => ∃ g, e = .returned (.slice (some ⟨g, 0, none⟩) 4 4) ∧ w.heap.size ≤ g ∧ RowAt g 4 (yv (numB x)) w' ∧ Ext w w' := by
  have hcv : IntKind.u64.wrap (x : Int) = ((n4 x).toNat : Int) := by rw [n4_nat hx, IntKind.wrap_u64]; omega
  replace hx := hideit hx
  have hE := hideit (Ext.refl w)
  go_enter Tryz.func39, Tryz.ntmps39
  go_upto_region 0 with (fail)
  refine wp_region_lit ?_
  refine xm [some (.slice none 0 0)] (by kernel_rfl) (by simp [xr, go_sem]) ?_
  simp only [xw, p0, p1, p2, p3]
  go_upto_region 1 with (fail)
  refine wp_region_lit ?_
  obtain ⟨c, hc⟩ : ∃ c, c = w.heap.size := ⟨_, rfl⟩
  have kN := neww_any 4 (fun _ => 0#8) w (by decide)
  rw [← hc] at kN
  refine wpList_call rfl (by simp [go_sem]) ((kN).mono ?_)
  rintro e y1 ⟨rfl, hW1, hX1⟩
  refine ⟨_, rfl, ?_⟩
  simp only [zp0, zp1, zp2, zp3]
  replace hE := hideit (Ext.trans hE.out (hX1))
  replace hW1 := hideit hW1
  clear hX1 kN
  refine xm [some (.pointer (some ⟨c, 0, none⟩))] (by kernel_rfl) (by simp [xr, go_sem]) ?_
  simp only [xw, p0, p1, p2, p3]
  replace hc := hideit hc
  go_upto_region 2 with (fail)
  refine wp_region_lit ?_
  refine xm [some (.pointer (some ⟨c, 0, none⟩)), some (.int .i64 (x : Int))] (by kernel_rfl) (by simp [xr, go_sem]) ?_
  simp only [xw, p0, p1, p2, p3]
  refine xm [some (.int .u64 ((n4 x).toNat : Int))] (by kernel_rfl) (by simp [xr, go_sem, hcv]) ?_
  simp only [xw, p0, p1, p2, p3]
  refine wpList_call rfl (by simp [go_sem]) ((wuint_ok c 4 0 4 (fun _ => 0#8) false (n4 x) y1 hW1.out (by decide) (by decide) (by decide) (by decide) (by rw [n4_nat hx.out]; have := hx.out; omega)).mono ?_)
  rintro e y2 ⟨rfl, hW2, hB2⟩
  refine ⟨_, rfl, ?_⟩
  simp only [zp0, zp1, zp2, zp3]
  have hE2 : Hid (Ext w y2) := Below.trans hE.out (by rw [← hc.out]; exact hB2)
  replace hW2 := hideit hW2
  clear hB2 hE hW1
  go_upto_region 3 with (fail)
  refine wp_region_lit ?_
  refine xm [some (.pointer (some ⟨c, 0, none⟩))] (by kernel_rfl) (by simp [xr, go_sem]) ?_
  simp only [xw, p0, p1, p2, p3]
  refine wpList_call rfl (by simp [go_sem]) ((wdone_ok c 4 4 (catF (fun _ => 0#8) 0 (byB (n4 x))) y2 hW2.out (by decide) (by decide)).mono ?_)
  rintro e y3 ⟨g, rfl, hg, hR, hX3⟩
  refine ⟨_, rfl, ?_⟩
  simp only [zp0, zp1, zp2, zp3]
  have hgs := Nat.le_trans (Below.size hE2.out) hg
  have hE3 : Hid (Ext w y3) := Ext.trans hE2.out hX3
  replace hR := hideit hR
  clear hX3 hE2 hW2
  refine xm [some (.tuple #[.slice (some ⟨g, 0, none⟩) 4 4, .int .i64 0]), some (.slice (some ⟨g, 0, none⟩) 4 4), some (.int .i64 0), some (.slice (some ⟨g, 0, none⟩) 4 4), some (.int .i64 0)] (by kernel_rfl) (by simp [xr, go_sem]) ?_
  simp only [xw, p0, p1, p2, p3]
  go_upto_region 4 with (fail)
  refine wp_region_lit ?_
  refine xm [some (.slice (some ⟨g, 0, none⟩) 4 4), some (.slice (some ⟨g, 0, none⟩) 4 4)] (by kernel_rfl) (by simp [xr, go_sem]) ?_
  simp only [xw, p0, p1, p2, p3]
  go_wp2
  go_ret
  refine ⟨g, rfl, hgs, hR.out.congr fun j hj => ?_, hE3.out⟩
  unfold yv padF catF numB
  rw [if_pos hj, if_neg (by omega), Nat.sub_zero]
set_option maxRecDepth 20000 in
set_option maxHeartbeats 4000000 in
theorem flag_any (b : Bool) (w : World) : Calls Tryz.prog 78 #[.bool b] w fun e w' => e = .returned (.int .u64 (if b then 1 else 0)) ∧ w' = w := by
  cases b
  · go_enter Tryz.func78, Tryz.ntmps78
    go_wp2
    go_ret
    exact ⟨rfl, rfl⟩
  · go_enter Tryz.func78, Tryz.ntmps78
    go_wp2
    go_ret
    exact ⟨rfl, rfl⟩
end Go.Proofs.YtfpfgbhdehbggaaGreatDoor
namespace Go.Proofs.YtfpfgbhdehbggaaGreatDoor
open Go.RowKit Go.BigFrame
set_option linter.unusedVariables false
set_option maxRecDepth 20000
theorem ret_row2 {P : Program} {F : Func} {tmps : Array Value} {k k2 : Nat} {t : TypeId} {b n : Nat} {g : Nat → Value} {X : World} {d : TypeDesc} (hF : F.results = #[.cell k t, .tmp k2]) (ht : tmps.getD k undef = .pointer (some ⟨b, 0, none⟩)) (h : RowAt b n g X)
    (hu : P.underlying t = some d) (hd : d.isRow = true) (hi : (P.info? t).map (·.size) = some n) : Sem.run P (results F tmps) X = .ok (.tuple #[.agg (row n g).toArray, tmps.getD k2 undef]) X := by
  have hl := run_loadVar_mid (P := P) X b 0 t (row n g) d h.range hu hd (by rw [row_length]; exact hi)
  unfold results
  rw [hF]
  simp only [List.mapM_toArray, List.mapM_cons, List.mapM_nil, ht]
  simp [asAddr, hl]
theorem exec_copy {P : Program} {w : World} {o : Oper} {a : Act} (d s : Operand) (dT sT : TypeId)
    (ho : o.op = .call { callee := .builtin .copy, args := #[d, s], argTypes := #[dT, sT] }) (elem : TypeId) (hu : P.underlying dT = some (.slice elem)) (hsz : (P.info? elem).map (·.size) = some 1)
    (b n : Nat) (g : Nat → Value) (hR : RowAt b n g w) (off dLen dCap : Nat) (ad : Addr) (sLen sCap : Nat) (hd : a.eval d = .slice (some ⟨b, off, none⟩) dLen dCap) (hs : a.eval s = .slice (some ad) sLen sCap)
    (m : Nat) (u : Nat → Value) (hn : m = Nat.min sLen dLen) (hsrc : ∀ j, j < m → w.cell? (ad.add j) = some (u j)) (hfit : off + m ≤ n) (h1 : ∀ j, j < m → (u j).oneCell' = true) : (execOp a.eval o).run P w = .ok (.value (goInt m)) (w.setCells b off (row m u)) := by
  have hrun := run_copy_cells (P := P) w dT sT o.type elem b off dLen dCap ad sLen sCap (row m u) hu hsz (by rw [row_length]; exact hn) (fun j v hv => by obtain ⟨hj, rfl⟩ := row_some hv; exact hsrc j hj)
    (fun j hj => by rw [row_length] at hj; rw [hR.1 (off + j) (by omega)]; rfl) (fun j hj => by rw [row_length] at hj; exact hR.2.1 (off + j) (by omega)) (fun v hv => by
      obtain ⟨j, hj, rfl⟩ := List.mem_map.1 hv
      exact h1 j (by simpa using hj))
  rw [row_length] at hrun
  simp [execOp, ho, resolve, invoke, builtin, hd, hs, hrun, Result.andThen]
set_option maxRecDepth 20000 in
set_option maxHeartbeats 2000000 in
theorem inf23 : (Tryz.prog.info? 26).map (·.size) = some 64 := by kernel_rfl
theorem inf5 : (Tryz.prog.info? 5).map (·.size) = some 1 := by kernel_rfl
theorem zero23 (w : World) : (zeroValue 26).run Tryz.prog w = .ok (.agg (row 64 (yv fun _ => 0#8)).toArray) w := by kernel_rfl
theorem add_off (b i : Nat) : Addr.add ⟨b, 0, none⟩ i = ⟨b, i, none⟩ := by unfold Addr.add; split <;> simp_all
end Go.Proofs.YtfpfgbhdehbggaaGreatDoor
namespace Go.Proofs.YtfpfgbhdehbggaaGreatDoor
open Go.RowKit
section
variable {P : Program} {ops : Array Oper} {Q : Exit → Act → World → Prop} {brk : List Nat}
def wpZ (P : Program) (ops : Array Oper) (Q : Exit → Act → World → Prop) (brk : List Nat) : List (Bool × Nat) → (World → Prop) → Act → World → Prop
  | [], _, a, w => Q .normal a w
  | (false, i) :: r, C, a, w => ∃ o v, ops[i]? = some o ∧ StrC P ops C o v a ∧ wpZ P ops Q brk r C (a.put o.dst v) w
  | (true, i) :: r, C, a, w => ∃ o, ops[i]? = some o ∧ EffY P ops o w (fun v w' => ∃ C' : World → Prop, (i ∈ brk ∨ ∀ X, C' X → C X) ∧ C' w' ∧ wpZ P ops Q brk r C' (a.put o.dst v) w') a
theorem wpZ_float {C : World → Prop} (hsel : ∀ (j : Nat) (o : Oper) cs b, ops[j]? = some o → o.op ≠ .select cs b) {i : Nat} {o : Oper} (hi : ops[i]? = some o) (s2 : List (Bool × Nat)) {w : World} : ∀ (s1 : List (Bool × Nat)) (a : Act), (∀ p ∈ s1, p.1 = false ∧ ∀ ok, ops[p.2]? = some ok → ok.apart ops o = true) →
    wpZ P ops Q brk (s1 ++ (false, i) :: s2) C a w → ∃ v, StrC P ops C o v a ∧ wpZ P ops Q brk (s1 ++ s2) C (a.put o.dst v) w
  | [], a, _, ⟨o', v, h1, h2, h3⟩ => by
    rw [hi] at h1
    injection h1 with h1
    subst h1
    exact ⟨v, h2, h3⟩
  | (true, k) :: s1, a, hap, h => by have := (hap (true, k) List.mem_cons_self).1; cases this
  | (false, k) :: s1, a, hap, ⟨ok, vk, h1, h2, h3⟩ => by
    obtain ⟨p1, p2, p3⟩ := Oper.apart_spec ((hap (false, k) List.mem_cons_self).2 ok h1)
    obtain ⟨v, g1, g2⟩ := wpZ_float hsel hi s2 s1 _ (fun k' hk' => hap k' (List.mem_cons_of_mem _ hk')) h3
    refine ⟨v, (StrC.put (fun cs b => hsel i o cs b hi) p1).1 g1, ok, vk, h1, (StrC.put (fun cs b => hsel k ok cs b h1) p3).2 h2, ?_⟩
    rw [← Act.put_comm a vk v p2]
    exact g2
theorem wpZ_stand {C : World → Prop} (hsel : ∀ (j : Nat) (o : Oper) cs b, ops[j]? = some o → o.op ≠ .select cs b) {i : Nat} {o : Oper} (hi : ops[i]? = some o) (s2 : List (Bool × Nat)) {w : World} : ∀ (s1 : List (Bool × Nat)) (a : Act), (s1 = [] ∨ i ∉ brk) → (∀ p ∈ s1, p.1 = false ∧ ∀ ok, ops[p.2]? = some ok → ok.apart ops o = true) →
    wpZ P ops Q brk (s1 ++ (true, i) :: s2) C a w → EffY P ops o w (fun v w' => ∃ C' : World → Prop, (i ∈ brk ∨ ∀ X, C' X → C X) ∧ C' w' ∧ wpZ P ops Q brk (s1 ++ s2) C' (a.put o.dst v) w') a
  | [], a, _, _, ⟨o', h1, h2⟩ => by
    rw [hi] at h1
    injection h1 with h1
    subst h1
    exact h2
  | (true, k) :: s1, a, _, hap, h => by have := (hap (true, k) List.mem_cons_self).1; cases this
  | (false, k) :: s1, a, hb, hap, ⟨ok, vk, h1, h2, h3⟩ => by
    have hnb : i ∉ brk := by
      rcases hb with hb | hb
      · cases hb
      · exact hb
    obtain ⟨p1, p2, p3⟩ := Oper.apart_spec ((hap (false, k) List.mem_cons_self).2 ok h1)
    have g := wpZ_stand hsel hi s2 s1 _ (.inr hnb) (fun k' hk' => hap k' (List.mem_cons_of_mem _ hk')) h3
    refine EffY.mono (fun v w' ⟨C', c1, c2, c3⟩ => ⟨C', c1, c2, ok, vk, h1, ((StrC.put (fun cs b => hsel k ok cs b h1) p3).2 h2).mono (c1.resolve_left hnb), ?_⟩) ((EffY.put (fun cs b => hsel i o cs b hi) p1).1 g)
    rw [← Act.put_comm a vk v p2]
    exact c3
structure LadZAt (P : Program) (ops : Array Oper) (Q : Exit → Act → World → Prop) (brk : List Nat) (l : List (Bool × Nat)) (L : Array Bool) (A : Act) (w : World) : Prop where
  size : L.size = ops.size
  closed : Closed ops L
  way : ∃ C : World → Prop, C w ∧ wpZ P ops Q brk (lfx L l) C A w
def ladZB (ops : Array Oper) (brk : List Nat) (p q : Bool × Nat) : Bool := ladB ops p q && (!brk.contains q.2 || reachB ops q.2 p.2)
theorem wp_region_ladz {id : Nat} {a : Act} {w : World} (C : World → Prop) (brk : List Nat) (l : List (Bool × Nat)) (hmo : P.follows .mixedOrders = true) (hB : textB ops = true) (hnd : (l.map (·.2)).Nodup) (hcov : ∀ i ∈ List.range ops.size, i ∈ l.map (·.2)) (hin : ∀ p ∈ l, p.2 < ops.size)
    (hp : l.Pairwise (fun p q => ladZB ops brk p q = true)) (hC : C w.drew) (h : wpZ P ops Q brk l C a w.drew) : (Code.region id ops true).wp P Q a w := by
  obtain ⟨hsel, htx⟩ := textB_spec hB
  refine wp_region_inv (I := fun L A X => LadZAt P ops Q brk l L A X) hmo ?h0 ?hs ?he
  case h0 =>
    have hf0 : ∀ k d, k < ops.size → (Array.replicate ops.size false).getD k d = false := fun k d hk => by unfold Array.getD; simp [hk]
    refine ⟨by simp, ?_, C, hC, ?_⟩
    · intro i o ho hi
      rw [hf0 i _ (Array.getElem?_eq_some_iff.1 ho).1] at hi
      cases hi
    · rw [show lfx (Array.replicate ops.size false) l = l from List.filter_eq_self.2 fun p hpm => by simp [hf0 p.2 true (hin p hpm)]]
      exact h
  case hs =>
    intro L A X i o hI ho hl hdeps
    have hil : i < ops.size := (Array.getElem?_eq_some_iff.1 ho).1
    have hsize : (L.setIfInBounds i true).size = ops.size := by simp [hI.size]
    have hclosed := hI.closed.step ho hdeps
    have hap : ∀ k, edgeB ops k i = true → L.getD k true = false → ∀ ok, ops[k]? = some ok → ok.apart ops o = true := by
      intro k hed hk ok hok
      rcases edgeB_spec ho hok hed with ⟨e, he, hbe, rfl⟩ | h2
      · have h3 := hdeps e he hbe
        rw [getD_flip hk] at h3
        cases h3
      · exact h2
    have hwt : ∀ k, reachB ops i k = true → L.getD k false = true := fun k hk => reachB_listed hI.closed i k o ho hdeps hk
    obtain ⟨p, hpl, rfl⟩ := List.mem_map.1 (hcov i (by simpa using hil))
    obtain ⟨r1, r2, s1, s2, s3⟩ := lfx_split hnd hp hpl hl
    have hr1 : ∀ q ∈ r1, q.1 = false ∧ ∀ ok, ops[q.2]? = some ok → ok.apart ops o = true := by
      intro q hq
      obtain ⟨t1, t2⟩ := s3 q hq
      unfold ladZB at t1
      rw [Bool.and_eq_true] at t1
      replace t1 := t1.1
      unfold ladB at t1
      cases hb : q.1 with
      | true =>
        rw [hb, if_pos rfl] at t1
        have := hwt _ t1
        rw [getD_flip t2] at this
        cases this
      | false =>
        rw [hb, if_neg (by simp)] at t1
        exact ⟨rfl, hap q.2 t1 t2⟩
    have hr2 : r1 = [] ∨ p.2 ∉ brk := by
      by_cases hbk : p.2 ∈ brk
      · refine .inl ?_
        cases hr : r1 with
        | nil => rfl
        | cons q r =>
          exfalso
          obtain ⟨t1, t2⟩ := s3 q (by rw [hr]; exact List.mem_cons_self)
          unfold ladZB at t1
          rw [Bool.and_eq_true, Bool.or_eq_true] at t1
          rcases t1.2 with h9 | h9
          · simp [hbk] at h9
          · have := hwt _ h9
            rw [getD_flip t2] at this
            cases this
      · exact .inr hbk
    obtain ⟨C1, hC1, hw⟩ := hI.way
    rw [s1] at hw
    obtain ⟨b, i⟩ := p
    cases b with
    | false =>
      obtain ⟨v, g1, g2⟩ := wpZ_float hsel ho r2 r1 A hr1 hw
      exact StrC.wpOp ho hC1 g1 ⟨hsize, hclosed, C1, hC1, by rw [s2]; exact g2⟩
    | true => exact EffY.wpOp ho (wpZ_stand hsel ho r2 r1 A hr2 hr1 hw) fun v w' ⟨C', c1, c2, c3⟩ => ⟨hsize, hclosed, C', c2, by rw [s2]; exact c3⟩
  case he =>
    intro L A X hI hr
    have hall : ∀ n k, k < n → k < ops.size → L.getD k false = true := by
      intro n
      induction n with
      | zero => intro k hk; omega
      | succ n ih =>
        intro k hk hkn
        cases hv : L.getD k false with
        | true => rfl
        | false =>
          exfalso
          have ho : ops[k]? = some ops[k] := Array.getElem?_eq_getElem hkn
          have hmem : k ∈ Region.ready .any ops L := mem_ready.2 ⟨by rw [← getD_flip' (by rw [hI.size]; omega)]; exact hv, ops[k], ho, fun e he hbe => ih e.on (by have := htx k _ ho e he hbe; omega) (by have := htx k _ ho e he hbe; omega)⟩
          rw [hr] at hmem
          cases hmem
    obtain ⟨C1, hC1, hw⟩ := hI.way
    rw [show lfx L l = [] from List.filter_eq_nil_iff.2 fun p hpm => by
      have := hall (p.2 + 1) p.2 (by omega) (hin p hpm)
      rw [getD_flip' (by rw [hI.size]; exact hin p hpm)] at this
      simp [this]] at hw
    exact hw
theorem wpZ_nil {C : World → Prop} {a : Act} {w : World} (h : Q .normal a w) : wpZ P ops Q brk [] C a w := h
theorem wpZ_f {C : World → Prop} {a : Act} {w : World} {i : Nat} {r : List (Bool × Nat)} (o : Oper) (v : Value) (ho : ops[i]? = some o) (hw : Region.wanted o (yielded ops a.tmps) = true) (hr : ∀ X, C X → (execOp a.eval o).run P X = .ok (.value v) X) (h : wpZ P ops Q brk r C (a.put o.dst v) w) : wpZ P ops Q brk ((false, i) :: r) C a w := ⟨o, v, ho, .inl ⟨hw, hr⟩, h⟩
theorem wpZ_call {C : World → Prop} {a : Act} {w : World} {i : Nat} {r : List (Bool × Nat)} (o : Oper) {f : FuncId} {args : Array Value} (ho : ops[i]? = some o) (hw : Region.wanted o (yielded ops a.tmps) = true) (hr : (execOp a.eval o).run P w = .ok (.enter f args) w)
    (hc : Calls P f args w fun e w' => ∃ v, e = .returned v ∧ ∃ C' : World → Prop, (i ∈ brk ∨ ∀ X, C' X → C X) ∧ C' w' ∧ wpZ P ops Q brk r C' (a.put o.dst v) w') : wpZ P ops Q brk ((true, i) :: r) C a w := ⟨o, ho, .inl ⟨hw, by rw [hr]; exact hc⟩⟩
theorem wpZ_to {C : World → Prop} {a : Act} {w : World} {i : Nat} {r : List (Bool × Nat)} (o : Oper) (v : Value) (w' : World) (ho : ops[i]? = some o) (hw : Region.wanted o (yielded ops a.tmps) = true) (hr : (execOp a.eval o).run P w = .ok (.value v) w') (C' : World → Prop) (h1 : i ∈ brk ∨ ∀ X, C' X → C X) (h2 : C' w') (h : wpZ P ops Q brk r C' (a.put o.dst v) w') : wpZ P ops Q brk ((true, i) :: r) C a w := ⟨o, ho, .inl ⟨hw, by rw [hr]; exact ⟨C', h1, h2, h⟩⟩⟩
end
end Go.Proofs.YtfpfgbhdehbggaaGreatDoor
