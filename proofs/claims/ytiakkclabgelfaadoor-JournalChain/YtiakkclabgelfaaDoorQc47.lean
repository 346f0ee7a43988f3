/-
  Reading a transaction back, ahead. What an area has.
-/
import Derived.Test.YtiakkclabgelfaaDoorQc46
import Derived.Test.YtiakkclabgelfaaDoorQc1
namespace Go.Proofs.YtiakkclabgelfaaDoor
open Go.RowKit Go.BigFrame Go.Maps
set_option linter.unusedVariables false
set_option maxRecDepth 20000
theorem addrO (b o i : Nat) : (⟨b, o, none⟩ : Addr).add i = ⟨b, o + i, none⟩ := by unfold Addr.add; split <;> simp_all
def tlA (ad : Addr) (q lc : Nat) : Addr := if lc = q then ad else ad.add q
theorem run_tail (w : World) {ad : Addr} {k lc q : Nat} (hq : q ≤ k) (hk : k ≤ lc) : (Instr.sliceAt 49 (.slice (some ad) k lc) (some (.int .i64 (q : Int))) none none).run Tryd.prog w = .ok (.slice (some (tlA ad q lc)) (k - q) (lc - q)) w := by
  have h1 : (q : Int) ≤ (k : Int) := by omega
  unfold tlA
  by_cases e : lc = q
  · simp [go_sem, h1, e]
  · simp [go_sem, h1, e]
theorem exec_tail {o : Oper} {a : Act} {w : World} {ad : Addr} {k lc q : Nat} (x y : Operand) (ho : o.op = .slice 49 x (some y) none none) (hx : a.eval x = .slice (some ad) k lc) (hy : a.eval y = .int .i64 (q : Int)) (hq : q ≤ k) (hk : k ≤ lc) :
    (execOp a.eval o).run Tryd.prog w = .ok (.value (.slice (some (tlA ad q lc)) (k - q) (lc - q))) w := by
  simp [execOp, ho, hx, hy, run_tail w hq hk, Result.andThen]
theorem bls_tail {G : Nat → Prop} {B vb cp m : Nat} {us : Nat → Value} {fs : Nat → Nat → BitVec 8} {w X : World} (h : BLs B (.slice (some ⟨vb, 0, none⟩) m cp) m us fs w) (k : Keeps G w X) (hv : ¬ G vb) (hz : ∀ i, i < m → ∀ z, (us i).ownBlock = some z → ¬ G z) (q : Nat) (hm : 0 < m) :
    PL (.slice (some (tlA ⟨vb, 0, none⟩ q cp)) (m - q) (cp - q)) (m - q) (fun i => us (q + i)) (fun _ => 512) (fun i => fs (q + i)) X ∧ (0 < m - q → BV (us (q + 0)) 512 (fs (q + 0)) X) := by
  obtain ⟨b, c, e, _, hc, _, hr⟩ := h.own.lies hm
  injection e with e e1 e2
  injection e with e
  injection e with e
  subst e
  subst e2
  have hr2 := hr.keep k hv
  have hb : ∀ i, i < m → BV (us i) 512 (fs i) X := fun i hi => by
    obtain ⟨z, c, h1, h2, h3, _⟩ := h.byt i hi
    exact .inr ⟨_, c, h1, h2, h3.keep k (hz i hi z (by rw [h1]; rfl))⟩
  refine ⟨⟨.inr ⟨_, _, rfl, by omega, fun i hi => ?_⟩, fun i hi => (hb (q + i) (by omega)).pv⟩, fun hi => hb (q + 0) (by omega)⟩
  unfold tlA
  rw [if_neg (by omega), addrO, addrO, Nat.zero_add]
  exact hr2.1 (q + i) (by omega)
theorem parse_yes (x : BitVec 64) (vb : Value) (m n : Nat) (us : Nat → Value) (fs : Nat → Nat → BitVec 8) (bs : Nat → Int) (ls : Nat → Nat) (gs : Nat → Nat → BitVec 8) (w : World) (hT : TabC w) (hP : PL vb m us (fun _ => 512) fs w) (h0 : 0 < m → BV (us 0) 512 (fs 0) w) (hm : m ≤ 4398046511104) (hok : okT x n bs ls gs) (hnm : n + 2 ≤ m) (hf : ∀ i, i < n + 2 → fs i = trF x (tmK ls gs n) n bs gs i) :
    Calls Tryd.prog 62 #[.int .u64 (x.toNat : Int), vb] w fun e w' => ∃ o c us', e = .returned (.tuple #[.slice o n c, .int .i64 ((n + 2 : Nat) : Int), .int .i64 0]) ∧ RDs w.heap.size (.slice o n c) n bs us' ls gs w' ∧ Ext w w' := by
  obtain ⟨b1, b2, b3, b4, b5⟩ := tx_back (ls' := fun _ => 512) hok hnm (fun _ _ => rfl) hf
  refine (parse_some x vb m us (fun _ => 512) fs w hT hP h0 (fun _ _ => by decide) hm b1).mono ?_
  rintro e w' ⟨hE, ⟨_, v, us', rfl, hR⟩ | ⟨h, _⟩⟩
  · rw [b3] at hR ⊢
    obtain ⟨o, c, rfl⟩ := hR.form
    exact ⟨o, c, us', rfl, hR.congr b4 (fun _ _ => rfl) (fun i hi => (Classical.byContradiction fun h => hok.2 ⟨i, hi, fun h9 => h h9.symm⟩)) b5, hE⟩
  · exact absurd b2 h
theorem JR.grow {j p fi co us N C B : Nat} {nu : BitVec 64} {bg : Bool} {F G : Nat → Prop} {A D : Nat → Nat → BitVec 8} {X Y : World} (h : JR j p fi co nu us bg F N A D C X) (k : Keeps G X Y) (hG : ∀ i, G i → B ≤ i) (hB : ∀ i, F i → i < B) (hj : j < B) (hnb : ∀ i, G i → ¬ IsB i X) : JR j p fi co nu us bg F N A D C Y := by
  have hjG : ¬ G j := fun e => by have := hG j e; omega
  exact ⟨h.row.keep k hjG, isB_keep h.nb h.row.2.2 k hjG, h.nf, h.dv.keep k (fun i hi e => by have := hG i e; have := hB i hi; omega) hnb, h.co1, h.co2, h.ar⟩
theorem own_nb {K B n i : Nat} {v : Value} {g : Nat → Value} {X : World} (h : OwnK K B 47 v n g X) (e : v.ownBlock = some i) : ¬ IsB i X := by
  rcases h.2 with ⟨rfl, _⟩ | ⟨b, cap, cur, rfl, _, hg, _⟩
  · cases e
  · injection e with e
    subst e
    rintro ⟨c2, f2, h2⟩
    have h3 : some (Obj.cells cur 47) = some (Obj.cells c2 5 f2) := hg.symm.trans h2
    injection h3 with h3
    injection h3 with _ h3
    cases h3
def lenV : Value → Nat
  | .slice _ n _ => n
  | _ => 0
end Go.Proofs.YtiakkclabgelfaaDoor
namespace Go.Proofs.YtiakkclabgelfaaDoor
open Go.RowKit Go.BigFrame Go.Maps
set_option linter.unusedVariables false
set_option maxRecDepth 20000
theorem parse_no (x : BitVec 64) (vb : Value) (m : Nat) (us : Nat → Value) (fs : Nat → Nat → BitVec 8) (w : World) (hT : TabC w) (hP : PL vb m us (fun _ => 512) fs w) (h0 : 0 < m → BV (us 0) 512 (fs 0) w) (hm : m ≤ 4398046511104) (hno : ¬ (hasP x m (fun _ => 512) fs ∧ isTx x (fun _ => 512) fs)) : Calls Tryd.prog 62 #[.int .u64 (x.toNat : Int), vb] w fun e w' => e = .returned (.tuple #[.slice none 0 0, .int .i64 0, .int .i64 110]) ∧ Ext w w' := by
  by_cases h : hasP x m (fun _ => 512) fs
  · refine (parse_some x vb m us (fun _ => 512) fs w hT hP h0 (fun _ _ => by decide) hm h).mono ?_
    rintro e w' ⟨hE, ⟨h2, _⟩ | ⟨_, h2⟩⟩
    · exact absurd ⟨h, h2⟩ hno
    · exact ⟨h2, hE⟩
  · exact parse_none x vb m us (fun _ => 512) fs w hP h0 (fun _ _ => by decide) hm h
set_option maxRecDepth 20000 in
set_option maxHeartbeats 4000000 in
theorem find_ok (j p fi co : Nat) (nu : BitVec 64) (bg : Bool) (F : Nat → Prop) (N : Nat) (A D : Nat → Nat → BitVec 8) (C B vb cp m : Nat) (us : Nat → Value) (fs : Nat → Nat → BitVec 8) (w : World) (hJ : JR j p fi co nu 0 bg F N A D C w) (hB : BLs B (.slice (some ⟨vb, 0, none⟩) m cp) m us fs w) (hvj : ¬ vb = j) (hzj : ∀ i, i < m → ∀ z, (us i).ownBlock = some z → ¬ z = j) (hm0 : 0 < m) (hm9 : m ≤ 1000) (hT : TabC w) (hj0 : j ≠ 0) (K : Nat) (tn : Nat → Nat) (tb : Nat → Nat → Int) (tl : Nat → Nat → Nat) (tf : Nat → Nat → Nat → BitVec 8) (hch : ∀ k, k < K → okT (nuK nu k) (tn k) (tb k) (tl k) (tf k) ∧ ¬ fgL fi co N (tn k) (tb k) ∧ ∀ i, i < tn k + 2 → fs (ofN tn k + i) = trF (nuK nu k) (tmK (tl k) (tf k) (tn k)) (tn k) (tb k) (tf k) i) (hle : ofN tn K ≤ m) (hend : ¬ (hasP (nuK nu K) (m - ofN tn K) (fun _ => 512) (fun i => fs (ofN tn K + i)) ∧ isTx (nuK nu K) (fun _ => 512) (fun i => fs (ofN tn K + i)))) : Calls Tryd.prog 36 #[.pointer (some ⟨j, 0, none⟩), .slice (some ⟨vb, 0, none⟩) m cp] w fun e w' => ∃ v us', e = .returned v ∧ RDs w.heap.size v (smN tn K) (caN 0 tn tb K) us' (caN 0 tn tl K) (caN (fun _ => 0) tn tf K) w' ∧ JR j p fi co (nuK nu K) (ofN tn K) bg F N A D C w' ∧ Keeps (fun i => i = j) w w' := by
  have hFl := hideit hJ.dv.lt
  have hjl := hideit hJ.row.2.2
  have hj0 : Hid (j ≠ 0) := hideit hj0
  have hnB := hideit hJ.nb
  replace hJ := hideit hJ
  replace hT := hideit hT
  replace hB := hideit hB
  replace hch := hideit hch
  replace hend := hideit hend
  replace hle := hideit hle
  have hcm : Hid (m ≤ cp) := by
    obtain ⟨b, c, e, _, hc, _⟩ := hB.out.own.lies hm0
    injection e with e e1 e2
    rw [e2]
    exact hideit hc
  go_enter Tryd.func36, Tryd.ntmps36
  go_upto_region 1 with (fail)
  refine wp_region_lit ?_
  refine xm [some (.slice none 0 0)] (by kernel_rfl) (by simp [xr, go_sem]) ?_
  simp only [xw, p0, p1, p2, p3]
  go_upto_region 2 with (fail)
  go_loopw [5, 6, 7, 8] (fun v _ _ _ X => ∃ (k : Nat) (us' : Nat → Value), k ≤ K ∧ RDs w.heap.size v (smN tn k) (caN 0 tn tb k) us' (caN 0 tn tl k) (caN (fun _ => 0) tn tf k) X ∧ JR j p fi co (nuK nu k) (ofN tn k) bg F N A D C X ∧ Keeps (fun i => i = j) w X) (fun v _ _ _ _ => 2000000 - lenV v)
  case atStart =>
    refine ⟨0, fun _ => .slice none 0 0, Nat.zero_le _, rds_nil _ _ _ _ _ _, ?_, Keeps.refl _ _⟩
    rw [nuK_zero]
    exact hJ.out
  case round =>
    clear hJ
    obtain ⟨k, us', hk, hI, hJ, hK⟩ := hrel
    have hof : ofN tn k ≤ m := Nat.le_trans (ofN_mono tn hk) hle.out
    have hTr := hideit (hT.out.keep hK fun e => hj0.out e.symm)
    obtain ⟨hPL, hBV⟩ := bls_tail hB.out hK hvj hzj (ofN tn k) hm0
    obtain ⟨oa, ca, rfl⟩ := hI.form
    have hR := hideit hJ.row
    replace hI := hideit hI
    replace hJ := hideit hJ
    replace hK := hideit hK
    have hE := hideit (Ext.refl wr)
    replace hPL := hideit hPL
    replace hBV := hideit hBV
    have hsm := smN_le tn k
    by_cases hlt : k < K
    · obtain ⟨hok, hnf, hcon⟩ := hch.out k hlt
      have htn1 : 1 ≤ tn k := hok.1.2.1
      have htn2 : tn k ≤ 64 := hok.1.2.2.1
      have hofm : ofN tn k + (tn k + 2) ≤ m := Nat.le_trans (ofN_mono tn (show k + 1 ≤ K from hlt)) hle.out
      have hlen : ∀ i, i < tn k → tl k i = 512 := fun i hi => Classical.byContradiction fun h => hok.2 ⟨i, hi, h⟩
      have hnk := nuK_succ nu k
      obtain ⟨nk, hnk9⟩ : ∃ a, a = nuK nu k := ⟨_, rfl⟩
      obtain ⟨nn, hnn⟩ : ∃ a, a = tn k := ⟨_, rfl⟩
      obtain ⟨ofk, hofk⟩ : ∃ a, a = ofN tn k := ⟨_, rfl⟩
      obtain ⟨sk, hsk⟩ : ∃ a, a = smN tn k := ⟨_, rfl⟩
      rw [← hnk9] at hok hcon hJ hR hnk
      rw [← hnn] at hok hnf hcon htn1 htn2 hofm hlen
      rw [← hofk] at hcon hPL hBV hJ hR hof hofm hsm
      rw [← hsk] at hI hsm ⊢
      replace hok := hideit hok
      replace hnf := hideit hnf
      replace hcon := hideit hcon
      replace hlen := hideit hlen
      replace hnk := hideit hnk
      clear hch hend
      have h0E := hideit (Ext.draw hE.out)
      have hI0 := hideit (hI.out.ext (Ext.draw (Ext.refl _)))
      go_upto_region 2 with (fail)
      replace hR := hideit hR.out.drew
      replace hTr := hideit (hTr.out.ext (Ext.draw (Ext.refl wr)))
      replace hI := hideit (hI.out.ext (Ext.draw (Ext.refl wr)))
      replace hJ := hideit (hJ.out.ext (Ext.draw (Ext.refl wr)))
      replace hE := hideit (Ext.draw hE.out)
      refine wp_region_lad (fun X => Ext wr.drew X) [(false, 0), (false, 1), (false, 2), (false, 3), (false, 4), (false, 5), (false, 6), (false, 7), (false, 8), (false, 9), (true, 10), (false, 11), (false, 12), (false, 13), (false, 14), (false, 15), (false, 16), (false, 17)] (by kernel_rfl) (by kernel_rfl) (by decide +kernel) (by decide +kernel) (by decide +kernel) (by decide +kernel) (Ext.refl _) ?_
      refine wpX_f _ (.pointer (some ⟨j, 0, none⟩)) rfl rfl (fun X _ => by simp [go_sem]) ?_
      simp only [List.getElem_toArray, List.getElem_cons_zero, Act.put, List.setIfInBounds_toArray, List.set_cons_zero, List.set_cons_succ]
      refine wpX_f _ (.pointer (some ⟨j, 0, none⟩)) rfl rfl (fun X _ => by simp [go_sem]) ?_
      simp only [zp4, zp5, zp6, zp0, zp1, zp2, zp3]
      refine wpX_f _ (.pointer (some ⟨j, 3, none⟩)) rfl rfl (fun X _ => by simp [go_sem]) ?_
      simp only [zp4, zp5, zp6, zp0, zp1, zp2, zp3]
      refine wpX_f _ (.int .u64 (nk.toNat : Int)) rfl rfl (fun X hX => by have m1 : X.cell? ⟨j, 3, none⟩ = some (.int .u64 (nk.toNat : Int)) := (hR.out.carry hX).1 3 (by decide); simp [go_sem, m1]) ?_
      simp only [zp4, zp5, zp6, zp0, zp1, zp2, zp3]
      refine wpX_f _ (.slice (some ⟨vb, 0, none⟩) m cp) rfl rfl (fun X _ => by simp [go_sem]) ?_
      simp only [zp4, zp5, zp6, zp0, zp1, zp2, zp3]
      refine wpX_f _ (.pointer (some ⟨j, 0, none⟩)) rfl rfl (fun X _ => by simp [go_sem]) ?_
      simp only [zp4, zp5, zp6, zp0, zp1, zp2, zp3]
      refine wpX_f _ (.pointer (some ⟨j, 0, none⟩)) rfl rfl (fun X _ => by simp [go_sem]) ?_
      simp only [zp4, zp5, zp6, zp0, zp1, zp2, zp3]
      refine wpX_f _ (.pointer (some ⟨j, 4, none⟩)) rfl rfl (fun X _ => by simp [go_sem]) ?_
      simp only [zp4, zp5, zp6, zp0, zp1, zp2, zp3]
      refine wpX_f _ (.int .i64 (ofk : Int)) rfl rfl (fun X hX => by have m2 : X.cell? ⟨j, 4, none⟩ = some (.int .i64 (ofk : Int)) := (hR.out.carry hX).1 4 (by decide); simp [go_sem, m2]) ?_
      simp only [zp4, zp5, zp6, zp0, zp1, zp2, zp3]
      refine wpX_f _ (.slice (some (tlA ⟨vb, 0, none⟩ ofk cp)) (m - ofk) (cp - ofk)) rfl rfl (fun X hX => exec_tail (.tmp 14) (.tmp 18) rfl rfl rfl hof hcm.out) ?_
      simp only [zp4, zp5, zp6, zp0, zp1, zp2, zp3]
      refine wpX_call _ rfl rfl (by simp [go_sem]) ((parse_yes nk (.slice (some (tlA ⟨vb, 0, none⟩ ofk cp)) (m - ofk) (cp - ofk)) (m - ofk) nn (fun i => us (ofk + i)) (fun i => fs (ofk + i)) (tb k) (tl k) (tf k) wr.drew hTr.out (hPL.out.ext hE.out) (fun h => (hBV.out h).ext hE.out) (by omega) hok.out (by omega) hcon.out).mono ?_)
      rintro e y1 ⟨o2, c2, us2, rfl, hD2, hX1⟩
      refine ⟨_, rfl, fun X => Ext y1 X, fun X hX => Ext.trans hX1 hX, Ext.refl _, ?_⟩
      simp only [zp4, zp5, zp6, zp0, zp1, zp2, zp3]
      replace hR := hideit (hR.out.carry hX1)
      replace hTr := hideit (hTr.out.ext hX1)
      replace hI := hideit (hI.out.ext hX1)
      replace hJ := hideit (hJ.out.ext hX1)
      replace hE := hideit (Ext.trans hE.out (hX1))
      replace hD2 := hideit hD2
      have hG2 := hideit (Below.size h0E.out)
      have hG3 := hideit ((hI0.out).own.lt)
      clear hX1 h0E hI0
      refine wpX_f _ (.tuple #[.slice o2 nn c2, .int .i64 ((nn + 2 : Nat) : Int), .int .i64 0]) rfl rfl (fun X _ => by simp [go_sem]) ?_
      simp only [zp4, zp5, zp6, zp0, zp1, zp2, zp3]
      refine wpX_f _ (.slice o2 nn c2) rfl rfl (fun X _ => by simp [go_sem]) ?_
      simp only [zp4, zp5, zp6, zp0, zp1, zp2, zp3]
      refine wpX_f _ (.int .i64 ((nn + 2 : Nat) : Int)) rfl rfl (fun X _ => by simp [go_sem]) ?_
      simp only [zp4, zp5, zp6, zp0, zp1, zp2, zp3]
      refine wpX_f _ (.int .i64 0) rfl rfl (fun X _ => by simp [go_sem]) ?_
      simp only [zp4, zp5, zp6, zp0, zp1, zp2, zp3]
      refine wpX_f _ (.slice o2 nn c2) rfl rfl (fun X _ => by simp [go_sem]) ?_
      simp only [zp4, zp5, zp6, zp0, zp1, zp2, zp3]
      refine wpX_f _ (.int .i64 ((nn + 2 : Nat) : Int)) rfl rfl (fun X _ => by simp [go_sem]) ?_
      simp only [zp4, zp5, zp6, zp0, zp1, zp2, zp3]
      refine wpX_f _ (.int .i64 0) rfl rfl (fun X _ => by simp [go_sem]) ?_
      simp only [zp4, zp5, zp6, zp0, zp1, zp2, zp3]
      refine wpX_nil ?_
      go_upto_region 3 with (fail)
      refine wp_region_lit ?_
      refine xm [some (.int .i64 0), some (.bool false), some (.bool false), some (.slice o2 nn c2), some (.pointer (some ⟨j, 0, none⟩)), some (.func (.func 24) #[.pointer (some ⟨j, 0, none⟩)] #[])] (by kernel_rfl) (by simp [xr, go_sem]) ?_
      simp only [xw, p0, p1, p2, p3]
      refine wpList_callW rfl (by simp [go_sem]) ((contains_fgn (.slice o2 nn c2) nn (tb k) us2 (tl k) (tf k) y1 j p fi co nk ofk bg F N A D C hJ.out (hD2.out.rls (by omega) (fun i hi => by rw [hlen.out i hi]; decide)) (by omega) false ⟨fun e => (by cases e), fun e => absurd e hnf.out⟩).mono ?_)
      rintro e y3 ⟨rfl, hX4⟩
      refine ⟨_, rfl, ?_⟩
      simp only [zp0, zp1, zp2, zp3]
      replace hR := hideit (hR.out.carry hX4)
      replace hTr := hideit (hTr.out.ext hX4)
      replace hI := hideit (hI.out.ext hX4)
      replace hJ := hideit (hJ.out.ext hX4)
      replace hD2 := hideit (hD2.out.ext hX4)
      replace hE := hideit (Ext.trans hE.out (hX4))
      clear hX4
      refine xm [some (.bool false)] (by kernel_rfl) (by simp [xr, go_sem]) ?_
      simp only [xw, p0, p1, p2, p3]
      go_upto_region 5 with (fail)
      refine wp_region_lit ?_
      refine xm [some (.slice oa sk ca), some (.slice o2 nn c2)] (by kernel_rfl) (by simp [xr, go_sem]) ?_
      simp only [xw, p0, p1, p2, p3]
      have hsz := Below.size hE.out
      have hKs := hK.out.size
      obtain ⟨v4, Y, r4, hI4, hB4, hg4⟩ := hI.out.cat hD2.out (Nat.le_trans hKs hsz) (Nat.le_trans hKs hG2.out) (by omega) (by omega) (fun z hz => (hG3.out z hz).2) 22
      have kG : Hid (Keeps (fun i => (Value.slice oa sk ca).ownBlock = some i) y3 Y) := Keeps.of_grown hg4 fun b hb => .inl hb
      have hJ4 : Hid (JR j p fi co nk ofk bg F N A D C Y) := hJ.out.grow (B := w.heap.size) kG.out (fun i hi => (hI.out.own.lt i hi).1) hFl.out hjl.out (fun i hi => own_nb hI.out.own hi)
      have hK4 : Hid (Keeps (fun i => i = j) w Y) := (hK.out.ext hE.out).trans kG.out fun i hi => .inr ((hI.out.own.lt i hi).1)
      obtain ⟨o4, c4, rfl⟩ := hI4.form
      replace hI4 := hideit hI4
      refine wpList_to rfl (.slice o4 (sk + nn) c4) Y (exec_app (.tmp 33) (.tmp 34) rfl rfl rfl r4) ?_
      simp only [zp0, zp1, zp2, zp3]
      clear r4 hI hD2 hJ hR hTr hB4 hg4 kG hG3 hE hPL hBV hsz
      refine xm [some (.slice o4 (sk + nn) c4)] (by kernel_rfl) (by simp [xr, go_sem]) ?_
      simp only [xw, p0, p1, p2, p3]
      go_upto_region 6 with (fail)
      refine wp_region_lit ?_
      refine xm [some (.pointer (some ⟨j, 0, none⟩)), some (.int .i64 ((nn + 2 : Nat) : Int))] (by kernel_rfl) (by simp [xr, go_sem]) ?_
      simp only [xw, p0, p1, p2, p3]
      refine wpList_call rfl (by simp [go_sem]) ((jpass j p fi co nk ofk (nn + 2) bg N F A D C Y hJ4.out (by omega) (by omega)).mono ?_)
      rintro e Z ⟨rfl, hJ5, hK5⟩
      refine ⟨_, rfl, ?_⟩
      simp only [zp0, zp1, zp2, zp3]
      go_wp2
      refine ⟨⟨k + 1, catN sk us' us2, hlt, ?_, ?_, hK4.out.trans hK5 fun i hi => .inl hi⟩, by show 2000000 - (sk + nn) < 2000000 - sk; omega⟩
      · have h9 := hI4.out.keep hK5 (fun b hb e => by have := hjl.out; omega)
        subst hsk hnn
        exact h9
      · rw [hnk.out]
        show JR j p fi co (nk + 1) (ofN tn k + (tn k + 2)) bg F N A D C Z
        rw [← hofk, ← hnn]
        exact hJ5
    · obtain rfl : k = K := by omega
      obtain ⟨nk, hnk9⟩ : ∃ a, a = nuK nu k := ⟨_, rfl⟩
      obtain ⟨ofk, hofk⟩ : ∃ a, a = ofN tn k := ⟨_, rfl⟩
      obtain ⟨sk, hsk⟩ : ∃ a, a = smN tn k := ⟨_, rfl⟩
      have hI9 := hI
      have hJ9 := hJ
      rw [← hnk9, ← hofk] at hR hend
      rw [← hofk] at hPL hBV hof
      rw [← hsk] at hI9 ⊢
      go_upto_region 2 with (fail)
      replace hR := hideit hR.out.drew
      replace hE := hideit (Ext.draw hE.out)
      refine wp_region_lad (fun X => Ext wr.drew X) [(false, 0), (false, 1), (false, 2), (false, 3), (false, 4), (false, 5), (false, 6), (false, 7), (false, 8), (false, 9), (true, 10), (false, 11), (false, 12), (false, 13), (false, 14), (false, 15), (false, 16), (false, 17)] (by kernel_rfl) (by kernel_rfl) (by decide +kernel) (by decide +kernel) (by decide +kernel) (by decide +kernel) (Ext.refl _) ?_
      refine wpX_f _ (.pointer (some ⟨j, 0, none⟩)) rfl rfl (fun X _ => by simp [go_sem]) ?_
      simp only [List.getElem_toArray, List.getElem_cons_zero, Act.put, List.setIfInBounds_toArray, List.set_cons_zero, List.set_cons_succ]
      refine wpX_f _ (.pointer (some ⟨j, 0, none⟩)) rfl rfl (fun X _ => by simp [go_sem]) ?_
      simp only [zp4, zp5, zp6, zp0, zp1, zp2, zp3]
      refine wpX_f _ (.pointer (some ⟨j, 3, none⟩)) rfl rfl (fun X _ => by simp [go_sem]) ?_
      simp only [zp4, zp5, zp6, zp0, zp1, zp2, zp3]
      refine wpX_f _ (.int .u64 (nk.toNat : Int)) rfl rfl (fun X hX => by have m1 : X.cell? ⟨j, 3, none⟩ = some (.int .u64 (nk.toNat : Int)) := (hR.out.carry hX).1 3 (by decide); simp [go_sem, m1]) ?_
      simp only [zp4, zp5, zp6, zp0, zp1, zp2, zp3]
      refine wpX_f _ (.slice (some ⟨vb, 0, none⟩) m cp) rfl rfl (fun X _ => by simp [go_sem]) ?_
      simp only [zp4, zp5, zp6, zp0, zp1, zp2, zp3]
      refine wpX_f _ (.pointer (some ⟨j, 0, none⟩)) rfl rfl (fun X _ => by simp [go_sem]) ?_
      simp only [zp4, zp5, zp6, zp0, zp1, zp2, zp3]
      refine wpX_f _ (.pointer (some ⟨j, 0, none⟩)) rfl rfl (fun X _ => by simp [go_sem]) ?_
      simp only [zp4, zp5, zp6, zp0, zp1, zp2, zp3]
      refine wpX_f _ (.pointer (some ⟨j, 4, none⟩)) rfl rfl (fun X _ => by simp [go_sem]) ?_
      simp only [zp4, zp5, zp6, zp0, zp1, zp2, zp3]
      refine wpX_f _ (.int .i64 (ofk : Int)) rfl rfl (fun X hX => by have m2 : X.cell? ⟨j, 4, none⟩ = some (.int .i64 (ofk : Int)) := (hR.out.carry hX).1 4 (by decide); simp [go_sem, m2]) ?_
      simp only [zp4, zp5, zp6, zp0, zp1, zp2, zp3]
      refine wpX_f _ (.slice (some (tlA ⟨vb, 0, none⟩ ofk cp)) (m - ofk) (cp - ofk)) rfl rfl (fun X hX => exec_tail (.tmp 14) (.tmp 18) rfl rfl rfl hof hcm.out) ?_
      simp only [zp4, zp5, zp6, zp0, zp1, zp2, zp3]
      refine wpX_call _ rfl rfl (by simp [go_sem]) ((parse_no nk (.slice (some (tlA ⟨vb, 0, none⟩ ofk cp)) (m - ofk) (cp - ofk)) (m - ofk) (fun i => us (ofk + i)) (fun i => fs (ofk + i)) wr.drew (hTr.out.ext hE.out) (hPL.out.ext hE.out) (fun h => (hBV.out h).ext hE.out) (by omega) hend.out).mono ?_)
      rintro e y1 ⟨rfl, hX1⟩
      refine ⟨_, rfl, fun X => Ext y1 X, fun X hX => Ext.trans hX1 hX, Ext.refl _, ?_⟩
      simp only [zp4, zp5, zp6, zp0, zp1, zp2, zp3]
      replace hR := hideit (hR.out.carry hX1)
      replace hE := hideit (Ext.trans hE.out (hX1))
      clear hX1
      refine wpX_f _ (.tuple #[.slice none 0 0, .int .i64 0, .int .i64 110]) rfl rfl (fun X _ => by simp [go_sem]) ?_
      simp only [zp4, zp5, zp6, zp0, zp1, zp2, zp3]
      refine wpX_f _ (.slice none 0 0) rfl rfl (fun X _ => by simp [go_sem]) ?_
      simp only [zp4, zp5, zp6, zp0, zp1, zp2, zp3]
      refine wpX_f _ (.int .i64 0) rfl rfl (fun X _ => by simp [go_sem]) ?_
      simp only [zp4, zp5, zp6, zp0, zp1, zp2, zp3]
      refine wpX_f _ (.int .i64 110) rfl rfl (fun X _ => by simp [go_sem]) ?_
      simp only [zp4, zp5, zp6, zp0, zp1, zp2, zp3]
      refine wpX_f _ (.slice none 0 0) rfl rfl (fun X _ => by simp [go_sem]) ?_
      simp only [zp4, zp5, zp6, zp0, zp1, zp2, zp3]
      refine wpX_f _ (.int .i64 0) rfl rfl (fun X _ => by simp [go_sem]) ?_
      simp only [zp4, zp5, zp6, zp0, zp1, zp2, zp3]
      refine wpX_f _ (.int .i64 110) rfl rfl (fun X _ => by simp [go_sem]) ?_
      simp only [zp4, zp5, zp6, zp0, zp1, zp2, zp3]
      refine wpX_nil ?_
      go_upto_region 3 with (fail)
      refine wp_region_lit ?_
      refine xm [some (.int .i64 110), some (.bool true), some (.bool true), none, none, none, none, some (.bool true)] (by kernel_rfl) (by simp [xr, go_sem]) ?_
      simp only [xw, p0, p1, p2, p3]
      go_upto_region 4 with (fail)
      refine wp_region_lit ?_
      refine xm [some (.slice oa sk ca), some (.slice oa sk ca)] (by kernel_rfl) (by simp [xr, go_sem]) ?_
      simp only [xw, p0, p1, p2, p3]
      go_wp2
      go_ret
      subst hsk
      exact ⟨.slice oa (smN tn k) ca, us', rfl, hI9.out.ext hE.out, hJ9.out.ext hE.out, hK.out.ext hE.out⟩
end Go.Proofs.YtiakkclabgelfaaDoor
