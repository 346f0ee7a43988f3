/-
  What a mark says. Are lists of blocks the same?
-/
import Derived.Test.YtiakkclabgelfaaDoorQc1
import Derived.Test.YtiakkclabgelfaaDoorQc35
namespace Go.Proofs.YtiakkclabgelfaaDoor
set_option maxRecDepth 20000
open Go.RowKit Go.BigFrame
def isMk (l : Nat) (f : Nat → BitVec 8) : Prop := nP f ≠ 0#64 ∧ eqB 512 l (markF (nP f)) f = true
theorem isMk_len {l : Nat} {f : Nat → BitVec 8} {x : BitVec 64} (h : eqB 512 l (markF x) f = true) : l = 512 := by
  unfold eqB at h
  exact (of_decide_eq_true h).1.symm
def RmQ (w : World) (l : Nat) (f : Nat → BitVec 8) (e : Ending) (w' : World) : Prop :=
  Ext w w' ∧ ((isMk l f ∧ e = .returned (.tuple #[.int .u64 ((nP f).toNat : Int), .int .i64 0])) ∨ (¬ isMk l f ∧ e = .returned (.tuple #[.int .u64 0, .int .i64 110])))
set_option maxRecDepth 20000 in
set_option maxHeartbeats 4000000 in
theorem readm_any (u : Value) (l : Nat) (f : Nat → BitVec 8) (w : World) (hu : BV u l f w) (hl : l ≤ 140737488355328) (hT : TabC w) : Calls Tryd.prog 34 #[u] w (RmQ w l f) := by
  obtain ⟨uo, ucp, rfl⟩ := hu.form
  have kn := hideit (newr_any (.slice uo l ucp) l f w hu hl)
  replace hu := hideit hu
  replace hT := hideit hT
  go_enter Tryd.func34, Tryd.ntmps34
  go_upto_region 1 with (fail)
  refine wp_region_lit ?_
  refine wpList_run rfl (.slice uo l ucp) (by simp [go_sem]) ?_
  simp only [zp0, zp1, zp2, zp3]
  refine wpList_call rfl (by simp [go_sem]) ((kn.out).mono ?_)
  rintro e w1 ⟨c, rfl, hc, hR1, hX1⟩
  refine ⟨_, rfl, ?_⟩
  simp only [zp0, zp1, zp2, zp3]
  refine wpList_run rfl (.pointer (some ⟨c, 0, none⟩)) (by simp [go_sem]) ?_
  simp only [zp0, zp1, zp2, zp3]
  have kb := hideit (bytes_all w.heap.size c l 4 f false w1 hR1 hl)
  clear kn hR1
  go_upto_region 2 with (fail)
  refine wp_region_lit ?_
  refine wpList_run rfl (.pointer (some ⟨c, 0, none⟩)) (by simp [go_sem]) ?_
  simp only [zp0, zp1, zp2, zp3]
  refine wpList_call rfl (by simp [go_sem]) ((kb.out).mono ?_)
  rintro e w2 ⟨v2, m2, l2, f2, b2, rfl, hv2, hR2, hB2, hq2⟩
  refine ⟨_, rfl, ?_⟩
  simp only [zp0, zp1, zp2, zp3]
  have ku := hideit (uint_all w.heap.size c l2 8 f2 b2 w2 hR2 (by decide) (by decide))
  have hE2 : Ext w w2 := Below.trans hX1 (But.below hB2 hc (Below.size hX1))
  have hv2f := hv2.form
  clear kb hR2 hv2 hB2 hX1
  obtain ⟨v2o, v2c, rfl⟩ : ∃ o c, v2 = .slice o m2 c := hv2f
  go_upto_region 3 with (fail)
  refine wp_region_lit ?_
  refine wpList_run rfl (.pointer (some ⟨c, 0, none⟩)) (by simp [go_sem]) ?_
  simp only [zp0, zp1, zp2, zp3]
  refine wpList_call rfl (by simp [go_sem]) ((ku.out).mono ?_)
  rintro e w3 ⟨x, l3, f3, b3, rfl, hR3, hB3, hq3⟩
  refine ⟨_, rfl, ?_⟩
  simp only [zp0, zp1, zp2, zp3]
  refine wpList_run rfl (.int .u64 (x.toNat : Int)) (by simp [go_sem]) ?_
  simp only [zp0, zp1, zp2, zp3]
  have hE3 : Hid (Ext w w3) := Below.trans hE2 (But.below hB3 hc (Below.size hE2))
  have hx : Hid (l = 512 → x = nP f) := fun h => by
    subst h
    obtain ⟨_, _, rfl, rfl, rfl, rfl⟩ := hq2.resolve_right fun h => h.1 ⟨rfl, by decide⟩
    obtain ⟨_, _, rfl, rfl, rfl, rfl⟩ := hq3.resolve_right fun h => h.1 ⟨rfl, by decide⟩
    rfl
  clear ku hR3 hB3 hE2 hq2 hq3 hc
  by_cases h0 : x = 0#64
  · subst h0
    have km := hideit (mark_no w3)
    have hno : Hid (¬ isMk l f) := fun h => h.1 (hx.out (isMk_len h.2)).symm
    clear hx hu hT
    go_upto_region 4 with (fail)
    refine wp_region_lit ?_
    refine wpList_run rfl (.int .u64 ((0#64).toNat : Int)) (by simp [go_sem]) ?_
    simp only [zp0, zp1, zp2, zp3]
    refine wpList_call rfl (by simp [go_sem]) ((km.out).mono ?_)
    rintro e w4 ⟨rfl, hw4⟩
    refine ⟨_, rfl, ?_⟩
    simp only [zp0, zp1, zp2, zp3]
    subst hw4
    clear km
    refine wpList_run rfl (.tuple #[.slice none 0 0, .int .i64 1]) (by simp [go_sem]) ?_
    simp only [zp0, zp1, zp2, zp3]
    refine wpList_run rfl (.slice none 0 0) (by simp [go_sem]) ?_
    simp only [zp0, zp1, zp2, zp3]
    refine wpList_run rfl (.int .i64 1) (by simp [go_sem]) ?_
    simp only [zp0, zp1, zp2, zp3]
    refine wpList_run rfl (.slice none 0 0) (by simp [go_sem]) ?_
    simp only [zp0, zp1, zp2, zp3]
    refine wpList_run rfl (.int .i64 1) (by simp [go_sem]) ?_
    simp only [zp0, zp1, zp2, zp3]
    go_upto_region 5 with (fail)
    refine wp_region_lit ?_
    refine wpList_run rfl (.int .i64 1) (by simp [go_sem]) ?_
    simp only [zp0, zp1, zp2, zp3]
    refine wpList_run rfl (.bool true) (by simp [go_sem]) ?_
    simp only [zp0, zp1, zp2, zp3]
    refine wpList_run rfl (.bool true) (by simp [go_sem]) ?_
    simp only [zp0, zp1, zp2, zp3]
    refine wpList_skip rfl ?_
    simp only [zp0, zp1, zp2, zp3]
    refine wpList_skip rfl ?_
    simp only [zp0, zp1, zp2, zp3]
    refine wpList_skip rfl ?_
    simp only [zp0, zp1, zp2, zp3]
    refine wpList_skip rfl ?_
    simp only [zp0, zp1, zp2, zp3]
    refine wpList_run rfl (.bool true) (by simp [go_sem]) ?_
    simp only [zp0, zp1, zp2, zp3]
    go_wp2
    go_ret2
    exact ⟨hE3.out, .inr ⟨hno.out, rfl⟩⟩
  · have km := hideit (mark_any x h0 w3 (hT.out.ext hE3.out))
    go_upto_region 4 with (fail)
    refine wp_region_lit ?_
    refine wpList_run rfl (.int .u64 (x.toNat : Int)) (by simp [go_sem]) ?_
    simp only [zp0, zp1, zp2, zp3]
    refine wpList_call rfl (by simp [go_sem]) ((km.out).mono ?_)
    rintro e w4 ⟨z, rfl, hz, hR4, hX4⟩
    refine ⟨_, rfl, ?_⟩
    simp only [zp0, zp1, zp2, zp3]
    have hE4 := hideit (Ext.trans hE3.out hX4)
    have ke := hideit (equal_any (.slice (some ⟨z, 0, none⟩) 512 512) (.slice uo l ucp) 512 l (markF x) f w4 (bv_row hR4) (hu.out.ext hE4.out))
    obtain ⟨r, hr⟩ : ∃ r, r = eqB 512 l (markF x) f := ⟨_, rfl⟩
    rw [← hr] at ke
    have hyes : Hid (r = true → isMk l f ∧ x = nP f) := fun h => by
      rw [hr] at h
      have e := hx.out (isMk_len h)
      exact ⟨⟨by rw [← e]; exact h0, by rw [← e]; exact h⟩, e⟩
    have hno : Hid (r = false → ¬ isMk l f) := fun h k => by
      have e := hx.out (isMk_len k.2)
      have := k.2
      rw [← e, ← hr, h] at this
      cases this
    replace hr := hideit hr
    clear km hu hT hz hR4 hX4 hE3 hx
    refine wpList_run rfl (.tuple #[.slice (some ⟨z, 0, none⟩) 512 512, .int .i64 0]) (by simp [go_sem]) ?_
    simp only [zp0, zp1, zp2, zp3]
    refine wpList_run rfl (.slice (some ⟨z, 0, none⟩) 512 512) (by simp [go_sem]) ?_
    simp only [zp0, zp1, zp2, zp3]
    refine wpList_run rfl (.int .i64 0) (by simp [go_sem]) ?_
    simp only [zp0, zp1, zp2, zp3]
    refine wpList_run rfl (.slice (some ⟨z, 0, none⟩) 512 512) (by simp [go_sem]) ?_
    simp only [zp0, zp1, zp2, zp3]
    refine wpList_run rfl (.int .i64 0) (by simp [go_sem]) ?_
    simp only [zp0, zp1, zp2, zp3]
    cases r with
    | true =>
      obtain ⟨hy, hxe⟩ := hyes.out rfl
      replace hy := hideit hy
      subst hxe
      clear hyes hno hr
      go_upto_region 5 with (fail)
      refine wp_region_lit ?_
      refine wpList_run rfl (.int .i64 0) (by simp [go_sem]) ?_
      simp only [zp0, zp1, zp2, zp3]
      refine wpList_run rfl (.bool false) (by simp [go_sem]) ?_
      simp only [zp0, zp1, zp2, zp3]
      refine wpList_run rfl (.bool false) (by simp [go_sem]) ?_
      simp only [zp0, zp1, zp2, zp3]
      refine wpList_runW rfl (.slice (some ⟨z, 0, none⟩) 512 512) (by simp [go_sem]) ?_
      simp only [zp0, zp1, zp2, zp3]
      refine wpList_runW rfl (.slice uo l ucp) (by simp [go_sem]) ?_
      simp only [zp0, zp1, zp2, zp3]
      refine wpList_callW rfl (by simp [go_sem]) ((ke.out).mono ?_)
      rintro e w5 ⟨rfl, hw5⟩
      refine ⟨_, rfl, ?_⟩
      simp only [zp0, zp1, zp2, zp3]
      subst hw5
      refine wpList_runW rfl (.bool false) (by simp [go_sem]) ?_
      simp only [zp0, zp1, zp2, zp3]
      refine wpList_run rfl (.bool false) (by simp [go_sem]) ?_
      simp only [zp0, zp1, zp2, zp3]
      clear ke
      go_wp2
      go_ret2
      exact ⟨hE4.out, .inl ⟨hy.out, rfl⟩⟩
    | false =>
      have hn := hno.out rfl
      replace hn := hideit hn
      clear hyes hno hr
      go_upto_region 5 with (fail)
      refine wp_region_lit ?_
      refine wpList_run rfl (.int .i64 0) (by simp [go_sem]) ?_
      simp only [zp0, zp1, zp2, zp3]
      refine wpList_run rfl (.bool false) (by simp [go_sem]) ?_
      simp only [zp0, zp1, zp2, zp3]
      refine wpList_run rfl (.bool false) (by simp [go_sem]) ?_
      simp only [zp0, zp1, zp2, zp3]
      refine wpList_runW rfl (.slice (some ⟨z, 0, none⟩) 512 512) (by simp [go_sem]) ?_
      simp only [zp0, zp1, zp2, zp3]
      refine wpList_runW rfl (.slice uo l ucp) (by simp [go_sem]) ?_
      simp only [zp0, zp1, zp2, zp3]
      refine wpList_callW rfl (by simp [go_sem]) ((ke.out).mono ?_)
      rintro e w5 ⟨rfl, hw5⟩
      refine ⟨_, rfl, ?_⟩
      simp only [zp0, zp1, zp2, zp3]
      subst hw5
      refine wpList_runW rfl (.bool true) (by simp [go_sem]) ?_
      simp only [zp0, zp1, zp2, zp3]
      refine wpList_run rfl (.bool true) (by simp [go_sem]) ?_
      simp only [zp0, zp1, zp2, zp3]
      clear ke
      go_wp2
      go_ret2
      exact ⟨hE4.out, .inr ⟨hn.out, rfl⟩⟩
end Go.Proofs.YtiakkclabgelfaaDoor
namespace Go.Proofs.YtiakkclabgelfaaDoor
set_option maxRecDepth 20000
open Go.RowKit Go.BigFrame
theorem convP (v : Value) (l : Nat) (b : Nat → BitVec 8) (w : World) (h : PV v l b w) : (convert 39 9 v).run Tryd.prog w = .ok (.string (bstr l fun j => ((b j).toNat : Int))) w := by
  by_cases hl : 0 < l
  · exact convV v l b w (h.bv hl)
  · obtain rfl : l = 0 := by omega
    rcases h with ⟨rfl, _⟩ | ⟨a, cap, rfl, h2, h3⟩
    · exact convV _ 0 b w (.inl ⟨rfl, rfl⟩)
    · rw [run_convert_bytes_string w 39 9 5 _ _ _ Tryd.underlying39 Tryd.underlying5 Tryd.underlying9]
      refine run_bytesToString w _ 0 cap [] ?_
      rfl
set_option maxRecDepth 20000 in
set_option maxHeartbeats 4000000 in
theorem equal_pv (u v : Value) (n m : Nat) (f g : Nat → BitVec 8) (w : World) (hu : PV u n f w) (hv : PV v m g w) : Calls Tryd.prog 61 #[u, v] w fun e w' => e = .returned (.bool (eqB n m f g)) ∧ w' = w := by
  have ca := convP u n f w hu
  have cb := convP v m g w hv
  have ce := eqB_iff n m f g
  generalize (bstr n fun j => ((f j).toNat : Int)) = a at *
  generalize (bstr m fun j => ((g j).toNat : Int)) = b at *
  generalize eqB n m f g = r at *
  clear hu hv
  cases r with
  | true =>
    have hab := ce.2 rfl
    subst hab
    clear ce
    go_enter Tryd.func61, Tryd.ntmps61
    go_upto_region 1 with (fail)
    refine wp_region_lit ?_
    refine wpList_run rfl (u) (by simp [go_sem]) ?_
    simp only [zp0, zp1, zp2, zp3]
    refine wpList_run rfl (.string a) (by simp [go_sem, ca]) ?_
    simp only [zp0, zp1, zp2, zp3]
    refine wpList_run rfl (v) (by simp [go_sem]) ?_
    simp only [zp0, zp1, zp2, zp3]
    refine wpList_run rfl (.string a) (by simp [go_sem, cb]) ?_
    simp only [zp0, zp1, zp2, zp3]
    refine wpList_run rfl (.bool true) (by simp [go_sem]) ?_
    simp only [zp0, zp1, zp2, zp3]
    refine wpList_run rfl (.bool true) (by simp [go_sem]) ?_
    simp only [zp0, zp1, zp2, zp3]
    clear ca cb
    go_wp2
    go_ret
    exact ⟨rfl, rfl⟩
  | false =>
    have h1 : ¬ a.toList = b.toList := fun e => by have := ce.1 (ba_ext e); cases this
    clear ce
    go_enter Tryd.func61, Tryd.ntmps61
    go_upto_region 1 with (fail)
    refine wp_region_lit ?_
    refine wpList_run rfl (u) (by simp [go_sem]) ?_
    simp only [zp0, zp1, zp2, zp3]
    refine wpList_run rfl (.string a) (by simp [go_sem, ca]) ?_
    simp only [zp0, zp1, zp2, zp3]
    refine wpList_run rfl (v) (by simp [go_sem]) ?_
    simp only [zp0, zp1, zp2, zp3]
    refine wpList_run rfl (.string b) (by simp [go_sem, cb]) ?_
    simp only [zp0, zp1, zp2, zp3]
    refine wpList_run rfl (.bool false) (by simp [go_sem, h1]) ?_
    simp only [zp0, zp1, zp2, zp3]
    refine wpList_run rfl (.bool false) (by simp [go_sem]) ?_
    simp only [zp0, zp1, zp2, zp3]
    clear ca cb h1
    go_wp2
    go_ret
    exact ⟨rfl, rfl⟩
def PL (v : Value) (n : Nat) (us : Nat → Value) (ls : Nat → Nat) (fs : Nat → Nat → BitVec 8) (w : World) : Prop :=
  ((v = .slice none 0 0 ∧ n = 0) ∨ ∃ a cap, v = .slice (some a) n cap ∧ n ≤ cap ∧ ∀ j, j < n → w.cell? (a.add j) = some (us j)) ∧ ∀ i, i < n → PV (us i) (ls i) (fs i) w
theorem PL.ext {v : Value} {n : Nat} {us : Nat → Value} {ls : Nat → Nat} {fs : Nat → Nat → BitVec 8} {w X : World} (h : PL v n us ls fs w) (k : Ext w X) : PL v n us ls fs X := by
  refine ⟨?_, fun i hi => (h.2 i hi).ext k⟩
  rcases h.1 with h1 | ⟨a, cap, h1, h2, h3⟩
  · exact .inl h1
  · exact .inr ⟨a, cap, h1, h2, fun j hj => cell_ext' k (h3 j hj)⟩
theorem PL.form {v : Value} {n : Nat} {us : Nat → Value} {ls : Nat → Nat} {fs : Nat → Nat → BitVec 8} {w : World} (h : PL v n us ls fs w) : ∃ oa cp, v = .slice oa n cp := by
  rcases h.1 with ⟨rfl, rfl⟩ | ⟨a, cap, rfl, _⟩
  · exact ⟨_, _, rfl⟩
  · exact ⟨_, _, rfl⟩
theorem PL.at {o : Option Addr} {cap n : Nat} {us : Nat → Value} {ls : Nat → Nat} {fs : Nat → Nat → BitVec 8} {w : World} (h : PL (.slice o n cap) n us ls fs w) (k : Nat) (hk : k < n) : ∃ a, o = some a ∧ w.cell? (a.add k) = some (us k) := by
  rcases h.1 with ⟨_, h0⟩ | ⟨a, c, h1, h2, h3⟩
  · omega
  · injection h1 with h1
    exact ⟨a, h1, h3 k hk⟩
def sameL (n m : Nat) (ls ls' : Nat → Nat) (fs fs' : Nat → Nat → BitVec 8) : Prop := n = m ∧ ∀ i, i < n → eqB (ls i) (ls' i) (fs i) (fs' i) = true
def EqQ (n m : Nat) (ls ls' : Nat → Nat) (fs fs' : Nat → Nat → BitVec 8) (w : World) (e : Ending) (w' : World) : Prop := ∃ r : Bool, e = .returned (.bool r) ∧ (r = true ↔ sameL n m ls ls' fs fs') ∧ Ext w w'
theorem eqq_mk {n m : Nat} {ls ls' : Nat → Nat} {fs fs' : Nat → Nat → BitVec 8} {w w' : World} {e : Ending} (r : Bool) (h : e = .returned (.bool r)) (k : r = true ↔ sameL n m ls ls' fs fs') (x : Ext w w') : EqQ n m ls ls' fs fs' w e w' := ⟨r, h, k, x⟩
set_option maxRecDepth 20000 in
set_option maxHeartbeats 4000000 in
theorem eqf_any (v0 v1 : Value) (n m : Nat) (us us' : Nat → Value) (ls ls' : Nat → Nat) (fs fs' : Nat → Nat → BitVec 8) (w : World) (hA : PL v0 n us ls fs w) (hB : PL v1 m us' ls' fs' w) (hn : n ≤ 4398046511104) (hm : m ≤ 4398046511104) : Calls Tryd.prog 84 #[v0, v1, .func (.func 61) #[] #[]] w (EqQ n m ls ls' fs fs' w) := by
  obtain ⟨o, cap, rfl⟩ := hA.form
  obtain ⟨o', cap', rfl⟩ := hB.form
  replace hA := hideit hA
  replace hB := hideit hB
  by_cases hnm : n = m
  · subst hnm
    go_enter Tryd.func84, Tryd.ntmps84
    go_wp2
    go_loopw [17] (fun iv X => ∃ k : Nat, k ≤ n ∧ iv = .int .i64 (k : Int) ∧ (∀ i, i < k → eqB (ls i) (ls' i) (fs i) (fs' i) = true) ∧ Ext w X) (fun iv _ => 5000000000000 - (intOf iv).toNat)
    case atStart => exact ⟨0, Nat.zero_le _, rfl, fun i hi => absurd hi (Nat.not_lt_zero _), Ext.refl _⟩
    case round =>
      obtain ⟨k, hk, rfl, hI, hE⟩ := hrel
      replace hI := hideit hI
      by_cases hlt : k < n
      · have k0 : (0 : Int) ≤ (k : Int) := by omega
        have k1 : (k : Int) < (n : Int) := by omega
        have ha := hA.out.ext hE
        have hb := hB.out.ext hE
        obtain ⟨a, rfl, hea⟩ := ha.at k hlt
        obtain ⟨b, rfl, heb⟩ := hb.at k hlt
        have ke := hideit (equal_pv (us k) (us' k) (ls k) (ls' k) (fs k) (fs' k) wr (ha.2 k hlt) (hb.2 k hlt))
        obtain ⟨r, hr⟩ : ∃ r, r = eqB (ls k) (ls' k) (fs k) (fs' k) := ⟨_, rfl⟩
        rw [← hr] at ke
        replace hr := hideit hr
        replace hE := hideit hE
        clear ha hb
        go_upto_region 4 with (fail)
        refine wp_region_lit ?_
        refine wpList_run rfl (.bool true) (by simp [go_sem, k1]) ?_
        simp only [zp0, zp1, zp2, zp3]
        go_upto_region 5 with (fail)
        refine wp_region_lit ?_
        refine wpList_run rfl (.int .i64 (k : Int)) (by simp [go_sem]) ?_
        simp only [zp0, zp1, zp2, zp3]
        refine wpList_run rfl (.pointer (some (a.add k))) (by simp [go_sem, k1]) ?_
        simp only [zp0, zp1, zp2, zp3]
        refine wpList_run rfl (us k) (by simp [go_sem, hea]) ?_
        simp only [zp0, zp1, zp2, zp3]
        refine wpList_run rfl (.int .i64 (k : Int)) (by simp [go_sem]) ?_
        simp only [zp0, zp1, zp2, zp3]
        refine wpList_run rfl (us k) (by simp [go_sem]) ?_
        simp only [zp0, zp1, zp2, zp3]
        go_upto_region 6 with (fail)
        refine wp_region_lit ?_
        refine wpList_run rfl ((.slice (some b) n cap')) (by simp [go_sem]) ?_
        simp only [zp0, zp1, zp2, zp3]
        refine wpList_run rfl (.int .i64 (k : Int)) (by simp [go_sem]) ?_
        simp only [zp0, zp1, zp2, zp3]
        refine wpList_run rfl (.pointer (some (b.add k))) (by simp [go_sem, k1]) ?_
        simp only [zp0, zp1, zp2, zp3]
        refine wpList_run rfl (us' k) (by simp [go_sem, heb]) ?_
        simp only [zp0, zp1, zp2, zp3]
        refine wpList_run rfl (us' k) (by simp [go_sem]) ?_
        simp only [zp0, zp1, zp2, zp3]
        go_upto_region 7 with (fail)
        refine wp_region_lit ?_
        refine wpList_run rfl (.func (.func 61) #[] #[]) (by simp [go_sem]) ?_
        simp only [zp0, zp1, zp2, zp3]
        refine wpList_run rfl (us k) (by simp [go_sem]) ?_
        simp only [zp0, zp1, zp2, zp3]
        refine wpList_run rfl (us' k) (by simp [go_sem]) ?_
        simp only [zp0, zp1, zp2, zp3]
        refine wpList_call rfl (by simp [go_sem]) ((ke.out).mono ?_)
        rintro e w9 ⟨rfl, hw9⟩
        refine ⟨_, rfl, ?_⟩
        simp only [zp0, zp1, zp2, zp3]
        rw [hw9]
        clear ke hea heb hw9
        cases r with
        | true =>
          go_wp2
          refine ⟨⟨k + 1, by omega, by go_num, fun i hi => ?_, hE.out⟩, by simp [intOf]; omega⟩
          by_cases e : i = k
          · rw [e]
            exact hr.out.symm
          · exact hI.out i (by omega)
        | false =>
          go_wp2
          go_ret
          refine eqq_mk false rfl ⟨fun h => (by cases h), fun h => ?_⟩ hE.out
          have e1 := hr.out
          rw [h.2 k hlt] at e1
          cases e1
      · obtain rfl : k = n := by omega
        have k1 : ¬ (k : Int) < (k : Int) := by omega
        replace hE := hideit hE
        go_wp2
        go_ret
        exact eqq_mk true rfl ⟨fun _ => ⟨rfl, hI.out⟩, fun _ => rfl⟩ hE.out
  · have e1 : ¬ (n : Int) = (m : Int) := by omega
    go_enter Tryd.func84, Tryd.ntmps84
    go_wp2
    go_ret
    exact eqq_mk false rfl ⟨fun h => (by cases h), fun h => absurd h.1 hnm⟩ (Ext.refl _)
end Go.Proofs.YtiakkclabgelfaaDoor
