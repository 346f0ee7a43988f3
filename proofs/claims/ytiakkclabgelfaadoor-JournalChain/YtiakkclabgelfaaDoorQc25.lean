/-
  A redo's bytes as they stand; whether one has not the bytes of a block. A transaction's blocks.
-/
import Derived.Test.YtiakkclabgelfaaDoorQc1
import Derived.Test.YtiakkclabgelfaaDoorQc24
import Derived.Maps.AppendAt
namespace Go.Proofs.YtiakkclabgelfaaDoor
set_option maxRecDepth 20000
open Go.RowKit Go.BigFrame
def stF (l : Nat) (f : Nat → BitVec 8) : Nat → BitVec 8 := if like l f = true then fun j => if j = 0 then f 0 ||| 128#8 else f j else f
theorem like_len {l : Nat} {f : Nat → BitVec 8} (h : like l f = true) : 4 ≤ l := by
  unfold like pre4 at h
  by_cases e : 4 ≤ l
  · exact e
  · simp [e] at h
theorem or128 (a : BitVec 8) : bits .or .u8 (a.toNat : Int) 128 = ((a ||| 128#8).toNat : Int) := by
  have h := u8_or_nat a.toNat 128 a.isLt (by decide)
  rw [BitVec.toNat_or]
  exact h
set_option maxRecDepth 20000 in
set_option maxHeartbeats 4000000 in
theorem standing_any (u : Value) (l : Nat) (f : Nat → BitVec 8) (w : World) (hu : BV u l f w) (hl : l ≤ 140737488355328) : Calls Tryd.prog 45 #[u] w fun e w' => ∃ v, e = .returned v ∧ OwnB w.heap.size 5 v l (yv (stF l f)) w' ∧ Ext w w' := by
  have kc := hideit (clone_any u l f w hu hl)
  replace hu := hideit hu
  go_enter Tryd.func45, Tryd.ntmps45
  go_upto_region 1 with (fail)
  refine wp_region_lit ?_
  refine wpList_run rfl (u) (by simp [go_sem]) ?_
  simp only [zp0, zp1, zp2, zp3]
  refine wpList_call rfl (by simp [go_sem]) ((kc.out).mono ?_)
  rintro e w1 ⟨v, rfl, hO1, hX1⟩
  refine ⟨_, rfl, ?_⟩
  simp only [zp0, zp1, zp2, zp3]
  refine wpList_run rfl (v) (by simp [go_sem]) ?_
  simp only [zp0, zp1, zp2, zp3]
  have kj := hideit (isJ_any u l f w1 (hu.out.ext hX1).pv hl)
  clear kc
  go_upto_region 2 with (fail)
  refine wp_region_lit ?_
  refine wpList_run rfl (u) (by simp [go_sem]) ?_
  simp only [zp0, zp1, zp2, zp3]
  refine wpList_call rfl (by simp [go_sem]) ((kj.out).mono ?_)
  rintro e w2 ⟨rfl, hX2⟩
  refine ⟨_, rfl, ?_⟩
  simp only [zp0, zp1, zp2, zp3]
  have hO2 := hO1.ext hX2
  have hE2 := Ext.trans hX1 hX2
  clear kj hO1 hX1 hX2
  cases hlk : like l f with
  | false =>
    replace hO2 : Hid (OwnB w.heap.size 5 v l (yv (stF l f)) w2) := by
      unfold stF
      rw [hlk, if_neg (by decide)]
      exact hO2
    replace hE2 := hideit hE2
    go_wp2
    go_ret
    exact ⟨v, rfl, hO2.out, hE2.out⟩
  | true =>
    have h4 := like_len hlk
    obtain ⟨b, cp, rfl, hb, _, _, hR⟩ := hO2.lies (by omega)
    have ec := hR.1 0 (by omega)
    have ez := hR.2.1 0 (by omega)
    have hor := or128 (f 0)
    have hO3 : Hid (OwnB w.heap.size 5 (.slice (some ⟨b, 0, none⟩) l cp) l (yv (stF l f)) (w2.setCell ⟨b, 0, none⟩ (.int .u8 ((f 0 ||| 128#8).toNat : Int)))) := (hO2.set (b := b) rfl 0 (by omega) (.int .u8 ((f 0 ||| 128#8).toNat : Int))).congr fun j hj => by
      unfold stF
      rw [hlk, if_pos rfl]
      by_cases e : j = 0
      · rw [if_pos e]
        unfold yv
        simp only [if_pos e]
      · rw [if_neg e]
        unfold yv
        simp only [if_neg e]
    have hE3 : Hid (Ext w (w2.setCell ⟨b, 0, none⟩ (.int .u8 ((f 0 ||| 128#8).toNat : Int)))) := Below.trans hE2 (But.below (but_setCell w2 b 0 _) hb (Below.size hE2))
    have l0 : ¬ l = 0 := by omega
    rw [show yv f 0 = .int .u8 ((f 0).toNat : Int) from rfl] at ec
    generalize f 0 = f0 at *
    generalize f0 ||| 128#8 = f9 at *
    clear hO2 hE2 hR hlk hu
    go_upto_region 3 with (fail)
    refine wp_region_lit ?_
    refine wpList_run rfl (.slice (some ⟨b, 0, none⟩) l cp) (by simp [go_sem]) ?_
    simp only [zp0, zp1, zp2, zp3]
    refine wpList_run rfl (.pointer (some ⟨b, 0, none⟩)) (by simp [go_sem, l0]) ?_
    simp only [zp0, zp1, zp2, zp3]
    refine wpList_run rfl (.int .u8 (f0.toNat : Int)) (by simp [go_sem, ec]) ?_
    simp only [zp0, zp1, zp2, zp3]
    refine wpList_run rfl (.int .u8 (f9.toNat : Int)) (by simp [go_sem, hor]) ?_
    simp only [zp0, zp1, zp2, zp3]
    refine wpList_run rfl (.pointer (some ⟨b, 0, none⟩)) (by simp [go_sem, l0]) ?_
    simp only [zp0, zp1, zp2, zp3]
    refine wpList_st9 rfl (w2.setCell ⟨b, 0, none⟩ (.int .u8 (f9.toNat : Int))) (by simp [go_sem, ec, ez]) ?_
    simp only [Act.put]
    clear ec ez hor
    go_wp2
    go_ret
    exact ⟨_, rfl, hO3.out, hE3.out⟩
theorem odd_any (x : Int) (u : Value) (l : Nat) (hu : ∃ o c, u = .slice o l c) (w : World) : Calls Tryd.prog 43 #[.agg #[.int .i64 x, u]] w fun e w' => e = .returned (.bool (decide (l ≠ 512))) ∧ Ext w w' := by
  obtain ⟨o, c, rfl⟩ := hu
  have hX1 : Hid (Ext w (w.alloc (.cells #[.int .i64 x, .slice o l c] 47))) := (Below.refl _ _).alloc (Nat.le_refl _) _
  have ec : (w.alloc (.cells #[.int .i64 x, .slice o l c] 47)).cell? ⟨w.heap.size, 1, none⟩ = some (.slice o l c) := by rw [World.cell?_alloc_new]; rfl
  obtain ⟨r, hd⟩ : ∃ r, r = decide (l ≠ 512) := ⟨_, rfl⟩
  rw [← hd]
  replace hd := hideit hd
  go_enter Tryd.func43, Tryd.ntmps43
  go_upto_region 0 with (fail)
  refine wp_region_lit ?_
  refine wpList_to rfl (.pointer (some ⟨w.heap.size, 0, none⟩)) (w.alloc (.cells #[.int .i64 x, .slice o l c] 47)) (by simp [go_sem]) ?_
  simp only [zp0, zp1, zp2, zp3]
  refine wpList_run rfl (.bool false) (by simp [go_sem]) ?_
  simp only [zp0, zp1, zp2, zp3]
  generalize w.alloc (.cells #[.int .i64 x, .slice o l c] 47) = w1 at *
  generalize w.heap.size = q at ec ⊢
  by_cases h5 : l = 512
  · have i5 : (l : Int) = 512 := by omega
    obtain rfl : r = false := hd.out.trans (decide_eq_false (by omega))
    clear hd h5
    go_upto_region 1 with (fail)
    refine wp_region_lit ?_
    refine wpList_run rfl (.pointer (some ⟨q, 1, none⟩)) (by simp [go_sem]) ?_
    simp only [zp0, zp1, zp2, zp3]
    refine wpList_run rfl (.slice o l c) (by simp [go_sem, ec]) ?_
    simp only [zp0, zp1, zp2, zp3]
    refine wpList_run rfl (.int .i64 (l : Int)) (by simp [go_sem]) ?_
    simp only [zp0, zp1, zp2, zp3]
    refine wpList_run rfl (.bool false) (by simp [go_sem, i5]) ?_
    simp only [zp0, zp1, zp2, zp3]
    refine wpList_run rfl (.bool false) (by simp [go_sem]) ?_
    simp only [zp0, zp1, zp2, zp3]
    clear ec i5
    go_wp2
    go_ret
    exact ⟨rfl, hX1.out⟩
  · have i5 : ¬ (l : Int) = 512 := by omega
    obtain rfl : r = true := hd.out.trans (decide_eq_true h5)
    clear hd h5
    go_upto_region 1 with (fail)
    refine wp_region_lit ?_
    refine wpList_run rfl (.pointer (some ⟨q, 1, none⟩)) (by simp [go_sem]) ?_
    simp only [zp0, zp1, zp2, zp3]
    refine wpList_run rfl (.slice o l c) (by simp [go_sem, ec]) ?_
    simp only [zp0, zp1, zp2, zp3]
    refine wpList_run rfl (.int .i64 (l : Int)) (by simp [go_sem]) ?_
    simp only [zp0, zp1, zp2, zp3]
    refine wpList_run rfl (.bool true) (by simp [go_sem, i5]) ?_
    simp only [zp0, zp1, zp2, zp3]
    refine wpList_run rfl (.bool true) (by simp [go_sem]) ?_
    simp only [zp0, zp1, zp2, zp3]
    clear ec i5
    go_wp2
    go_ret
    exact ⟨rfl, hX1.out⟩
def oddL (n : Nat) (ls : Nat → Nat) : Prop := ∃ i, i < n ∧ ls i ≠ 512
set_option maxRecDepth 20000 in
set_option maxHeartbeats 4000000 in
theorem index_odd (v0 : Value) (n : Nat) (bs : Nat → Int) (us : Nat → Value) (ls : Nat → Nat) (fs : Nat → Nat → BitVec 8) (w : World) (hL : RLs v0 n bs us ls fs w) (hn : n ≤ 4398046511104) : Calls Tryd.prog 47 #[v0, .func (.func 43) #[] #[]] w fun e w' => ∃ r : Int, e = .returned (.int .i64 r) ∧ (0 ≤ r ↔ oddL n ls) ∧ Ext w w' := by
  obtain ⟨o, cap, rfl⟩ := hL.form
  replace hL := hideit hL
  go_enter Tryd.func47, Tryd.ntmps47
  go_wp2
  go_loopw [5, 8] (fun _ iv X => ∃ k : Nat, k ≤ n ∧ iv = .int .i64 (k : Int) ∧ (∀ i, i < k → ls i = 512) ∧ Ext w X) (fun _ iv _ => 5000000000000 - (intOf iv).toNat)
  case atStart => exact ⟨0, Nat.zero_le _, rfl, fun i hi => absurd hi (Nat.not_lt_zero _), Ext.refl _⟩
  case round =>
    obtain ⟨k, hk, rfl, hI, hE⟩ := hrel
    replace hI := hideit hI
    by_cases hlt : k < n
    · have k0 : (0 : Int) ≤ (k : Int) := by omega
      have k1 : (k : Int) < (n : Int) := by omega
      obtain ⟨a, rfl, hel⟩ := (hL.out.ext hE).at k hlt
      have ko := hideit (odd_any (bs k) (us k) (ls k) (hL.out.2 k hlt).1.form wr)
      replace hE := hideit hE
      go_upto_region 2 with (fail)
      refine wp_region_lit ?_
      refine wpList_run rfl (.bool true) (by simp [go_sem, k1]) ?_
      simp only [zp0, zp1, zp2, zp3]
      go_upto_region 3 with (fail)
      refine wp_region_lit ?_
      refine wpList_run rfl (.int .i64 (k : Int)) (by simp [go_sem]) ?_
      simp only [zp0, zp1, zp2, zp3]
      refine wpList_run rfl (.int .i64 (k : Int)) (by simp [go_sem]) ?_
      simp only [zp0, zp1, zp2, zp3]
      go_upto_region 4 with (fail)
      refine wp_region_lit ?_
      refine wpList_run rfl (.func (.func 43) #[] #[]) (by simp [go_sem]) ?_
      simp only [zp0, zp1, zp2, zp3]
      refine wpList_run rfl (.slice (some a) n cap) (by simp [go_sem]) ?_
      simp only [zp0, zp1, zp2, zp3]
      refine wpList_run rfl (.int .i64 (k : Int)) (by simp [go_sem]) ?_
      simp only [zp0, zp1, zp2, zp3]
      refine wpList_run rfl (.pointer (some (a.add (k * 2)))) (by simp [go_sem, k1]) ?_
      simp only [zp0, zp1, zp2, zp3]
      refine wpList_run rfl (.agg #[.int .i64 (bs k), us k]) (exec_loadL 47 (.tmp 14) rfl (a.add (k * 2)) 2 (rdC (fun _ => bs k) (fun _ => us k)) rfl hel Tryd.underlying47 rfl info51) ?_
      simp only [zp0, zp1, zp2, zp3]
      refine wpList_call rfl (by simp [go_sem]) ((ko.out).mono ?_)
      rintro e w9 ⟨rfl, hX9⟩
      refine ⟨_, rfl, ?_⟩
      simp only [zp0, zp1, zp2, zp3]
      have hE9 := hideit (Ext.trans hE.out hX9)
      clear ko hel hX9 hE
      by_cases h5 : ls k = 512
      · rw [decide_eq_false (by omega : ¬ ls k ≠ 512)]
        go_wp2
        refine ⟨⟨k + 1, by omega, by go_num, fun i hi => ?_, hE9.out⟩, by simp [intOf]; omega⟩
        by_cases e : i = k
        · rw [e]
          exact h5
        · exact hI.out i (by omega)
      · rw [decide_eq_true h5]
        go_wp2
        go_ret
        exact ⟨_, rfl, ⟨fun _ => ⟨k, hlt, h5⟩, fun _ => k0⟩, hE9.out⟩
    · obtain rfl : k = n := by omega
      have k1 : ¬ (k : Int) < (k : Int) := by omega
      replace hE := hideit hE
      go_wp2
      go_ret
      refine ⟨_, rfl, ⟨fun h => absurd h (by decide), fun ⟨i, hi, h⟩ => absurd (hI.out i hi) h⟩, hE.out⟩
set_option maxRecDepth 20000 in
set_option maxHeartbeats 4000000 in
theorem contains_odd (v0 : Value) (n : Nat) (bs : Nat → Int) (us : Nat → Value) (ls : Nat → Nat) (fs : Nat → Nat → BitVec 8) (w : World) (hL : RLs v0 n bs us ls fs w) (hn : n ≤ 4398046511104) (b : Bool) (hb : b = true ↔ oddL n ls) : Calls Tryd.prog 23 #[v0, .func (.func 43) #[] #[]] w fun e w' => e = .returned (.bool b) ∧ Ext w w' := by
  have ki := hideit (index_odd v0 n bs us ls fs w hL hn)
  replace hb := hideit hb
  clear hL
  go_enter Tryd.func23, Tryd.ntmps23
  go_upto_region 1 with (fail)
  refine wp_region_lit ?_
  refine wpList_run rfl (v0) (by simp [go_sem]) ?_
  simp only [zp0, zp1, zp2, zp3]
  refine wpList_run rfl (.func (.func 43) #[] #[]) (by simp [go_sem]) ?_
  simp only [zp0, zp1, zp2, zp3]
  refine wpList_call rfl (by simp [go_sem]) ((ki.out).mono ?_)
  rintro e w9 ⟨r, rfl, hr, hX9⟩
  refine ⟨_, rfl, ?_⟩
  simp only [zp0, zp1, zp2, zp3]
  have hbr : Hid (decide (0 ≤ r) = b) := by
    show decide (0 ≤ r) = b
    cases b with
    | true => exact decide_eq_true (hr.2 (hb.out.1 rfl))
    | false => exact decide_eq_false fun h => by have := hb.out.2 (hr.1 h); cases this
  clear ki hr hb
  replace hX9 := hideit hX9
  refine wpList_run rfl (.bool (decide (0 ≤ r))) (by simp [go_sem]) ?_
  simp only [zp0, zp1, zp2, zp3]
  refine wpList_run rfl (.bool (decide (0 ≤ r))) (by simp [go_sem]) ?_
  simp only [zp0, zp1, zp2, zp3]
  go_wp2
  go_ret
  exact ⟨by rw [hbr.out]; rfl, hX9.out⟩
end Go.Proofs.YtiakkclabgelfaaDoor
namespace Go.Proofs.YtiakkclabgelfaaDoor
set_option maxRecDepth 20000
open Go.RowKit Go.BigFrame
theorem elem24 : ElemB Tryd.prog 49 39 24 := elem_b Tryd.underlying49 (by kernel_rfl) (by kernel_rfl) (by kernel_rfl)
def up1 {α : Type} (f : Nat → α) (n : Nat) (a : α) : Nat → α := fun i => if i = n then a else f i
theorem up1_same {α : Type} (f : Nat → α) (n : Nat) (a : α) : up1 f n a n = a := if_pos rfl
theorem up1_other {α : Type} (f : Nat → α) {n i : Nat} (h : i ≠ n) (a : α) : up1 f n a i = f i := if_neg h
structure BLs (B : Nat) (v : Value) (m : Nat) (us : Nat → Value) (fs : Nat → Nat → BitVec 8) (X : World) : Prop where
  own : OwnB B 39 v m us X
  byt : ∀ i, i < m → ∃ z cp, us i = .slice (some ⟨z, 0, none⟩) 512 cp ∧ 512 ≤ cp ∧ LieAt ⟨z, 0, none⟩ 512 (yv (fs i)) X ∧ v.ownBlock ≠ some z
  fr : ∀ i, i < m → ∀ z, (us i).ownBlock = some z → B ≤ z
section
variable {B : Nat} {v : Value} {m : Nat} {us : Nat → Value} {fs fs' : Nat → Nat → BitVec 8} {X Y : World}
theorem BLs.ext (h : BLs B v m us fs X) (k : Ext X Y) : BLs B v m us fs Y := ⟨h.own.ext k, fun i hi => by
  obtain ⟨z, cp, h1, h2, h3, h4⟩ := h.byt i hi
  exact ⟨z, cp, h1, h2, h3.carry k, h4⟩, h.fr⟩
theorem BLs.congr (h : BLs B v m us fs X) (e : ∀ i, i < m → fs i = fs' i) : BLs B v m us fs' X := ⟨h.own, fun i hi => (by rw [← e i hi]; exact h.byt i hi), h.fr⟩
theorem BLs.parts (h : BLs B v m us fs X) : Parts v m us (fun _ => 512) fs X := by
  refine ⟨?_, fun i hi => ?_⟩
  · rcases h.own.2 with ⟨h1, h2⟩ | ⟨g, cap, cur, h1, _, hg, hc, _⟩
    · exact .inl ⟨h1, h2⟩
    · refine .inr ⟨⟨g, 0, none⟩, cap, h1, hc, ?_⟩
      rcases Nat.eq_zero_or_pos m with h0 | h0
      · subst h0
        exact ⟨fun j hj => absurd hj (Nat.not_lt_zero _), (Array.getElem?_eq_some_iff.1 hg).1⟩
      · obtain ⟨g', cap', e, _, _, _, hR⟩ := h.own.lies h0
        rw [h1] at e
        have e2 : g = g' := congrArg Addr.block (Option.some.inj (Value.slice.inj e).1)
        subst e2
        exact hR.lie m (Nat.le_refl _)
  · obtain ⟨z, cp, h1, h2, h3, _⟩ := h.byt i hi
    exact .inr ⟨_, cp, h1, h2, h3⟩
theorem BLs.form (h : BLs B v m us fs X) : ∃ o cap, v = .slice o m cap := by
  rcases h.own.2 with ⟨h1, h2⟩ | ⟨g, cap, cur, h1, _⟩
  · exact ⟨none, 0, by rw [h1, h2]⟩
  · exact ⟨_, cap, h1⟩
theorem BLs.app (h : BLs B v m us fs X) (hB : B ≤ X.heap.size) (hm : m ≤ 1000000) {z cp : Nat} {f : Nat → BitVec 8} (hcp : 512 ≤ cp) (hzB : B ≤ z) (hz : LieAt ⟨z, 0, none⟩ 512 (yv f) X) (hne : v.ownBlock ≠ some z) (ty : TypeId) :
    ∃ v' Y, (Builtin.append_ #[49, 49] ty #[v, .slice (some ⟨X.heap.size, 0, none⟩) 1 1]).run Tryd.prog (X.alloc (.cells #[.slice (some ⟨z, 0, none⟩) 512 cp] 39)) = .ok v' Y ∧ BLs B v' (m + 1) (up1 us m (.slice (some ⟨z, 0, none⟩) 512 cp)) (up1 fs m f) Y ∧ Below B X Y := by
  have hX1 : Ext X (X.alloc (.cells #[.slice (some ⟨z, 0, none⟩) 512 cp] 39)) := (Below.refl _ _).alloc (Nat.le_refl _) _
  have hr := row_new1 X (.slice (some ⟨z, 0, none⟩) 512 cp) 39
  have h1 := h.ext hX1
  have hz1 := hz.carry hX1
  have hs1 : (X.alloc (.cells #[.slice (some ⟨z, 0, none⟩) 512 cp] 39)).heap.size = X.heap.size + 1 := by simp
  have hzl := hz.2
  have hzo : ∀ i, i < m → ∃ z', (us i).ownBlock = some z' ∧ z' < X.heap.size := fun i hi => by
    obtain ⟨z', cp', e, _, e3, _⟩ := h.byt i hi
    exact ⟨z', by rw [e]; rfl, e3.2⟩
  generalize X.alloc (.cells #[.slice (some ⟨z, 0, none⟩) 512 cp] 39) = X1 at *
  obtain ⟨i, zz, e1, e2, e3, e4, e5⟩ := elem24.info
  obtain ⟨v', Y, a1, a2, a3, _, a5⟩ := run_append_own_at (P := Tryd.prog) X1 B 49 ty 39 i zz 1 24 elem24.slice e1 e2 e3 e4 e5 (by decide) v m (row m us) h1.own ⟨X.heap.size, 0, none⟩ 1 1 [.slice (some ⟨z, 0, none⟩) 512 cp] rfl (fun j x hj => by
    cases j with
    | zero => simp at hj; subst hj; exact hr.1 0 (by decide)
    | succ j => simp at hj) (fun x hx => by simp at hx; subst hx; rfl) (by unfold maxLen; omega) (by omega) (by omega)
  have hkeep : ∀ {z' : Nat} {g : Nat → BitVec 8}, LieAt ⟨z', 0, none⟩ 512 (yv g) X1 → v.ownBlock ≠ some z' → LieAt ⟨z', 0, none⟩ 512 (yv g) Y := fun {z' g} hl hn => ⟨fun j hj => (World.cell?_of_block (a := (⟨z', 0, none⟩ : Addr).add j) (by rw [add_block]; exact a3.block z' hl.2 (fun e => hn e.symm))).trans (hl.1 j hj), Nat.lt_of_lt_of_le hl.2 a3.size⟩
  have hown : ∀ z', z' < X.heap.size → v.ownBlock ≠ some z' → v'.ownBlock ≠ some z' := fun z' hz' hn e => by
    rcases a5 with q | q
    · exact hn (q ▸ e)
    · rw [q] at e
      injection e with e
      omega
  refine ⟨v', Y, a1, ⟨?_, fun j hj => ?_, fun j hj z2 hz2 => ?_⟩, Below.trans (Below.mono hX1 hB) (below_grown (by omega) a3 fun q hq => (h1.own.lt q hq).1)⟩
  · unfold OwnB
    rw [show row (m + 1) (up1 us m (.slice (some ⟨z, 0, none⟩) 512 cp)) = row m us ++ [.slice (some ⟨z, 0, none⟩) 512 cp] from ?_]
    · exact a2
    · rw [← row_append m 1 us (fun _ => .slice (some ⟨z, 0, none⟩) 512 cp) _ (fun j hj => by rw [up1_other _ (by omega)]) (fun j hj => by rw [show m + j = m by omega, up1_same])]
      rfl
  · by_cases e : j = m
    · subst e
      rw [up1_same, up1_same]
      exact ⟨z, cp, rfl, hcp, hkeep hz1 hne, hown z hzl hne⟩
    · rw [up1_other _ e, up1_other _ e]
      obtain ⟨z', cp', q1, q2, q3, q4⟩ := h1.byt j (by omega)
      obtain ⟨z2, p1, p2⟩ := hzo j (by omega)
      rw [q1] at p1
      have p3 : z' = z2 := Option.some.inj p1
      exact ⟨z', cp', q1, q2, hkeep q3 q4, hown z' (by omega) q4⟩
  · by_cases e : j = m
    · subst e
      rw [up1_same] at hz2
      have e2 : z = z2 := Option.some.inj hz2
      omega
    · rw [up1_other _ e] at hz2
      exact h1.fr j (by omega) z2 hz2
end
def bkF (x t : BitVec 64) (n : Nat) (bs : Nat → Int) (fs : Nat → Nat → BitVec 8) (i : Nat) : Nat → BitVec 8 := if i = 0 then planF x t n bs else stF 512 (fs (i - 1))
def trF (x t : BitVec 64) (n : Nat) (bs : Nat → Int) (fs : Nat → Nat → BitVec 8) (i : Nat) : Nat → BitVec 8 := if i = n + 1 then sealF x (allF (fun _ => 512) (bkF x t n bs fs) (n + 1)) (sumL (fun _ => 512) (n + 1)) else bkF x t n bs fs i
theorem sum512 : ∀ n, sumL (fun _ => 512) n = 512 * n
  | 0 => rfl
  | n + 1 => by rw [sumL_succ, sum512 n]; omega
theorem joinF_congr (ls : Nat → Nat) (b b' : Nat → Nat → BitVec 8) : ∀ n, (∀ i, i < n → b i = b' i) → allF ls b n = allF ls b' n
  | 0, _ => rfl
  | n + 1, h => by rw [allF_succ, allF_succ, joinF_congr ls b b' n (fun i hi => h i (by omega)), h n (by omega)]
def okT (x : BitVec 64) (n : Nat) (bs : Nat → Int) (ls : Nat → Nat) (fs : Nat → Nat → BitVec 8) : Prop := mayP x (tmK ls fs n) n bs ∧ ¬ oddL n ls
set_option maxRecDepth 20000 in
set_option maxHeartbeats 4000000 in
theorem blocks_no (x : BitVec 64) (v0 : Value) (n : Nat) (bs : Nat → Int) (us : Nat → Value) (ls : Nat → Nat) (fs : Nat → Nat → BitVec 8) (w : World) (hL : RLs v0 n bs us ls fs w) (hbi : ∀ i, i < n → okI (bs i)) (hn : n ≤ 4398046511104) (hno : ¬ okT x n bs ls fs) : Calls Tryd.prog 22 #[.int .u64 (x.toNat : Int), v0] w fun e w' => e = .returned (.tuple #[.slice none 0 0, .int .i64 1]) ∧ Ext w w' := by
  obtain ⟨o, cap, rfl⟩ := hL.form
  have kp := hideit (planOf_any x (.slice o n cap) n bs us ls fs w hL hn)
  replace hL := hideit hL
  go_enter Tryd.func22, Tryd.ntmps22
  go_upto_region 1 with (fail)
  refine wp_region_lit ?_
  refine wpList_run rfl (.int .u64 (x.toNat : Int)) (by simp [go_sem]) ?_
  simp only [zp0, zp1, zp2, zp3]
  refine wpList_run rfl (.slice o n cap) (by simp [go_sem]) ?_
  simp only [zp0, zp1, zp2, zp3]
  refine wpList_call rfl (by simp [go_sem]) ((kp.out).mono ?_)
  rintro e w1 ⟨pv, rfl, hO1, hX1⟩
  refine ⟨_, rfl, ?_⟩
  simp only [zp0, zp1, zp2, zp3]
  have hT1 : RowAt w1.heap.size 3 (plV 0#64 0#64 (.slice none 0 0)) (w1.alloc (.cells #[.int .u64 0, .int .u64 0, .slice none 0 0] 76)) := RowAt.newOf w1 3 _ 76 _ fun j hj => by rcases (by omega : j = 0 ∨ j = 1 ∨ j = 2) with rfl | rfl | rfl <;> rfl
  obtain ⟨t, ht⟩ : ∃ t, t = tmK ls fs n := ⟨_, rfl⟩
  rw [← ht]
  replace ht := hideit ht
  have hT2 := hT1.cells (g' := plV x t pv)
  have hX2 : Ext w1 ((w1.alloc (.cells #[.int .u64 0, .int .u64 0, .slice none 0 0] 76)).setCells w1.heap.size 0 (row 3 (plV x t pv))) := below_setCells w1.heap.size (Nat.le_refl _) _ 0 _ ((Below.refl _ _).alloc (Nat.le_refl _) _)
  have hv1 : pv.oneCell' = true := by
    rcases hO1.2 with ⟨e, _⟩ | ⟨g, cc, cur, e, _⟩ <;> rw [e] <;> rfl
  refine wpList_to rfl (.pointer (some ⟨w1.heap.size, 0, none⟩)) (w1.alloc (.cells #[.int .u64 0, .int .u64 0, .slice none 0 0] 76)) (alloc47 rfl) ?_
  simp only [zp0, zp1, zp2, zp3]
  refine wpList_store_mid rfl 76 (.tmp 6) (.tmp 12) rfl w1.heap.size 0 (row 3 (plV x t pv)).toArray rfl rfl (by rw [row_size]; exact hT1.there) (by rw [row_size]; exact info47) (row_one (plV_one hv1)) ?_
  rw [show (row 3 (plV x t pv)).toArray.toList = row 3 (plV x t pv) from rfl]
  have hO2 := (hO1.ext hX2).il hbi
  have hE2 := hideit (Ext.trans hX1 hX2)
  generalize (w1.alloc (.cells #[.int .u64 0, .int .u64 0, .slice none 0 0] 76)).setCells w1.heap.size 0 (row 3 (plV x t pv)) = w2 at *
  generalize w1.heap.size = p6 at *
  replace hT2 := hideit hT2
  clear kp hT1 hX2 hX1 hO1 hv1
  simp only [Act.put]
  by_cases hmay : mayP x t n bs
  · have km := may_any x t pv n bs w2 hO2 hn true (by simp [hmay])
    rw [plA_row] at km
    replace km := hideit km
    have hodd : oddL n ls := Classical.byContradiction fun h => hno ⟨by rw [← ht.out]; exact hmay, h⟩
    go_upto_region 2 with (fail)
    refine wp_region_lit ?_
    refine wpList_run rfl (.agg (row 3 (plV x t pv)).toArray) (exec_loadR 76 (.tmp 6) rfl p6 0 3 _ rfl hT2.out.range Tryd.underlying76 rfl info47) ?_
    simp only [zp0, zp1, zp2, zp3]
    refine wpList_call rfl (by simp [go_sem]) ((km.out).mono ?_)
    rintro e w3 ⟨rfl, hX3⟩
    refine ⟨_, rfl, ?_⟩
    simp only [zp0, zp1, zp2, zp3]
    have hE3 := hideit (Ext.trans hE2.out hX3)
    have kc := hideit (contains_odd (.slice o n cap) n bs us ls fs w3 (hL.out.ext hE3.out) hn true (by simp [hodd]))
    refine wpList_run rfl (.bool false) (by simp [go_sem]) ?_
    simp only [zp0, zp1, zp2, zp3]
    refine wpList_run rfl (.bool false) (by simp [go_sem]) ?_
    simp only [zp0, zp1, zp2, zp3]
    refine wpList_runW rfl (.slice o n cap) (by simp [go_sem]) ?_
    simp only [zp0, zp1, zp2, zp3]
    refine wpList_callW rfl (by simp [go_sem]) ((kc.out).mono ?_)
    rintro e w4 ⟨rfl, hX4⟩
    refine ⟨_, rfl, ?_⟩
    simp only [zp0, zp1, zp2, zp3]
    refine wpList_run rfl (.bool true) (by simp [go_sem]) ?_
    simp only [zp0, zp1, zp2, zp3]
    have hE4 := hideit (Ext.trans hE3.out hX4)
    clear km kc hX3 hX4 hE3 hE2
    go_wp2
    go_ret2
    exact ⟨rfl, hE4.out⟩
  · have km := may_any x t pv n bs w2 hO2 hn false (by simp [hmay])
    rw [plA_row] at km
    replace km := hideit km
    go_upto_region 2 with (fail)
    refine wp_region_lit ?_
    refine wpList_run rfl (.agg (row 3 (plV x t pv)).toArray) (exec_loadR 76 (.tmp 6) rfl p6 0 3 _ rfl hT2.out.range Tryd.underlying76 rfl info47) ?_
    simp only [zp0, zp1, zp2, zp3]
    refine wpList_call rfl (by simp [go_sem]) ((km.out).mono ?_)
    rintro e w3 ⟨rfl, hX3⟩
    refine ⟨_, rfl, ?_⟩
    simp only [zp0, zp1, zp2, zp3]
    refine wpList_run rfl (.bool true) (by simp [go_sem]) ?_
    simp only [zp0, zp1, zp2, zp3]
    refine wpList_run rfl (.bool true) (by simp [go_sem]) ?_
    simp only [zp0, zp1, zp2, zp3]
    refine wpList_skip rfl ?_
    simp only [zp0, zp1, zp2, zp3]
    refine wpList_skip rfl ?_
    simp only [zp0, zp1, zp2, zp3]
    refine wpList_run rfl (.bool true) (by simp [go_sem]) ?_
    simp only [zp0, zp1, zp2, zp3]
    have hE3 := hideit (Ext.trans hE2.out hX3)
    clear km hX3 hE2
    go_wp2
    go_ret2
    exact ⟨rfl, hE3.out⟩
end Go.Proofs.YtiakkclabgelfaaDoor
