/-
  A plan's redos: what their list is. A plan's redos.
-/
import Derived.Test.YtiakkclabgelfaaDoorQc1
import Derived.Test.YtiakkclabgelfaaDoorQc36
import Derived.Maps.AppendAt
import Derived.Test.YtiakkclabgelfaaDoorQc34
namespace Go.Proofs.YtiakkclabgelfaaDoor
set_option maxRecDepth 20000
open Go.RowKit Go.BigFrame
theorem not128 (a : BitVec 8) : bits .andNot .u8 (a.toNat : Int) 128 = ((a &&& 127#8).toNat : Int) := by
  revert a
  decide +kernel
theorem and_one (a : BitVec 64) : bits .and .u64 (a.toNat : Int) 1 = ((a &&& 1#64).toNat : Int) := by
  rw [show (1 : Int) = (((1#64).toNat : Nat) : Int) from rfl, u64_and_nat _ _ a.isLt (by decide), BitVec.toNat_and]
def tnB (t : BitVec 64) (k : Nat) : Bool := decide ((t >>> k) &&& 1#64 = 1#64)
def unF (t : BitVec 64) (k l : Nat) (f : Nat → BitVec 8) : Nat → BitVec 8 := if tnB t k = true ∧ 0 < l then fun j => if j = 0 then f 0 &&& 127#8 else f j else f
set_option maxRecDepth 20000 in
set_option maxHeartbeats 4000000 in
theorem clone_pv (v : Value) (l : Nat) (b : Nat → BitVec 8) (w : World) (h : PV v l b w) (hl : l ≤ 140737488355328) :
    Calls Tryd.prog 57 #[v] w fun e w' => ∃ v', e = .returned v' ∧ OwnB w.heap.size 5 v' l (yv b) w' ∧ Ext w w' := by
  by_cases h0 : 0 < l
  · exact clone_any v l b w (h.bv h0) hl
  · obtain rfl : l = 0 := by omega
    rcases h with ⟨rfl, _⟩ | ⟨a, cap, rfl, h2, h3⟩
    · exact clone_any _ 0 b w (.inl ⟨rfl, rfl⟩) hl
    · have hE : Hid (Ext w (w.alloc (.cells #[] 5))) := (Below.refl _ _).alloc (Nat.le_refl _) _
      have hO := hideit (own_empty w w.heap.size 5 (yv b) (Nat.le_refl _))
      have hq := fun X : World => Go.Lib.run_eql_slice_some_nil (P := Tryd.prog) X a 0 cap Tryd.underlying39
      clear h3
      go_enter Tryd.func57, Tryd.ntmps57
      go_upto_region 3 with (fail)
      refine wp_region_lit ?_
      refine wpList_to rfl (.slice (some ⟨w.heap.size, 0, none⟩) 0 0) (w.alloc (.cells #[] 5)) (by simp [go_sem]) ?_
      simp only [zp0, zp1, zp2, zp3]
      refine wpList_run rfl (.slice (some a) 0 cap) (by simp [go_sem]) ?_
      simp only [zp0, zp1, zp2, zp3]
      refine wpList_run rfl (.slice (some ⟨w.heap.size, 0, none⟩) 0 0) (exec_app (.tmp 5) (.tmp 6) rfl rfl rfl (by simp [Builtin.append_, go_sem]; done)) ?_
      simp only [zp0, zp1, zp2, zp3]
      go_wp2
      go_ret
      exact ⟨_, rfl, hO.out, hE.out⟩
theorem elem23 : ElemK Tryd.prog 22 47 2 32 := elem_k Tryd.underlying22 (by kernel_rfl) (by kernel_rfl) (by kernel_rfl)
theorem own_ne {u v : Value} (h : ∀ z, u.ownBlock = some z → v.ownBlock ≠ some z) : u.ownBlock = none ∨ u.ownBlock ≠ v.ownBlock := by
  cases q : u.ownBlock with
  | none => exact .inl rfl
  | some z => exact .inr fun e => h z q e.symm
structure RDs (B : Nat) (v : Value) (m : Nat) (bs : Nat → Int) (us : Nat → Value) (ls : Nat → Nat) (fs : Nat → Nat → BitVec 8) (X : World) : Prop where
  own : OwnK 2 B 47 v m (rdC bs us) X
  byt : ∀ i, i < m → OwnB B 5 (us i) (ls i) (yv (fs i)) X ∧ ∀ z, (us i).ownBlock = some z → v.ownBlock ≠ some z
section
variable {B : Nat} {v : Value} {m : Nat} {bs : Nat → Int} {us : Nat → Value} {ls : Nat → Nat} {fs : Nat → Nat → BitVec 8} {X Y : World}
theorem RDs.ext (h : RDs B v m bs us ls fs X) (k : Ext X Y) : RDs B v m bs us ls fs Y := ⟨h.own.ext k, fun i hi => ⟨(h.byt i hi).1.ext k, (h.byt i hi).2⟩⟩
theorem RDs.form (h : RDs B v m bs us ls fs X) : ∃ o c, v = .slice o m c := h.own.form
theorem own_form5 {n : Nat} {g : Nat → Value} (h : OwnB B 5 v n g X) : ∃ o c, v = .slice o n c := by
  rcases h.2 with ⟨e, e'⟩ | ⟨g, cc, cur, e, _⟩
  · exact ⟨none, 0, by rw [e, e']⟩
  · exact ⟨_, cc, e⟩
theorem rds_nil (X : World) (B : Nat) (bs : Nat → Int) (us : Nat → Value) (ls : Nat → Nat) (fs : Nat → Nat → BitVec 8) : RDs B (.slice none 0 0) 0 bs us ls fs X := ⟨ownK_nil _ _ _ _ _, fun _ hi => absurd hi (Nat.not_lt_zero _)⟩
theorem RDs.app (h : RDs B v m bs us ls fs X) (hB : B ≤ X.heap.size) (hm : m ≤ 1000000) {u : Value} (hu : OwnB B 5 u (ls m) (yv (fs m)) X) (hne : ∀ z, u.ownBlock = some z → v.ownBlock ≠ some z) (ty : TypeId) :
    ∃ v' Y, (Builtin.append_ #[22, 22] ty #[v, .slice (some ⟨X.heap.size, 0, none⟩) 1 1]).run Tryd.prog (X.alloc (.cells #[.int .i64 (bs m), u] 47)) = .ok v' Y ∧ RDs B v' (m + 1) bs (up1 us m u) ls fs Y ∧ Below B X Y ∧ X.grownBy Y v.ownBlock := by
  have hX1 : Ext X (X.alloc (.cells #[.int .i64 (bs m), u] 47)) := (Below.refl _ _).alloc (Nat.le_refl _) _
  have hr : RowAt X.heap.size 2 (rdC (fun _ => bs m) (fun _ => u)) (X.alloc (.cells #[.int .i64 (bs m), u] 47)) := RowAt.newOf X 2 _ 47 _ fun j hj => by rcases (by omega : j = 0 ∨ j = 1) with rfl | rfl <;> rfl
  have h1 := h.ext hX1
  have hu1 := hu.ext hX1
  have hs1 : (X.alloc (.cells #[.int .i64 (bs m), u] 47)).heap.size = X.heap.size + 1 := by simp
  have hul : ∀ z, u.ownBlock = some z → z < X.heap.size := fun z hz => (hu.lt z hz).2
  have hil : ∀ i, i < m → ∀ z, (us i).ownBlock = some z → z < X.heap.size := fun i hi z hz => ((h.byt i hi).1.lt z hz).2
  obtain ⟨uo, uc, hue⟩ := own_form5 hu
  have hg0 : X.grownBy (X.alloc (.cells #[.int .i64 (bs m), u] 47)) v.ownBlock := World.grownBy_alloc X _ _
  generalize X.alloc (.cells #[.int .i64 (bs m), u] 47) = X1 at *
  obtain ⟨i, zz, e1, e2, e3, e4, e5⟩ := elem23.info
  obtain ⟨v', Y, a1, a2, a3, _, a5⟩ := run_append_own_at (P := Tryd.prog) X1 B 22 ty 47 i zz 2 32 elem23.slice e1 e2 e3 e4 e5 (by decide) v m (row (m * 2) (rdC bs us)) h1.own ⟨X.heap.size, 0, none⟩ 1 1 (row 2 (rdC (fun _ => bs m) (fun _ => u))) rfl (fun j x hj => by
    obtain ⟨hj', rfl⟩ := row_some hj
    have := hr.1 j hj'
    exact (RowAt.lie hr 2 (Nat.le_refl _)).1 j hj') (fun x hx => by
    obtain ⟨j, hj, rfl⟩ := List.mem_map.1 hx
    exact rdC_one (by rw [hue]; rfl) j (by simpa using hj)) (by unfold maxLen; omega) (by omega) (by omega)
  have hown : ∀ z', z' < X.heap.size → v.ownBlock ≠ some z' → v'.ownBlock ≠ some z' := fun z' hz' hn e => by
    rcases a5 with q | q
    · exact hn (q ▸ e)
    · rw [q] at e
      injection e with e
      omega
  refine ⟨v', Y, a1, ⟨?_, fun j hj => ?_⟩, Below.trans (Below.mono hX1 hB) (below_grown (by omega) a3 fun q hq => (h1.own.lt q hq).1), hg0.trans a3⟩
  · unfold OwnK
    have hrw := row_append (m * 2) 2 (rdC bs us) (rdC (fun _ => bs m) (fun _ => u)) (rdC bs (up1 us m u)) (fun j hj => by
      unfold rdC
      rw [up1_other _ (by omega : j / 2 ≠ m)]) (fun j hj => by
      unfold rdC
      rw [show (m * 2 + j) / 2 = m by omega, show (m * 2 + j) % 2 = j % 2 by omega, up1_same])
    rw [show (m + 1) * 2 = m * 2 + 2 by omega, ← hrw]
    exact a2
  · by_cases e : j = m
    · subst e
      rw [up1_same]
      exact ⟨hu1.kept a3 (own_ne hne), fun z hz => hown z (hul z hz) (hne z hz)⟩
    · rw [up1_other _ e]
      have hj' : j < m := by omega
      exact ⟨(h1.byt j hj').1.kept a3 (own_ne (h.byt j hj').2), fun z hz => hown z (hil j hj' z hz) ((h.byt j hj').2 z hz)⟩
end
end Go.Proofs.YtiakkclabgelfaaDoor
namespace Go.Proofs.YtiakkclabgelfaaDoor
set_option maxRecDepth 20000
open Go.RowKit Go.BigFrame
theorem OwnK.down2 {K base : Nat} {e : TypeId} {v : Value} {n : Nat} {g : Nat → Value} {w : World} (h : OwnK K base e v n g w) {base' : Nat} (hb : base' ≤ base) : OwnK K base' e v n g w := by
  obtain ⟨h1, h2⟩ := h
  refine ⟨h1, ?_⟩
  rcases h2 with h2 | ⟨k, cap, cur, hv, hg, r⟩
  · exact .inl h2
  · exact .inr ⟨k, cap, cur, hv, Nat.le_trans hb hg, r⟩
def ReQ (t : BitVec 64) (n : Nat) (bs : Nat → Int) (ls : Nat → Nat) (fs : Nat → Nat → BitVec 8) (w : World) (e : Ending) (w' : World) : Prop := ∃ v us', e = .returned v ∧ RDs w.heap.size v n bs us' ls (fun i => unF t i (ls i) (fs i)) w' ∧ Ext w w'
theorem req_mk {t : BitVec 64} {n : Nat} {bs : Nat → Int} {ls : Nat → Nat} {fs : Nat → Nat → BitVec 8} {w w' : World} {e : Ending} (v : Value) (us' : Nat → Value) (h : e = .returned v) (k : RDs w.heap.size v n bs us' ls (fun i => unF t i (ls i) (fs i)) w') (x : Ext w w') : ReQ t n bs ls fs w e w' := ⟨v, us', h, k, x⟩
set_option maxRecDepth 20000 in
set_option maxHeartbeats 4000000 in
theorem redos_any (x t : BitVec 64) (v0 vb : Value) (n : Nat) (bs : Nat → Int) (us : Nat → Value) (ls : Nat → Nat) (fs : Nat → Nat → BitVec 8) (w : World) (hL : IL v0 n bs w) (hP : PL vb n us ls fs w) (hls : ∀ i, i < n → ls i ≤ 140737488355328) (hn : n ≤ 64) : Calls Tryd.prog 83 #[plA x t v0, vb] w (ReQ t n bs ls fs w) := by
  obtain ⟨o, cap, rfl⟩ := hL.form
  obtain ⟨ob, capb, rfl⟩ := hP.form
  have hR1 : RowAt w.heap.size 3 (plV x t (.slice o n cap)) (w.alloc (.cells #[.int .u64 (x.toNat : Int), .int .u64 (t.toNat : Int), .slice o n cap] 76)) := RowAt.newOf w 3 _ 76 _ fun j hj => by rcases (by omega : j = 0 ∨ j = 1 ∨ j = 2) with rfl | rfl | rfl <;> rfl
  have hX1 : Ext w (w.alloc (.cells #[.int .u64 (x.toNat : Int), .int .u64 (t.toNat : Int), .slice o n cap] 76)) := (Below.refl _ _).alloc (Nat.le_refl _) _
  replace hL := hideit hL
  replace hP := hideit hP
  go_enter Tryd.func83, Tryd.ntmps83
  go_upto_region 0 with (fail)
  refine wp_region_lit ?_
  refine wpList_to rfl (.pointer (some ⟨w.heap.size, 0, none⟩)) (w.alloc (.cells #[.int .u64 (x.toNat : Int), .int .u64 (t.toNat : Int), .slice o n cap] 76)) (by simp [go_sem, plA]) ?_
  simp only [zp0, zp1, zp2, zp3]
  refine wpList_run rfl (.slice none 0 0) (by simp [go_sem]) ?_
  simp only [zp0, zp1, zp2, zp3]
  generalize w.alloc (.cells #[.int .u64 (x.toNat : Int), .int .u64 (t.toNat : Int), .slice o n cap] 76) = w1 at *
  obtain ⟨p, hp⟩ : ∃ p, p = w.heap.size := ⟨_, rfl⟩
  rw [← hp] at hR1 ⊢
  have hpw : Hid (w.heap.size ≤ p) := by show w.heap.size ≤ p; omega
  have e2 : w1.cell? ⟨p, 2, none⟩ = some (.slice o n cap) := hR1.1 2 (by decide)
  replace hR1 := hideit hR1
  replace hX1 := hideit hX1
  replace hp := hideit hp
  go_wp2
  go_loopw [5, 6, 7, 8, 12] (fun sv _ _ _ iv X => ∃ (k : Nat) (us' : Nat → Value), k ≤ n ∧ iv = .int .i64 (k : Int) ∧ RDs (p + 1) sv k bs us' ls (fun i => unF t i (ls i) (fs i)) X ∧ RowAt p 3 (plV x t (.slice o n cap)) X ∧ Ext w X) (fun _ _ _ _ iv _ => 5000000000000 - (intOf iv).toNat)
  case atStart => exact ⟨0, us, Nat.zero_le _, rfl, rds_nil _ _ _ _ _ _, hR1.out, hX1.out⟩
  case round =>
    obtain ⟨k, us', hk, rfl, hD, hR, hE⟩ := hrel
    obtain ⟨svo, svc, rfl⟩ := hD.form
    clear hR1 hX1 e2
    have hpn : Hid ((Value.slice svo k svc).ownBlock ≠ some p) := fun e => by
      have := (hD.own.lt p e).1
      omega
    have hsl : ∀ z, (Value.slice svo k svc).ownBlock = some z → z < wr.heap.size := fun z hz => (hD.own.lt z hz).2
    by_cases hlt : k < n
    · have k0 : (0 : Int) ≤ (k : Int) := by omega
      have k1 : (k : Int) < (n : Int) := by omega
      obtain ⟨a, rfl, ec⟩ : ∃ a, o = some a ∧ wr.cell? (a.add k) = some (.int .i64 (bs k)) := by
        rcases (hL.out.ext hE).1 with ⟨_, h2⟩ | ⟨a, cap', h1, _, h3⟩
        · omega
        · injection h1 with e1 _ _
          exact ⟨a, e1, h3.1 k hlt⟩
      obtain ⟨ab, rfl, eb⟩ := (hP.out.ext hE).at k hlt
      have kc := hideit (clone_pv (us k) (ls k) (fs k) wr ((hP.out.ext hE).2 k hlt) (hls k hlt))
      replace hsl := hideit hsl
      have hpz : p + 1 ≤ wr.heap.size := hR.2.2
      replace hD := hideit hD
      replace hR := hideit hR
      replace hE := hideit hE
      go_upto_region 3 with (fail)
      refine wp_region_lit ?_
      refine wpList_run rfl (.bool true) (by simp [go_sem, k1]) ?_
      simp only [zp0, zp1, zp2, zp3]
      go_upto_region 4 with (fail)
      refine wp_region_lit ?_
      refine wpList_run rfl (.int .i64 (k : Int)) (by simp [go_sem]) ?_
      simp only [zp0, zp1, zp2, zp3]
      refine wpList_run rfl (.pointer (some (a.add k))) (by simp [go_sem, k1]) ?_
      simp only [zp0, zp1, zp2, zp3]
      refine wpList_run rfl (.int .i64 (bs k)) (by simp [go_sem, ec]) ?_
      simp only [zp0, zp1, zp2, zp3]
      refine wpList_run rfl (.int .i64 (k : Int)) (by simp [go_sem]) ?_
      simp only [zp0, zp1, zp2, zp3]
      refine wpList_run rfl (.int .i64 (bs k)) (by simp [go_sem]) ?_
      simp only [zp0, zp1, zp2, zp3]
      go_upto_region 5 with (fail)
      refine wp_region_lit ?_
      refine wpList_run rfl (.slice (some ab) n capb) (by simp [go_sem]) ?_
      simp only [zp0, zp1, zp2, zp3]
      refine wpList_run rfl (.int .i64 (k : Int)) (by simp [go_sem]) ?_
      simp only [zp0, zp1, zp2, zp3]
      refine wpList_run rfl (.pointer (some (ab.add k))) (by simp [go_sem, k1]) ?_
      simp only [zp0, zp1, zp2, zp3]
      refine wpList_run rfl (us k) (by simp [go_sem, eb]) ?_
      simp only [zp0, zp1, zp2, zp3]
      refine wpList_call rfl (by simp [go_sem]) ((kc.out).mono ?_)
      rintro e w5 ⟨u5, rfl, hU5, hX5⟩
      refine ⟨_, rfl, ?_⟩
      simp only [zp0, zp1, zp2, zp3]
      obtain ⟨vo, vc, rfl⟩ := own_form5 hU5
      have hD5 := hideit (hD.out.ext hX5)
      have hR5 := hideit (hR.out.carry hX5)
      have hE5 := hideit (Ext.trans hE.out hX5)
      have hne : Hid (∀ z, (Value.slice vo (ls k) vc).ownBlock = some z → (Value.slice svo k svc).ownBlock ≠ some z) := fun z hz e => by
        have := (hU5.lt z hz).1
        have := hsl.out z e
        omega
      have hz5 : Hid (p + 1 ≤ w5.heap.size) := Nat.le_trans hpz (Below.size hX5)
      have hup : Hid (∀ z, (Value.slice vo (ls k) vc).ownBlock = some z → z ≠ p) := fun z hz e => by
        have := (hU5.lt z hz).1
        omega
      have hfr : Hid (∀ i, i < k → ∀ z, (us' i).ownBlock = some z → (Value.slice vo (ls k) vc).ownBlock ≠ some z) := fun i hi z hz e => by
        have := (hU5.lt z e).1
        have := ((hD.out.byt i hi).1.lt z hz).2
        omega
      replace hU5 := hideit (hU5.down hpz)
      refine wpList_run rfl (.slice vo (ls k) vc) (by simp [go_sem]) ?_
      simp only [zp0, zp1, zp2, zp3]
      clear kc hX5 ec eb hD hR hE hsl hpz
      have e1 : w5.cell? ⟨p, 1, none⟩ = some (.int .u64 (t.toNat : Int)) := hR5.out.1 1 (by decide)
      have sh := shr_nat t k
      have sh2 : (t.toNat : Int) / 2 ^ k = ((t >>> k).toNat : Int) := by
        rw [← sh, Nat.min_eq_left (by omega)]
      clear sh
      have an := and_one (t >>> k)
      have hun : Hid (∀ l f, unF t k l f = if tnB t k = true ∧ 0 < l then (fun j => if j = 0 then f 0 &&& 127#8 else f j) else f) := fun _ _ => rfl
      have htn : Hid (tnB t k = decide ((t >>> k) &&& 1#64 = 1#64)) := rfl
      generalize t >>> k = sk at *
      generalize sk &&& 1#64 = ya at *
      by_cases hq : ya = 1#64
      · have q1 : (ya.toNat : Int) = 1 := by rw [hq]; rfl
        by_cases hl0 : 0 < ls k
        · have l0 : (0 : Int) < (ls k : Int) := by omega
          obtain ⟨b, cp, hbe, hb, _, _, hRb⟩ := hU5.out.lies hl0
          injection hbe with hb1 _ hb2
          subst hb1
          subst hb2
          have ec := hRb.1 0 hl0
          have ez := hRb.2.1 0 hl0
          have hno := not128 (fs k 0)
          have hbt := but_setCell w5 b 0 (.int .u8 ((fs k 0 &&& 127#8).toNat : Int))
          have hU : Hid (OwnB (p + 1) 5 (.slice (some ⟨b, 0, none⟩) (ls k) vc) (ls k) (yv (unF t k (ls k) (fs k))) (w5.setCell ⟨b, 0, none⟩ (.int .u8 ((fs k 0 &&& 127#8).toNat : Int)))) := (hU5.out.set (b := b) rfl 0 hl0 (.int .u8 ((fs k 0 &&& 127#8).toNat : Int))).congr fun j hj => by
            rw [hun.out, if_pos (show tnB t k = true ∧ 0 < ls k from ⟨by rw [htn.out]; exact decide_eq_true hq, hl0⟩)]
            by_cases e : j = 0
            · rw [if_pos e]
              unfold yv
              simp only [if_pos e]
            · rw [if_neg e]
              unfold yv
              simp only [if_neg e]
          have hD : Hid (RDs (p + 1) (.slice svo k svc) k bs us' ls (fun i => unF t i (ls i) (fs i)) (w5.setCell ⟨b, 0, none⟩ (.int .u8 ((fs k 0 &&& 127#8).toNat : Int)))) := ⟨hD5.out.own.but hbt (hne.out b rfl), fun i hi => ⟨(hD5.out.byt i hi).1.but hbt fun e => hfr.out i hi b e rfl, (hD5.out.byt i hi).2⟩⟩
          have hR : Hid (RowAt p 3 (plV x t (.slice (some a) n cap)) (w5.setCell ⟨b, 0, none⟩ (.int .u8 ((fs k 0 &&& 127#8).toNat : Int)))) := hR5.out.but hbt fun e => hup.out b rfl e.symm
          have hE : Hid (Ext w (w5.setCell ⟨b, 0, none⟩ (.int .u8 ((fs k 0 &&& 127#8).toNat : Int)))) := Below.trans hE5.out (But.below hbt (by have := hpw.out; omega) (Below.size hE5.out))
          have hsz : Hid (p + 1 ≤ (w5.setCell ⟨b, 0, none⟩ (.int .u8 ((fs k 0 &&& 127#8).toNat : Int))).heap.size) := Nat.le_trans hz5.out hbt.size
          have l9 : ¬ ls k = 0 := by omega
          rw [show yv (fs k) 0 = .int .u8 ((fs k 0).toNat : Int) from rfl] at ec
          clear hun htn hU5 hD5 hR5 hE5 hz5 hup hfr hRb hbt hb
          generalize fs k 0 = f0 at *
          generalize f0 &&& 127#8 = f9 at *
          go_upto_region 6 with (fail)
          refine wp_region_lit ?_
          refine wpList_run rfl (.pointer (some ⟨p, 1, none⟩)) (by simp [go_sem]) ?_
          simp only [zp0, zp1, zp2, zp3]
          refine wpList_run rfl (.int .u64 (t.toNat : Int)) (by simp [go_sem, e1]) ?_
          simp only [zp0, zp1, zp2, zp3]
          refine wpList_run rfl (.int .i64 (k : Int)) (by simp [go_sem]) ?_
          simp only [zp0, zp1, zp2, zp3]
          refine wpList_run rfl (.int .u64 (sk.toNat : Int)) (by simp [go_sem, sh2]) ?_
          simp only [zp0, zp1, zp2, zp3]
          refine wpList_run rfl (.int .u64 (ya.toNat : Int)) (by simp [go_sem, an]) ?_
          simp only [zp0, zp1, zp2, zp3]
          refine wpList_run rfl (.bool true) (by simp [go_sem, q1]) ?_
          simp only [zp0, zp1, zp2, zp3]
          refine wpList_run rfl (.bool true) (by simp [go_sem]) ?_
          simp only [zp0, zp1, zp2, zp3]
          refine wpList_runW rfl (.slice (some ⟨b, 0, none⟩) (ls k) vc) (by simp [go_sem]) ?_
          simp only [zp0, zp1, zp2, zp3]
          refine wpList_runW rfl (.int .i64 (ls k : Int)) (by simp [go_sem]) ?_
          simp only [zp0, zp1, zp2, zp3]
          refine wpList_runW rfl (.bool true) (by simp [go_sem, hl0]) ?_
          simp only [zp0, zp1, zp2, zp3]
          refine wpList_run rfl (.bool true) (by simp [go_sem]) ?_
          simp only [zp0, zp1, zp2, zp3]
          clear e1 sh2 an q1
          go_upto_region 7 with (fail)
          refine wp_region_lit ?_
          refine wpList_run rfl (.slice (some ⟨b, 0, none⟩) (ls k) vc) (by simp [go_sem]) ?_
          simp only [zp0, zp1, zp2, zp3]
          refine wpList_run rfl (.pointer (some ⟨b, 0, none⟩)) (by simp [go_sem, l9]) ?_
          simp only [zp0, zp1, zp2, zp3]
          refine wpList_run rfl (.int .u8 (f0.toNat : Int)) (by simp [go_sem, ec]) ?_
          simp only [zp0, zp1, zp2, zp3]
          refine wpList_run rfl (.int .u8 (f9.toNat : Int)) (by simp [go_sem, hno]) ?_
          simp only [zp0, zp1, zp2, zp3]
          refine wpList_run rfl (.pointer (some ⟨b, 0, none⟩)) (by simp [go_sem, l9]) ?_
          simp only [zp0, zp1, zp2, zp3]
          refine wpList_st9 rfl (w5.setCell ⟨b, 0, none⟩ (.int .u8 (f9.toNat : Int))) (by simp [go_sem, ec, ez]) ?_
          simp only [Act.put]
          clear ec ez hno l9 l0
          generalize w5.setCell ⟨b, 0, none⟩ (.int .u8 (f9.toNat : Int)) = w6 at *
          obtain ⟨v9, w9, happ, hD9, hB9, hg9⟩ := hD.out.app (hsz.out) (by omega) hU.out hne.out 22
          have hR9 := hideit (hR.out.grown hg9 fun e => hpn.out e.symm)
          have hpn9 : Hid (v9.ownBlock ≠ some p) := fun e => by
            have := (hD9.own.lt p e).1
            omega
          have hE9 : Hid (Ext w w9) := Below.trans hE.out (Below.mono hB9 (Nat.le_succ_of_le hpw.out))
          replace hD9 := hideit hD9
          obtain ⟨v9o, v9c, rfl⟩ := hD9.out.form
          clear hD hU hne hR hE hg9 hB9 hsz
          go_upto_region 8 with (fail)
          refine wp_region_lit ?_
          refine wpList_run rfl (.slice svo k svc) (by simp [go_sem]) ?_
          simp only [zp0, zp1, zp2, zp3]
          refine wpList_run rfl (.int .i64 (bs k)) (by simp [go_sem]) ?_
          simp only [zp0, zp1, zp2, zp3]
          refine wpList_run rfl (.slice (some ⟨b, 0, none⟩) (ls k) vc) (by simp [go_sem]) ?_
          simp only [zp0, zp1, zp2, zp3]
          refine wpList_run rfl (.agg #[.int .i64 (bs k), .slice (some ⟨b, 0, none⟩) (ls k) vc]) (by simp [go_sem]) ?_
          simp only [zp0, zp1, zp2, zp3]
          refine wpList_to rfl (.slice (some ⟨w6.heap.size, 0, none⟩) 1 1) (w6.alloc (.cells #[.int .i64 (bs k), .slice (some ⟨b, 0, none⟩) (ls k) vc] 47)) (by simp [go_sem]) ?_
          simp only [zp0, zp1, zp2, zp3]
          refine wpList_to rfl (.slice v9o (k + 1) v9c) w9 (exec_app (.tmp 38) (.tmp 42) rfl rfl rfl happ) ?_
          simp only [zp0, zp1, zp2, zp3]
          refine wpList_run rfl (.slice v9o (k + 1) v9c) (by simp [go_sem]) ?_
          simp only [zp0, zp1, zp2, zp3]
          clear happ
          go_wp2
          exact ⟨⟨k + 1, _, by omega, by go_num, hD9.out, hR9.out, hE9.out⟩, by simp [intOf]; omega⟩
        · have lz : ls k = 0 := by omega
          have hU : Hid (OwnB (p + 1) 5 (.slice vo (ls k) vc) (ls k) (yv (unF t k (ls k) (fs k))) w5) := by
            rw [hun.out, if_neg fun h => hl0 h.2]
            exact hU5
          go_upto_region 6 with (fail)
          refine wp_region_lit ?_
          refine wpList_run rfl (.pointer (some ⟨p, 1, none⟩)) (by simp [go_sem]) ?_
          simp only [zp0, zp1, zp2, zp3]
          refine wpList_run rfl (.int .u64 (t.toNat : Int)) (by simp [go_sem, e1]) ?_
          simp only [zp0, zp1, zp2, zp3]
          refine wpList_run rfl (.int .i64 (k : Int)) (by simp [go_sem]) ?_
          simp only [zp0, zp1, zp2, zp3]
          refine wpList_run rfl (.int .u64 (sk.toNat : Int)) (by simp [go_sem, sh2]) ?_
          simp only [zp0, zp1, zp2, zp3]
          refine wpList_run rfl (.int .u64 (ya.toNat : Int)) (by simp [go_sem, an]) ?_
          simp only [zp0, zp1, zp2, zp3]
          refine wpList_run rfl (.bool true) (by simp [go_sem, q1]) ?_
          simp only [zp0, zp1, zp2, zp3]
          refine wpList_run rfl (.bool true) (by simp [go_sem]) ?_
          simp only [zp0, zp1, zp2, zp3]
          refine wpList_runW rfl (.slice vo (ls k) vc) (by simp [go_sem]) ?_
          simp only [zp0, zp1, zp2, zp3]
          refine wpList_runW rfl (.int .i64 (ls k : Int)) (by simp [go_sem]) ?_
          simp only [zp0, zp1, zp2, zp3]
          refine wpList_runW rfl (.bool false) (by simp [go_sem, lz]) ?_
          simp only [zp0, zp1, zp2, zp3]
          refine wpList_run rfl (.bool false) (by simp [go_sem]) ?_
          simp only [zp0, zp1, zp2, zp3]
          clear e1 sh2 an hun htn hU5 q1 lz hup hfr
          have hD := hD5
          have hR := hR5
          have hE := hE5
          have hsz := hz5
          clear hD5 hR5 hE5 hz5
          obtain ⟨v9, w9, happ, hD9, hB9, hg9⟩ := hD.out.app (hsz.out) (by omega) hU.out hne.out 22
          have hR9 := hideit (hR.out.grown hg9 fun e => hpn.out e.symm)
          have hpn9 : Hid (v9.ownBlock ≠ some p) := fun e => by
            have := (hD9.own.lt p e).1
            omega
          have hE9 : Hid (Ext w w9) := Below.trans hE.out (Below.mono hB9 (Nat.le_succ_of_le hpw.out))
          replace hD9 := hideit hD9
          obtain ⟨v9o, v9c, rfl⟩ := hD9.out.form
          clear hD hU hne hR hE hg9 hB9 hsz
          go_upto_region 8 with (fail)
          refine wp_region_lit ?_
          refine wpList_run rfl (.slice svo k svc) (by simp [go_sem]) ?_
          simp only [zp0, zp1, zp2, zp3]
          refine wpList_run rfl (.int .i64 (bs k)) (by simp [go_sem]) ?_
          simp only [zp0, zp1, zp2, zp3]
          refine wpList_run rfl (.slice vo (ls k) vc) (by simp [go_sem]) ?_
          simp only [zp0, zp1, zp2, zp3]
          refine wpList_run rfl (.agg #[.int .i64 (bs k), .slice vo (ls k) vc]) (by simp [go_sem]) ?_
          simp only [zp0, zp1, zp2, zp3]
          refine wpList_to rfl (.slice (some ⟨w5.heap.size, 0, none⟩) 1 1) (w5.alloc (.cells #[.int .i64 (bs k), .slice vo (ls k) vc] 47)) (by simp [go_sem]) ?_
          simp only [zp0, zp1, zp2, zp3]
          refine wpList_to rfl (.slice v9o (k + 1) v9c) w9 (exec_app (.tmp 38) (.tmp 42) rfl rfl rfl happ) ?_
          simp only [zp0, zp1, zp2, zp3]
          refine wpList_run rfl (.slice v9o (k + 1) v9c) (by simp [go_sem]) ?_
          simp only [zp0, zp1, zp2, zp3]
          clear happ
          go_wp2
          exact ⟨⟨k + 1, _, by omega, by go_num, hD9.out, hR9.out, hE9.out⟩, by simp [intOf]; omega⟩
      · have q1 : ¬ (ya.toNat : Int) = 1 := fun h => hq (BitVec.eq_of_toNat_eq (by show ya.toNat = 1; omega))
        have hU : Hid (OwnB (p + 1) 5 (.slice vo (ls k) vc) (ls k) (yv (unF t k (ls k) (fs k))) w5) := by
          rw [hun.out, if_neg fun h => hq (of_decide_eq_true (htn.out ▸ h.1))]
          exact hU5
        go_upto_region 6 with (fail)
        refine wp_region_lit ?_
        refine wpList_run rfl (.pointer (some ⟨p, 1, none⟩)) (by simp [go_sem]) ?_
        simp only [zp0, zp1, zp2, zp3]
        refine wpList_run rfl (.int .u64 (t.toNat : Int)) (by simp [go_sem, e1]) ?_
        simp only [zp0, zp1, zp2, zp3]
        refine wpList_run rfl (.int .i64 (k : Int)) (by simp [go_sem]) ?_
        simp only [zp0, zp1, zp2, zp3]
        refine wpList_run rfl (.int .u64 (sk.toNat : Int)) (by simp [go_sem, sh2]) ?_
        simp only [zp0, zp1, zp2, zp3]
        refine wpList_run rfl (.int .u64 (ya.toNat : Int)) (by simp [go_sem, an]) ?_
        simp only [zp0, zp1, zp2, zp3]
        refine wpList_run rfl (.bool false) (by simp [go_sem, q1]) ?_
        simp only [zp0, zp1, zp2, zp3]
        refine wpList_run rfl (.bool false) (by simp [go_sem]) ?_
        simp only [zp0, zp1, zp2, zp3]
        refine wpList_skip rfl ?_
        simp only [zp0, zp1, zp2, zp3]
        refine wpList_skip rfl ?_
        simp only [zp0, zp1, zp2, zp3]
        refine wpList_skip rfl ?_
        simp only [zp0, zp1, zp2, zp3]
        refine wpList_run rfl (.bool false) (by simp [go_sem]) ?_
        simp only [zp0, zp1, zp2, zp3]
        clear e1 sh2 an hun htn hU5 q1 hup hfr
        have hD := hD5
        have hR := hR5
        have hE := hE5
        have hsz := hz5
        clear hD5 hR5 hE5 hz5
        obtain ⟨v9, w9, happ, hD9, hB9, hg9⟩ := hD.out.app (hsz.out) (by omega) hU.out hne.out 22
        have hR9 := hideit (hR.out.grown hg9 fun e => hpn.out e.symm)
        have hpn9 : Hid (v9.ownBlock ≠ some p) := fun e => by
          have := (hD9.own.lt p e).1
          omega
        have hE9 : Hid (Ext w w9) := Below.trans hE.out (Below.mono hB9 (Nat.le_succ_of_le hpw.out))
        replace hD9 := hideit hD9
        obtain ⟨v9o, v9c, rfl⟩ := hD9.out.form
        clear hD hU hne hR hE hg9 hB9 hsz
        go_upto_region 8 with (fail)
        refine wp_region_lit ?_
        refine wpList_run rfl (.slice svo k svc) (by simp [go_sem]) ?_
        simp only [zp0, zp1, zp2, zp3]
        refine wpList_run rfl (.int .i64 (bs k)) (by simp [go_sem]) ?_
        simp only [zp0, zp1, zp2, zp3]
        refine wpList_run rfl (.slice vo (ls k) vc) (by simp [go_sem]) ?_
        simp only [zp0, zp1, zp2, zp3]
        refine wpList_run rfl (.agg #[.int .i64 (bs k), .slice vo (ls k) vc]) (by simp [go_sem]) ?_
        simp only [zp0, zp1, zp2, zp3]
        refine wpList_to rfl (.slice (some ⟨w5.heap.size, 0, none⟩) 1 1) (w5.alloc (.cells #[.int .i64 (bs k), .slice vo (ls k) vc] 47)) (by simp [go_sem]) ?_
        simp only [zp0, zp1, zp2, zp3]
        refine wpList_to rfl (.slice v9o (k + 1) v9c) w9 (exec_app (.tmp 38) (.tmp 42) rfl rfl rfl happ) ?_
        simp only [zp0, zp1, zp2, zp3]
        refine wpList_run rfl (.slice v9o (k + 1) v9c) (by simp [go_sem]) ?_
        simp only [zp0, zp1, zp2, zp3]
        clear happ
        go_wp2
        exact ⟨⟨k + 1, _, by omega, by go_num, hD9.out, hR9.out, hE9.out⟩, by simp [intOf]; omega⟩
    · obtain rfl : k = n := by omega
      have k1 : ¬ (k : Int) < (k : Int) := by omega
      replace hD := hideit hD
      replace hR := hideit hR
      replace hE := hideit hE
      clear hsl
      go_wp2
      go_ret
      exact req_mk _ us' rfl ⟨hD.out.own.down2 (by have := hpw.out; omega), fun i hi => ⟨(hD.out.byt i hi).1.down (by have := hpw.out; omega), (hD.out.byt i hi).2⟩⟩ hE.out
end Go.Proofs.YtiakkclabgelfaaDoor
