/-
  The steps that write blocks one behind the other. Blocks written one behind the other.
-/
import Derived.Test.YtiakkclabgelfaaDoorQc1
import Derived.Test.YtiakkclabgelfaaDoorQc41
import Derived.Maps.AppendAt
namespace Go.Proofs.YtiakkclabgelfaaDoor
open Go.RowKit Go.BigFrame Go.Maps
set_option linter.unusedVariables false
set_option maxRecDepth 20000
def two (a b : Nat) : Nat → Nat
  | 0 => a
  | _ + 1 => b
def clV (zz : Nat → Nat) (i : Nat) : Value := .func (.func 49) #[] #[.pointer (some ⟨zz 0, 0, none⟩), .pointer (some ⟨zz 1, 0, none⟩), .pointer (some ⟨zz (2 + 2 * i), 0, none⟩), .pointer (some ⟨zz (3 + 2 * i), 0, none⟩)]
structure FL (B : Nat) (v : Value) (k n : Nat) (zz : Nat → Nat) (vv : Nat → Value) (c : Nat) (X : World) : Prop where
  own : OwnB B 28 v k (clV zz) X
  rows : ∀ q, q < n → RowAt (zz q) 1 (fun _ => vv q) X ∧ B ≤ zz q ∧ v.ownBlock ≠ some (zz q) ∧ zz q ≠ c
  inj : ∀ q q', q < n → q' < n → zz q = zz q' → q = q'
  cv : v.ownBlock ≠ some c
theorem elem81 : ElemB Tryd.prog 81 28 8 := elem_b Tryd.underlying81 (by kernel_rfl) (by kernel_rfl) (by kernel_rfl)
theorem clV_congr {zz zz' : Nat → Nat} {n k i : Nat} (h : ∀ q, q < n → zz q = zz' q) (hn : 2 * k + 2 ≤ n) (hi : i < k) : clV zz i = clV zz' i := by
  unfold clV
  rw [h 0 (by omega), h 1 (by omega), h (2 + 2 * i) (by omega), h (3 + 2 * i) (by omega)]
section
variable {B : Nat} {v : Value} {k n : Nat} {zz : Nat → Nat} {vv vv' : Nat → Value} {c : Nat} {X Y : World}
theorem FL.ext (h : FL B v k n zz vv c X) (e : Ext X Y) : FL B v k n zz vv c Y := ⟨h.own.ext e, fun q hq => ⟨(h.rows q hq).1.carry e, (h.rows q hq).2⟩, h.inj, h.cv⟩
theorem FL.congr (h : FL B v k n zz vv c X) (e : ∀ q, q < n → vv q = vv' q) : FL B v k n zz vv' c X := ⟨h.own, fun q hq => (by rw [← e q hq]; exact h.rows q hq), h.inj, h.cv⟩
theorem FL.form (h : FL B v k n zz vv c X) : ∃ o cp, v = .slice o k cp := by
  rcases h.own.2 with ⟨h1, h2⟩ | ⟨g, cap, cur, h1, _⟩
  · exact ⟨none, 0, by rw [h1, h2]⟩
  · exact ⟨_, cap, h1⟩
theorem FL.add (h : FL B v k n zz vv c X) (u : Value) (t : TypeId) (hk : 2 * k + 2 ≤ n) (hB : B ≤ X.heap.size) (hc : c < X.heap.size) : FL B v k (n + 1) (up1 zz n X.heap.size) (up1 vv n u) c (X.alloc (.cells #[u] t)) := by
  have hX : Ext X (X.alloc (.cells #[u] t)) := (Below.refl _ _).alloc (Nat.le_refl _) _
  have hlt : ∀ q, q < n → zz q < X.heap.size := fun q hq => (h.rows q hq).1.2.2
  refine ⟨(h.own.ext hX).congr fun j hj => clV_congr (n := n) (fun q hq => (up1_other _ (by omega) _).symm) hk hj, fun q hq => ?_, fun q q' hq hq' e => ?_, h.cv⟩
  · by_cases e : q = n
    · subst e
      rw [up1_same, up1_same]
      exact ⟨row1_new X u t, hB, fun q => by have := (h.own.lt _ q).2; omega, by omega⟩
    · rw [up1_other _ e, up1_other _ e]
      have := h.rows q (by omega)
      exact ⟨this.1.carry hX, this.2⟩
  · by_cases e1 : q = n
    · by_cases e2 : q' = n
      · omega
      · rw [e1, up1_same, up1_other _ e2] at e
        have := hlt q' (by omega)
        omega
    · by_cases e2 : q' = n
      · rw [e2, up1_same, up1_other _ e1] at e
        have := hlt q (by omega)
        omega
      · rw [up1_other _ e1, up1_other _ e2] at e
        exact h.inj q q' (by omega) (by omega) e
theorem FL.set (h : FL B v k n zz vv c X) (q : Nat) (hq : q < n) (u : Value) : FL B v k n zz (up1 vv q u) c (X.setCell ⟨zz q, 0, none⟩ u) := by
  refine ⟨h.own.other ⟨zz q, 0, none⟩ (h.rows q hq).2.2.1 u, fun q' hq' => ?_, h.inj, h.cv⟩
  by_cases e : q' = q
  · subst e
    rw [up1_same]
    refine ⟨((h.rows q' hq').1.set 0 u).congr fun j hj => ?_, (h.rows q' hq').2⟩
    rw [if_pos (by omega)]
  · rw [up1_other _ e]
    exact ⟨(h.rows q' hq').1.other ⟨zz q, 0, none⟩ u (fun z => e (h.inj q' q hq' hq z.symm)), (h.rows q' hq').2⟩
theorem FL.setC (h : FL B v k n zz vv c X) (u : Value) : FL B v k n zz vv c (X.setCell ⟨c, 0, none⟩ u) :=
  ⟨h.own.other ⟨c, 0, none⟩ h.cv u, fun q hq => ⟨(h.rows q hq).1.other ⟨c, 0, none⟩ u (fun z => (h.rows q hq).2.2.2 z.symm), (h.rows q hq).2⟩, h.inj, h.cv⟩
theorem FL.app (h : FL B v k n zz vv c X) (hk : k ≤ 1000) (hB : B ≤ X.heap.size) (hc : c < X.heap.size) (ty : TypeId) :
    ∃ v' Y, (Builtin.append_ #[81, 81] ty #[v, .slice (some ⟨X.heap.size, 0, none⟩) 1 1]).run Tryd.prog (X.alloc (.cells #[clV zz k] 28)) = .ok v' Y ∧ FL B v' (k + 1) n zz vv c Y ∧ Below B X Y ∧ (∀ b, b < X.heap.size → v.ownBlock ≠ some b → Y.heap[b]? = X.heap[b]?) := by
  have hX1 : Ext X (X.alloc (.cells #[clV zz k] 28)) := (Below.refl _ _).alloc (Nat.le_refl _) _
  have hr := row1_new X (clV zz k) 28
  have h1 := h.ext hX1
  have hlt : ∀ q, q < n → zz q < X.heap.size := fun q hq => (h.rows q hq).1.2.2
  have hs1 : (X.alloc (.cells #[clV zz k] 28)).heap.size = X.heap.size + 1 := by simp
  generalize X.alloc (.cells #[clV zz k] 28) = X1 at *
  obtain ⟨i, zv, e1, e2, e3, e4, e5⟩ := elem81.info
  obtain ⟨v', Y, a1, a2, a3, _, a5⟩ := run_append_own_at (P := Tryd.prog) X1 B 81 ty 28 i zv 1 8 elem81.slice e1 e2 e3 e4 e5 (by decide) v k (row k (clV zz)) h1.own ⟨X.heap.size, 0, none⟩ 1 1 [clV zz k] rfl (fun j x hj => by
    cases j with
    | zero => simp at hj; subst hj; exact hr.1 0 (by decide)
    | succ j => simp at hj) (fun x hx => by simp at hx; subst hx; rfl) (by unfold maxLen; omega) (by omega) (by omega)
  have hown : ∀ z, z < X.heap.size → v.ownBlock ≠ some z → v'.ownBlock ≠ some z := fun z hz hn e => by
    rcases a5 with q | q
    · exact hn (q ▸ e)
    · rw [q] at e
      injection e with e
      omega
  refine ⟨v', Y, a1, ⟨?_, fun q hq => ?_, h.inj, hown c hc h.cv⟩, Below.trans (Below.mono hX1 hB) (below_grown (by omega) a3 fun q hq => (h1.own.lt q hq).1), fun b hb hn => (a3.block b (by omega) fun e => hn e.symm).trans (Below.block hX1 b hb)⟩
  · unfold OwnB
    rw [show row (k + 1) (clV zz) = row k (clV zz) ++ [clV zz k] from ?_]
    · exact a2
    · rw [← row_append k 1 (clV zz) (fun _ => clV zz k) _ (fun j hj => rfl) (fun j hj => by rw [show k + j = k by omega])]
      rfl
  · obtain ⟨p1, p2, p3, p4⟩ := h1.rows q hq
    exact ⟨⟨fun j hj => (World.cell?_of_block (a := ⟨zz q, j, none⟩) (a3.block _ p1.2.2 fun e => p3 e.symm)).trans (p1.1 j hj), fun j hj => (World.frozen?_of_block (a := ⟨zz q, j, none⟩) (a3.block _ p1.2.2 fun e => p3 e.symm)).trans (p1.2.1 j hj), Nat.lt_of_lt_of_le p1.2.2 a3.size⟩, p2, hown _ (hlt q hq) p3, p4⟩
end
def cpV (p : Nat) (at_ : Int) (us : Nat → Value) (q : Nat) : Value := if q = 0 then .pointer (some ⟨p, 0, none⟩) else if q = 1 then .int .i64 at_ else if q % 2 = 0 then .int .i64 (((q - 2) / 2 : Nat) : Int) else us ((q - 3) / 2)
set_option maxRecDepth 20000 in
set_option maxHeartbeats 4000000 in
theorem writing_any (p m cp : Nat) (at_ : Int) (a : Addr) (us : Nat → Value) (w : World) (hm : m ≤ 1000) (hus : ∀ q, q < m → ∃ o l c, us q = .slice o l c) (hL : ∀ q, q < m → w.cell? (a.add q) = some (us q)) : Calls Tryd.prog 26 #[.pointer (some ⟨p, 0, none⟩), .int .i64 at_, .slice (some a) m cp] w fun e w' => ∃ (c : Nat) (v : Value) (zz : Nat → Nat), e = .returned (.func (.func 51) #[] #[.pointer (some ⟨c, 0, none⟩)]) ∧ RowAt c 1 (fun _ => v) w' ∧ w.heap.size ≤ c ∧ FL w.heap.size v m (2 * m + 2) zz (cpV p at_ us) c w' ∧ Ext w w' := by
  have hE := hideit (Ext.refl w)
  go_enter Tryd.func26, Tryd.ntmps26
  go_upto_region 0 with (fail)
  refine wp_region_lit ?_
  have Rz1 := hideit (row1_new w (.pointer (some ⟨p, 0, none⟩)) 33)
  have XN : Ext w (w.alloc (.cells #[.pointer (some ⟨p, 0, none⟩)] 33)) := (Below.refl _ _).alloc (Nat.le_refl _) _
  refine wpList_to rfl (.pointer (some ⟨w.heap.size, 0, none⟩)) (w.alloc (.cells #[.pointer (some ⟨p, 0, none⟩)] 33)) (by simp [go_sem]) ?_
  simp only [zp0, zp1, zp2, zp3]
  have hsq := hideit (Below.size hE.out)
  replace hE := hideit (Ext.trans hE.out XN)
  clear XN
  generalize w.alloc (.cells #[.pointer (some ⟨p, 0, none⟩)] 33) = x2 at Rz1  hE ⊢
  obtain ⟨z1, ez1⟩ : ∃ z, z = w.heap.size := ⟨_, rfl⟩
  have hsz1 : Hid (w.heap.size ≤ z1) := by rw [ez1]; exact hsq.out
  clear hsq
  rw [← ez1] at Rz1 ⊢
  have lz1 : Hid (z1 < x2.heap.size) := Rz1.out.2.2
  clear ez1
  have Rz3 := hideit (row1_new x2 (.int .i64 (at_)) 3)
  have XN : Ext x2 (x2.alloc (.cells #[.int .i64 (at_)] 3)) := (Below.refl _ _).alloc (Nat.le_refl _) _
  refine wpList_to rfl (.pointer (some ⟨x2.heap.size, 0, none⟩)) (x2.alloc (.cells #[.int .i64 (at_)] 3)) (by simp [go_sem]) ?_
  simp only [zp0, zp1, zp2, zp3]
  replace Rz1 := hideit (Rz1.out.carry XN)
  have hsq := hideit (Below.size hE.out)
  replace hE := hideit (Ext.trans hE.out XN)
  clear XN
  generalize x2.alloc (.cells #[.int .i64 (at_)] 3) = x4 at Rz3 Rz1 hE ⊢
  obtain ⟨z3, ez3⟩ : ∃ z, z = x2.heap.size := ⟨_, rfl⟩
  have hsz3 : Hid (w.heap.size ≤ z3) := by rw [ez3]; exact hsq.out
  clear hsq
  rw [← ez3] at Rz3 ⊢
  have nRz1z3 : Hid (z1 ≠ z3) := by have := lz1.out; rw [ez3]; exact Nat.ne_of_lt this
  have lz3 : Hid (z3 < x4.heap.size) := Rz3.out.2.2
  replace lz1 : Hid (z1 < x4.heap.size) := Rz1.out.2.2
  clear ez3
  refine xm [some (Value.nilFunc)] (by kernel_rfl) (by simp [xr, go_sem]) ?_
  simp only [xw, p0, p1, p2, p3]
  go_upto_region 1 with (fail)
  refine wp_region_lit ?_
  have Rz5 := hideit (row1_new x4 (.slice none 0 0) 81)
  have XN : Ext x4 (x4.alloc (.cells #[.slice none 0 0] 81)) := (Below.refl _ _).alloc (Nat.le_refl _) _
  refine wpList_to rfl (.pointer (some ⟨x4.heap.size, 0, none⟩)) (x4.alloc (.cells #[.slice none 0 0] 81)) (by simp [go_sem]) ?_
  simp only [zp0, zp1, zp2, zp3]
  replace Rz1 := hideit (Rz1.out.carry XN)
  replace Rz3 := hideit (Rz3.out.carry XN)
  have hsq := hideit (Below.size hE.out)
  replace hE := hideit (Ext.trans hE.out XN)
  clear XN
  generalize x4.alloc (.cells #[.slice none 0 0] 81) = x6 at Rz5 Rz1 Rz3 hE ⊢
  obtain ⟨z5, ez5⟩ : ∃ z, z = x4.heap.size := ⟨_, rfl⟩
  have hsz5 : Hid (w.heap.size ≤ z5) := by rw [ez5]; exact hsq.out
  clear hsq
  rw [← ez5] at Rz5 ⊢
  have nRz1z5 : Hid (z1 ≠ z5) := by have := lz1.out; rw [ez5]; exact Nat.ne_of_lt this
  have nRz3z5 : Hid (z3 ≠ z5) := by have := lz3.out; rw [ez5]; exact Nat.ne_of_lt this
  have lz5 : Hid (z5 < x6.heap.size) := Rz5.out.2.2
  replace lz1 : Hid (z1 < x6.heap.size) := Rz1.out.2.2
  replace lz3 : Hid (z3 < x6.heap.size) := Rz3.out.2.2
  clear ez5
  go_upto_region 2 with (fail)
  refine wp_region_lit ?_
  refine xm [some (.slice (some a) m cp), some (.int .i64 (m : Int)), some (.int .i64 0)] (by kernel_rfl) (by simp [xr, go_sem]) ?_
  simp only [xw, p0, p1, p2, p3]
  have hF : Hid (FL w.heap.size (.slice none 0 0) 0 2 (two z1 z3) (cpV p at_ us) z5 x6) := ⟨own_nil _ _ _ _, fun q hq => by
    rcases (by omega : q = 0 ∨ q = 1) with rfl | rfl
    · exact ⟨Rz1.out, hsz1.out, (fun e => by cases e), nRz1z5.out⟩
    · exact ⟨Rz3.out, hsz3.out, (fun e => by cases e), nRz3z5.out⟩, fun q q' hq hq' e => by
    have hn := nRz1z3.out
    rcases (by omega : q = 0 ∨ q = 1) with rfl | rfl <;> rcases (by omega : q' = 0 ∨ q' = 1) with rfl | rfl
    · rfl
    · exact absurd e hn
    · exact absurd e.symm hn
    · rfl, fun e => by cases e⟩
  go_upto_region 3 with (fail)
  go_loopw [12] (fun t X => ∃ (k : Nat) (v : Value) (zz : Nat → Nat), k ≤ m ∧ t = .int .i64 (k : Int) ∧ FL w.heap.size v k (2 * k + 2) zz (cpV p at_ us) z5 X ∧ zz 0 = z1 ∧ zz 1 = z3 ∧ RowAt z5 1 (fun _ => v) X ∧ Ext w X) (fun t _ => 2000 - (intOf t).toNat)
  case atStart => exact ⟨0, _, _, Nat.zero_le _, rfl, hF.out, rfl, rfl, Rz5.out, hE.out⟩
  case round =>
    clear hF Rz5 Rz1 Rz3 hE lz1 lz3 lz5 nRz1z3 nRz1z5 nRz3z5
    obtain ⟨U, hU⟩ : ∃ U, U = wr := ⟨_, rfl⟩
    rw [← hU] at hrel ⊢
    clear hU
    obtain ⟨k, v, zz, hk, rfl, hF, hz0, hz1, hc, hE⟩ := hrel
    replace hF := hideit hF
    replace hc := hideit hc
    replace hE := hideit hE
    replace hz0 := hideit hz0
    replace hz1 := hideit hz1
    by_cases hlt : k < m
    · have k1 : (k : Int) < (m : Int) := by omega
      have ek : IntKind.i64.wrap ((k : Int) + 1) = ((k + 1 : Nat) : Int) := by rw [IntKind.wrap_i64]; omega
      have cl := cell_ext' hE.out (hL k hlt)
      obtain ⟨uo, ul, uc, hu⟩ := hus k hlt
      rw [hu] at cl
      replace hu := hideit hu
      replace ek := hideit ek
      replace k1 := hideit k1
      go_upto_region 3 with (fail)
      refine wp_region_lit ?_
      refine xm [some (.bool true)] (by kernel_rfl) (by simp [xr, go_sem, k1.out]) ?_
      simp only [xw, p0, p1, p2, p3]
      go_upto_region 4 with (fail)
      refine wp_region_lit ?_
      refine xm [some (.int .i64 (k : Int)), some (.pointer (some (a.add k))), some (.slice uo ul uc)] (by kernel_rfl) (by simp [xr, go_sem, hlt, cl]) ?_
      simp only [xw, p0, p1, p2, p3]
      have F9 := hideit (hF.out.add (.int .i64 0) 3 (by omega) (Below.size hE.out) hc.out.2.2)
      have XN : Ext U (U.alloc (.cells #[.int .i64 0] 3)) := (Below.refl _ _).alloc (Nat.le_refl _) _
      refine wpList_to rfl (.pointer (some ⟨U.heap.size, 0, none⟩)) (U.alloc (.cells #[.int .i64 0] 3)) (by simp [go_sem]) ?_
      simp only [zp0, zp1, zp2, zp3]
      replace hc := hideit (hc.out.carry XN)
      replace hE := hideit (Ext.trans hE.out XN)
      generalize U.alloc (.cells #[.int .i64 0] 3) = x7 at F9 hc hE ⊢
      obtain ⟨zi, ezi⟩ : ∃ z, z = U.heap.size := ⟨_, rfl⟩
      rw [← ezi] at F9 ⊢
      clear ezi XN hF
      have hF := F9
      clear F9
      have F9 := hideit (hF.out.add (.slice none 0 0) 39 (by omega) (Below.size hE.out) hc.out.2.2)
      have XN : Ext x7 (x7.alloc (.cells #[.slice none 0 0] 39)) := (Below.refl _ _).alloc (Nat.le_refl _) _
      refine wpList_to rfl (.pointer (some ⟨x7.heap.size, 0, none⟩)) (x7.alloc (.cells #[.slice none 0 0] 39)) (by simp [go_sem]) ?_
      simp only [zp0, zp1, zp2, zp3]
      replace hc := hideit (hc.out.carry XN)
      replace hE := hideit (Ext.trans hE.out XN)
      generalize x7.alloc (.cells #[.slice none 0 0] 39) = x8 at F9 hc hE ⊢
      obtain ⟨zb, ezb⟩ : ∃ z, z = x7.heap.size := ⟨_, rfl⟩
      rw [← ezb] at F9 ⊢
      clear ezb XN hF
      have hF := F9
      clear F9
      have hq : (up1 (up1 zz (2 * k + 2) zi) (2 * k + 3) zb) (2 * k + 2) = zi := by rw [up1_other _ (by omega), up1_same]
      have F9 := hF.out.set (2 * k + 2) (by omega) (.int .i64 (k : Int))
      rw [hq] at F9
      replace F9 := hideit F9
      have hr := (hF.out.rows (2 * k + 2) (by omega))
      rw [hq] at hr
      have M0 : x8.cell? ⟨zi, 0, none⟩ = some _ := hr.1.1 0 (by decide)
      have M1 : x8.frozen? ⟨zi, 0, none⟩ = false := hr.1.2.1 0 (by decide)
      have N1 := hideit (hc.out.other ⟨zi, 0, none⟩ (.int .i64 (k : Int)) hr.2.2.2)
      have N2 := hideit (hE.out.setCell (p := ⟨zi, 0, none⟩) hr.2.1 (.int .i64 (k : Int)))
      refine xst rfl (x8.setCell ⟨zi, 0, none⟩ (.int .i64 (k : Int))) (by simp [go_sem, M0, M1]) ?_
      simp only [Act.put]
      generalize x8.setCell ⟨zi, 0, none⟩ (.int .i64 (k : Int)) = x9 at F9 N1 N2 ⊢
      clear hF hc hE hr M0 M1 hq
      have hF := F9
      have hc := N1
      have hE := N2
      clear F9 N1 N2
      have hq : (up1 (up1 zz (2 * k + 2) zi) (2 * k + 3) zb) (2 * k + 3) = zb := by rw [up1_same]
      have F9 := hF.out.set (2 * k + 3) (by omega) (.slice uo ul uc)
      rw [hq] at F9
      replace F9 := hideit F9
      have hr := (hF.out.rows (2 * k + 3) (by omega))
      rw [hq] at hr
      have M0 : x9.cell? ⟨zb, 0, none⟩ = some _ := hr.1.1 0 (by decide)
      have M1 : x9.frozen? ⟨zb, 0, none⟩ = false := hr.1.2.1 0 (by decide)
      have N1 := hideit (hc.out.other ⟨zb, 0, none⟩ (.slice uo ul uc) hr.2.2.2)
      have N2 := hideit (hE.out.setCell (p := ⟨zb, 0, none⟩) hr.2.1 (.slice uo ul uc))
      refine xst rfl (x9.setCell ⟨zb, 0, none⟩ (.slice uo ul uc)) (by simp [go_sem, M0, M1]) ?_
      simp only [Act.put]
      generalize x9.setCell ⟨zb, 0, none⟩ (.slice uo ul uc) = x10 at F9 N1 N2 ⊢
      clear hF hc hE hr M0 M1 hq
      have hF := F9
      have hc := N1
      have hE := N2
      clear F9 N1 N2
      obtain ⟨zz', hzz⟩ : ∃ f, f = up1 (up1 zz (2 * k + 2) zi) (2 * k + 3) zb := ⟨_, rfl⟩
      rw [← hzz] at hF
      have e0 : zz' 0 = z1 := by rw [hzz, up1_other _ (by omega), up1_other _ (by omega)]; exact hz0.out
      have e1 : zz' 1 = z3 := by rw [hzz, up1_other _ (by omega), up1_other _ (by omega)]; exact hz1.out
      have e2 : zz' (2 + 2 * k) = zi := by rw [hzz, up1_other _ (by omega), show 2 + 2 * k = 2 * k + 2 by omega, up1_same]
      have e3 : zz' (3 + 2 * k) = zb := by rw [hzz, show 3 + 2 * k = 2 * k + 3 by omega, up1_same]
      have ecl : clV zz' k = .func (.func 49) #[] #[.pointer (some ⟨z1, 0, none⟩), .pointer (some ⟨z3, 0, none⟩), .pointer (some ⟨zi, 0, none⟩), .pointer (some ⟨zb, 0, none⟩)] := by unfold clV; rw [e0, e1, e2, e3]
      replace hF : Hid (FL w.heap.size v k (2 * k + 4) zz' (cpV p at_ us) z5 x10) := hF.out.congr fun q hq => by
        unfold up1 cpV
        by_cases q3 : q = 2 * k + 3
        · rw [if_pos q3, if_neg (by omega), if_neg (by omega), if_neg (by omega), show (q - 3) / 2 = k by omega, hu.out]
        · rw [if_neg q3]
          by_cases q2 : q = 2 * k + 2
          · rw [if_pos q2, if_neg (by omega), if_neg (by omega), if_pos (by omega), show (q - 2) / 2 = k by omega]
          · rw [if_neg q2, if_neg q3, if_neg q2]
      replace e0 := hideit e0
      replace e1 := hideit e1
      clear hzz e2 e3 hz0 hz1 cl
      have hcx := hc.out.1 0 (by decide)
      obtain ⟨v', Y, a1, a2, a3, a4⟩ := hF.out.app (by omega) (Below.size hE.out) hc.out.2.2 81
      rw [ecl] at a1
      have hcY := hideit (show RowAt z5 1 (fun _ => v) Y from ⟨fun j hj => (World.cell?_of_block (a := ⟨z5, j, none⟩) (a4 z5 hc.out.2.2 hF.out.cv)).trans (hc.out.1 j hj), fun j hj => (World.frozen?_of_block (a := ⟨z5, j, none⟩) (a4 z5 hc.out.2.2 hF.out.cv)).trans (hc.out.2.1 j hj), Nat.lt_of_lt_of_le hc.out.2.2 a3.size⟩)
      have hEY := hideit (below_ext hE.out (Nat.le_refl _) a3)
      obtain ⟨vo, vc, rfl⟩ := a2.form
      replace a2 := hideit a2
      clear a3 a4
      go_upto_region 5 with (fail)
      refine wp_region_lit ?_
      refine xm [some (v), some (.func (.func 49) #[] #[.pointer (some ⟨z1, 0, none⟩), .pointer (some ⟨z3, 0, none⟩), .pointer (some ⟨zi, 0, none⟩), .pointer (some ⟨zb, 0, none⟩)])] (by kernel_rfl) (by simp [xr, go_sem, hcx]) ?_
      simp only [xw, p0, p1, p2, p3]
      refine wpList_to rfl (.slice (some ⟨x10.heap.size, 0, none⟩) 1 1) (x10.alloc (.cells #[.func (.func 49) #[] #[.pointer (some ⟨z1, 0, none⟩), .pointer (some ⟨z3, 0, none⟩), .pointer (some ⟨zi, 0, none⟩), .pointer (some ⟨zb, 0, none⟩)]] 28)) (by simp [go_sem]) ?_
      simp only [zp0, zp1, zp2, zp3]
      refine wpList_appN rfl (.tmp 17) (.tmp 19) 81 81 rfl _ _ (.slice vo (k + 1) vc) Y rfl rfl a1 ?_
      simp only [zp0, zp1, zp2, zp3]
      have M0 := hcY.out.1 0 (by decide)
      have M1 := hcY.out.2.1 0 (by decide)
      have N1 : Hid (RowAt z5 1 (fun _ => .slice vo (k + 1) vc) (Y.setCell ⟨z5, 0, none⟩ (.slice vo (k + 1) vc))) := (hcY.out.set 0 (.slice vo (k + 1) vc)).congr fun j hj => if_pos (by omega)
      have N2 := hideit (hEY.out.setCell (p := ⟨z5, 0, none⟩) hsz5.out (.slice vo (k + 1) vc))
      have N3 := hideit (a2.out.setC (.slice vo (k + 1) vc))
      refine xst rfl (Y.setCell ⟨z5, 0, none⟩ (.slice vo (k + 1) vc)) (by simp [go_sem, M0, M1]) ?_
      simp only [Act.put]
      generalize Y.setCell ⟨z5, 0, none⟩ (.slice vo (k + 1) vc) = x9 at N1 N2 N3 ⊢
      clear M0 M1 hcY hEY a2 a1 hcx hc hE hF
      go_upto_region 6 with (fail)
      refine wp_region_lit ?_
      refine xm [some (.int .i64 ((k + 1 : Nat) : Int)), some (.int .i64 ((k + 1 : Nat) : Int))] (by kernel_rfl) (by simp [xr, go_sem, ek.out]) ?_
      simp only [xw, p0, p1, p2, p3]
      go_wp2
      exact ⟨⟨k + 1, _, zz', hlt, rfl, N3.out, e0.out, e1.out, N1.out, N2.out⟩, by simp [intOf]; omega⟩
    · obtain rfl : k = m := by omega
      go_upto_region 3 with (fail)
      refine wp_region_lit ?_
      refine xm [some (.bool false)] (by kernel_rfl) (by simp [xr, go_sem]) ?_
      simp only [xw, p0, p1, p2, p3]
      go_upto_region 7 with (fail)
      refine wp_region_lit ?_
      refine xm [some (.func (.func 51) #[] #[.pointer (some ⟨z5, 0, none⟩)]), some (.func (.func 51) #[] #[.pointer (some ⟨z5, 0, none⟩)])] (by kernel_rfl) (by simp [xr, go_sem]) ?_
      simp only [xw, p0, p1, p2, p3]
      go_wp2
      go_ret
      exact ⟨z5, v, zz, rfl, hc.out, hsz5.out, hF.out, hE.out⟩
end Go.Proofs.YtiakkclabgelfaaDoor
namespace Go.Proofs.YtiakkclabgelfaaDoor
open Go.RowKit Go.BigFrame Go.Maps
set_option linter.unusedVariables false
set_option maxRecDepth 20000
theorem enter49 (args : Array Value) (X : World) : (callFunc 49 args).run Tryd.prog X = .ok (.enter 49 args) X := by simp [go_sem]
theorem enter51 (args : Array Value) (X : World) : (callFunc 51 args).run Tryd.prog X = .ok (.enter 51 args) X := by simp [go_sem]
theorem enter19 (args : Array Value) (X : World) : (callFunc 19 args).run Tryd.prog X = .ok (.enter 19 args) X := by simp [go_sem]
def wrN (D : Nat → Nat → BitVec 8) (at_ : Nat) (f : Nat → Nat → BitVec 8) : Nat → Nat → Nat → BitVec 8
  | 0 => D
  | k + 1 => upN (wrN D at_ f k) (at_ + k) (f k)
theorem wrN_in (D : Nat → Nat → BitVec 8) (at_ : Nat) (f : Nat → Nat → BitVec 8) : ∀ (m i : Nat), i < m → wrN D at_ f m (at_ + i) = f i
  | 0, i, h => absurd h (Nat.not_lt_zero _)
  | m + 1, i, h => by
    show upN (wrN D at_ f m) (at_ + m) (f m) (at_ + i) = f i
    by_cases e : i = m
    · subst e
      exact upN_same _ _ _
    · rw [upN_other _ (by omega)]
      exact wrN_in D at_ f m i (by omega)
theorem wrN_out (D : Nat → Nat → BitVec 8) (at_ : Nat) (f : Nat → Nat → BitVec 8) : ∀ (m n : Nat), (n < at_ ∨ at_ + m ≤ n) → wrN D at_ f m n = D n
  | 0, n, h => rfl
  | m + 1, n, h => by
    show upN (wrN D at_ f m) (at_ + m) (f m) n = D n
    rw [upN_other _ (by omega)]
    exact wrN_out D at_ f m n (by omega)
theorem addr0 (b j : Nat) : (⟨b, 0, none⟩ : Addr).add j = ⟨b, j, none⟩ := by unfold Addr.add; split <;> simp_all
def DK (F : Nat → Prop) (p N : Nat) (A D : Nat → Nat → BitVec 8) (C : Nat) (X W : World) : Prop := ∃ F', DV F' p N A D C W ∧ Keeps F X W ∧ ∀ b, F' b → F b ∨ X.heap.size ≤ b
theorem DK.refl {F : Nat → Prop} {p N C : Nat} {A D : Nat → Nat → BitVec 8} {X : World} (h : DV F p N A D C X) : DK F p N A D C X X := ⟨F, h, Keeps.refl _ _, fun b hb => .inl hb⟩
theorem DK.step {F F' : Nat → Prop} {p N C' : Nat} {A' D' : Nat → Nat → BitVec 8} {X W Y : World} (k : Keeps F X W) (hs : ∀ b, F' b → F b ∨ X.heap.size ≤ b) (h : DK F' p N A' D' C' W Y) : DK F p N A' D' C' X Y := by
  obtain ⟨G, h1, h2, h3⟩ := h
  exact ⟨G, h1, k.trans h2 hs, fun b hb => by
    rcases h3 b hb with q | q
    · exact hs b q
    · exact .inr (Nat.le_trans k.size q)⟩
set_option maxRecDepth 20000 in
set_option maxHeartbeats 4000000 in
theorem wst_any (p z3 z4 zi zb N C at_ k : Nat) (F : Nat → Prop) (A D : Nat → Nat → BitVec 8) (o : Option Addr) (cap : Nat) (f : Nat → BitVec 8) (w : World) (hD : DV F p N A D C w) (h3 : RowAt z3 1 (fun _ => .pointer (some ⟨p, 0, none⟩)) w) (h4 : RowAt z4 1 (fun _ => .int .i64 (at_ : Int)) w) (hi : RowAt zi 1 (fun _ => .int .i64 (k : Int)) w) (hb : RowAt zb 1 (fun _ => .slice o 512 cap) w) (hv : BV (.slice o 512 cap) 512 f w) (hn : at_ + k < N) (hC : C ≤ 4398046511104) : Calls Tryd.prog 49 #[.pointer (some ⟨z3, 0, none⟩), .pointer (some ⟨z4, 0, none⟩), .pointer (some ⟨zi, 0, none⟩), .pointer (some ⟨zb, 0, none⟩)] w fun e w' => e = .returned (.int .i64 0) ∧ ∃ F', DV F' p N A (upN D (at_ + k) f) (C + 1) w' ∧ Keeps F w w' ∧ ∀ i, F' i → F i ∨ w.heap.size ≤ i := by
  have z1 : IntKind.i64.wrap ((at_ : Int) + (k : Int)) = ((at_ + k : Nat) : Int) := by have := hD.n4; rw [IntKind.wrap_i64]; omega
  replace h3 := hideit h3
  replace h4 := hideit h4
  replace hi := hideit hi
  replace hb := hideit hb
  have kw := hideit (dv_write hD (at_ + k) hn o cap f hv hC)
  go_enter Tryd.func49, Tryd.ntmps49
  go_upto_region 1 with (fail)
  refine wp_region_lit ?_
  have m1 : w.cell? ⟨z3, 0, none⟩ = some (.pointer (some ⟨p, 0, none⟩)) := h3.out.1 0 (by decide)
  have m2 : w.cell? ⟨z4, 0, none⟩ = some (.int .i64 (at_ : Int)) := h4.out.1 0 (by decide)
  have m3 : w.cell? ⟨zi, 0, none⟩ = some (.int .i64 (k : Int)) := hi.out.1 0 (by decide)
  have m4 : w.cell? ⟨zb, 0, none⟩ = some (.slice o 512 cap) := hb.out.1 0 (by decide)
  refine xm [some (.pointer (some ⟨p, 0, none⟩)), some (.int .i64 (at_ : Int)), some (.int .i64 (k : Int)), some (.int .i64 ((at_ + k : Nat) : Int)), some (.slice o 512 cap)] (by kernel_rfl) (by simp [xr, go_sem, m1, m2, m3, z1, m4]) ?_
  simp only [xw, p0, p1, p2, p3]
  clear m1
  clear m2
  clear m3
  clear m4
  refine wpList_call rfl (by simp [go_sem]) ((kw.out).mono ?_)
  rintro e y ⟨rfl, hQ⟩
  refine ⟨_, rfl, ?_⟩
  simp only [zp0, zp1, zp2, zp3]
  replace hQ := hideit hQ
  refine xm [some (.int .i64 0)] (by kernel_rfl) (by simp [xr, go_sem]) ?_
  simp only [xw, p0, p1, p2, p3]
  go_wp2
  go_ret
  exact ⟨rfl, hQ.out⟩
set_option maxRecDepth 20000 in
set_option maxHeartbeats 4000000 in
theorem wcl_any {B : Nat} {v : Value} {zz : Nat → Nat} (p c m N C at_ : Nat) (us : Nat → Value) (f : Nat → Nat → BitVec 8) (F : Nat → Prop) (A D : Nat → Nat → BitVec 8) (x w : World) (hF : FL B v m (2 * m + 2) zz (cpV p (at_ : Int) us) c x) (hc : RowAt c 1 (fun _ => v) x) (hcB : B ≤ c) (hD : DK F p N A D C x w) (hFB : ∀ b, F b → b < B) (hm : 1 ≤ m ∧ m ≤ 900) (hat : at_ + m ≤ N) (hC : C + m ≤ 4398046511104)
    (hby : ∀ q, q < m → ∃ z cp, us q = .slice (some ⟨z, 0, none⟩) 512 cp ∧ 512 ≤ cp ∧ LieAt ⟨z, 0, none⟩ 512 (yv (f q)) x ∧ ¬ F z) : Calls Tryd.prog 51 #[.pointer (some ⟨c, 0, none⟩)] w fun e w' => e = .returned (.int .i64 0) ∧ DK F p N A (wrN D at_ f m) (C + m) x w' := by
  obtain ⟨sb, cap, rfl, hsb, _, _, hS⟩ := hF.own.lies (by omega)
  have hnF : ∀ b, B ≤ b → ¬ F b := fun b hb h => by have := hFB b h; omega
  have kk : Hid (Calls Tryd.prog 32 #[.slice (some ⟨sb, 0, none⟩) m cap] w fun e w' => e = .returned (.int .i64 0) ∧ DK F p N A (wrN D at_ f m) (C + m) x w') := by
    refine (ino_any ⟨sb, 0, none⟩ m cap (by omega) (fun _ => 49) (fun _ => #[]) (fun i => #[.pointer (some ⟨zz 0, 0, none⟩), .pointer (some ⟨zz 1, 0, none⟩), .pointer (some ⟨zz (2 + 2 * i), 0, none⟩), .pointer (some ⟨zz (3 + 2 * i), 0, none⟩)]) w (fun i W => DK F p N A (wrN D at_ f i) (C + i) x W) (fun _ _ => False) hD (fun i W hW j hj => ?_) (fun i hi args X => enter49 args X) (fun i hi W hW => ?_)).mono ?_
    · obtain ⟨F', _, k, _⟩ := hW
      rw [addr0]
      exact (hS.keep k (hnF sb hsb)).1 j hj
    · obtain ⟨F', hV, k, hs⟩ := hW
      obtain ⟨z, cp, e1, e2, e3, e4⟩ := hby i hi
      have rw_ := fun q (hq : q < 2 * m + 2) => (hF.rows q hq).1.keep k (hnF _ (hF.rows q hq).2.1)
      have r0 := rw_ 0 (by omega)
      have r1 := rw_ 1 (by omega)
      have r2 := rw_ (2 + 2 * i) (by omega)
      have r3 := rw_ (3 + 2 * i) (by omega)
      have c0 : cpV p (at_ : Int) us 0 = .pointer (some ⟨p, 0, none⟩) := rfl
      have c1 : cpV p (at_ : Int) us 1 = .int .i64 (at_ : Int) := rfl
      have c2 : cpV p (at_ : Int) us (2 + 2 * i) = .int .i64 (i : Int) := by
        unfold cpV
        rw [if_neg (by omega), if_neg (by omega), if_pos (by omega), show (2 + 2 * i - 2) / 2 = i by omega]
      have c3 : cpV p (at_ : Int) us (3 + 2 * i) = .slice (some ⟨z, 0, none⟩) 512 cp := by
        unfold cpV
        rw [if_neg (by omega), if_neg (by omega), if_neg (by omega), show (3 + 2 * i - 3) / 2 = i by omega, e1]
      rw [c0] at r0
      rw [c1] at r1
      rw [c2] at r2
      rw [c3] at r3
      refine (wst_any p (zz 0) (zz 1) (zz (2 + 2 * i)) (zz (3 + 2 * i)) N (C + i) at_ i F' A (wrN D at_ f i) (some ⟨z, 0, none⟩) cp (f i) W hV r0 r1 r2 r3 (.inr ⟨_, cp, rfl, e2, e3.keep k e4⟩) (by omega) (by omega)).mono fun e w' ⟨q1, F2, q2, q3, q4⟩ => ⟨0, q1, fun _ => ?_, fun h => absurd rfl h⟩
      exact DK.step k hs ⟨F2, q2, q3, q4⟩
    · rintro e w' ⟨c', q1, q2, q3⟩
      by_cases h0 : c' = 0
      · subst h0
        exact ⟨q1, q2 rfl⟩
      · exact (q3 h0).elim
  replace hc : Hid (RowAt c 1 (fun _ => .slice (some ⟨sb, 0, none⟩) m cap) w) := by
    obtain ⟨_, _, k, _⟩ := hD
    exact hc.keep k (hnF c hcB)
  go_enter Tryd.func51, Tryd.ntmps51
  go_upto_region 1 with (fail)
  refine wp_region_lit ?_
  have m1 : w.cell? ⟨c, 0, none⟩ = some (.slice (some ⟨sb, 0, none⟩) m cap) := hc.out.1 0 (by decide)
  refine xm [some (.slice (some ⟨sb, 0, none⟩) m cap)] (by kernel_rfl) (by simp [xr, go_sem, m1]) ?_
  simp only [xw, p0, p1, p2, p3]
  clear m1
  refine wpList_call rfl (by simp [go_sem]) ((kk.out).mono ?_)
  rintro e y ⟨rfl, hQ⟩
  refine ⟨_, rfl, ?_⟩
  simp only [zp0, zp1, zp2, zp3]
  replace hQ := hideit hQ
  refine xm [some (.int .i64 0)] (by kernel_rfl) (by simp [xr, go_sem]) ?_
  simp only [xw, p0, p1, p2, p3]
  go_wp2
  go_ret
  exact ⟨rfl, hQ.out⟩
end Go.Proofs.YtiakkclabgelfaaDoor
