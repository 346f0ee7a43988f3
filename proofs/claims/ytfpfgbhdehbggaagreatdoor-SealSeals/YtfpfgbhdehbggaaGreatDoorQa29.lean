/-
  A region that draws its order and turns the mark of new bytes. A sector's record. A sector is sealed.
-/
import Derived.Test.YtfpfgbhdehbggaaGreatDoorQa28
import Derived.Test.YtfpfgbhdehbggaaGreatDoorQa1
import Derived.Test.YtfpfgbhdehbggaaGreatDoorQa26
import Derived.Test.YtfpfgbhdehbggaaGreatDoorQa14
namespace Go.Proofs.YtfpfgbhdehbggaaGreatDoor
open Go.RowKit Go.BigFrame
set_option linter.unusedVariables false
set_option maxRecDepth 20000
def MvT (b0 : Nat) (X Y : World) : Prop := Y.os = X.os ∧ Y.tape = X.tape ∧ Y.output = X.output ∧ X.heap.size ≤ Y.heap.size ∧ ∀ k, k < X.heap.size → Y.heap[k]? = X.heap[k]? ∨ (b0 ≤ k ∧ ∃ C m m', X.heap[k]? = some (.cells C 5 m) ∧ Y.heap[k]? = some (.cells C 5 m'))
theorem mv_ext {b0 : Nat} {X Y : World} (h : Ext X Y) : MvT b0 X Y := ⟨h.os, h.tape, h.output, Below.size h, fun k hk => .inl (h.block k hk)⟩
theorem mv_trans {b0 : Nat} {X Y Z : World} (h : MvT b0 X Y) (k : MvT b0 Y Z) : MvT b0 X Z := by
  refine ⟨k.1.trans h.1, k.2.1.trans h.2.1, k.2.2.1.trans h.2.2.1, Nat.le_trans h.2.2.2.1 k.2.2.2.1, fun j hj => ?_⟩
  rcases h.2.2.2.2 j hj with h1 | ⟨h1, C, m, m', h2, h3⟩
  · rcases k.2.2.2.2 j (Nat.lt_of_lt_of_le hj h.2.2.2.1) with k1 | ⟨k1, C, m, m', k2, k3⟩
    · exact .inl (k1.trans h1)
    · exact .inr ⟨k1, C, m, m', h1.symm.trans k2, k3⟩
  · rcases k.2.2.2.2 j (Nat.lt_of_lt_of_le hj h.2.2.2.1) with k1 | ⟨k1, C2, n, n', k2, k3⟩
    · exact .inr ⟨h1, C, m, m', h2, k1.trans h3⟩
    · rw [h3] at k2
      injection k2 with k2
      injection k2 with e1 e2 e3
      subst e1
      exact .inr ⟨h1, C, m, n', h2, k3⟩
theorem mv_cell {b0 : Nat} {X Y : World} (h : MvT b0 X Y) (p : Addr) (v : Value) (hp : X.cell? p = some v) : Y.cell? p = some v := by
  have hk : p.block < X.heap.size := by
    refine Nat.lt_of_not_le fun hn => ?_
    unfold World.cell? at hp
    rw [Array.getElem?_eq_none hn] at hp
    cases hp
  rcases h.2.2.2.2 p.block hk with h1 | ⟨_, C, m, m', h2, h3⟩
  · unfold World.cell? at hp ⊢
    rw [h1]
    exact hp
  · unfold World.cell? at hp ⊢
    rw [h3]
    rw [h2] at hp
    exact hp
theorem mv_plain {b0 : Nat} {X Y : World} (h : MvT b0 X Y) {p : Nat} {C : Array Value} {t : TypeId} (ht : t ≠ 5) {m : Nat × Nat} (hp : X.heap[p]? = some (.cells C t m)) : Y.heap[p]? = some (.cells C t m) := by
  rcases h.2.2.2.2 p (Array.getElem?_eq_some_iff.1 hp).1 with h1 | ⟨_, D, n, n', h2, h3⟩
  · exact h1.trans hp
  · rw [hp] at h2
    injection h2 with h2
    injection h2 with e1 e2 e3
    exact (ht e2).elim
theorem mv_bytes {b0 : Nat} {X Y : World} (h : MvT b0 X Y) {p : Nat} {C : Array Value} {m : Nat × Nat} (hp : X.heap[p]? = some (.cells C 5 m)) : ∃ m', Y.heap[p]? = some (.cells C 5 m') := by
  rcases h.2.2.2.2 p (Array.getElem?_eq_some_iff.1 hp).1 with h1 | ⟨_, D, n, n', h2, h3⟩
  · exact ⟨_, h1.trans hp⟩
  · rw [hp] at h2
    injection h2 with h2
    injection h2 with e1 e2 e3
    subst e1
    exact ⟨_, h3⟩
theorem mv_back {w X Y : World} {b0 : Nat} (hE : Ext w X) (hb : w.heap.size ≤ b0) (h : MvT b0 X Y) : Ext w Y :=
  ⟨h.1.trans hE.os, h.2.1.trans hE.tape, h.2.2.1.trans hE.output, Nat.le_trans (Below.size hE) h.2.2.2.1, fun k hk => by
    rcases h.2.2.2.2 k (Nat.lt_of_lt_of_le hk (Below.size hE)) with h1 | ⟨h1, _⟩
    · exact h1.trans (hE.block k hk)
    · exact absurd h1 (by omega)⟩
theorem BV.mv {b0 : Nat} {v : Value} {l : Nat} {f : Nat → BitVec 8} {X Y : World} (h : BV v l f X) (k : MvT b0 X Y) : BV v l f Y := by
  rcases h with h | ⟨a, c, h1, h2, h3⟩
  · exact .inl h
  · exact .inr ⟨a, c, h1, h2, fun j hj => mv_cell k _ _ (h3.1 j hj), Nat.lt_of_lt_of_le h3.2 k.2.2.2.1⟩
theorem TabC.mv {b0 : Nat} {X Y : World} (h : TabC X) (k : MvT b0 X Y) : TabC Y := ⟨fun j hj => mv_cell k _ _ (h.1 j hj), Nat.lt_of_lt_of_le h.2 k.2.2.2.1⟩
theorem conv_mv {X : World} {b0 g n : Nat} {C : Array Value} {m : Nat × Nat} (h : X.heap[g]? = some (.cells C 5 m)) (hg : b0 ≤ g) : ∃ Y, (convert 25 25 (.slice (some ⟨g, 0, none⟩) n n)).run Tryz.prog X = .ok (.slice (some ⟨g, 0, none⟩) n n) Y ∧ MvT b0 X Y := by
  have hsh : X.shape? g = some (5, C.size) := by
    unfold World.shape?
    rw [h]
  refine ⟨X.freeze ⟨g, C.size, none⟩ 1, ?_, ?_, ?_, ?_, ?_, fun k hk => ?_⟩
  · simp [convert, run_underlying Tryz.underlying25, run_underlying Tryz.underlying5, markStringish, hsh]
  · unfold World.freeze
    rw [if_neg (by decide)]
  · unfold World.freeze
    rw [if_neg (by decide)]
  · unfold World.freeze
    rw [if_neg (by decide)]
  · unfold World.freeze
    rw [if_neg (by decide)]
    simp
  · unfold World.freeze
    rw [if_neg (by decide)]
    simp only [Array.getElem?_modify]
    by_cases e : g = k
    · rw [if_pos e]
      subst e
      rw [h]
      exact .inr ⟨hg, C, m, _, rfl, rfl⟩
    · rw [if_neg e]
      exact .inl rfl
end Go.Proofs.YtfpfgbhdehbggaaGreatDoor
namespace Go.Proofs.YtfpfgbhdehbggaaGreatDoor
open Go.RowKit Go.BigFrame
set_option linter.unusedVariables false
set_option maxRecDepth 20000
theorem inf31 : (Tryz.prog.info? 22).map (·.size) = some 32 := by kernel_rfl
theorem heap_new (X : World) (C : Array Value) (t : TypeId) : (X.alloc (.cells C t)).heap[X.heap.size]? = some (.cells C t (0, 0)) := by
  show (X.heap.push (.cells C t))[X.heap.size]? = _
  simp
theorem row_heap {X : World} {p n : Nat} {g : Nat → Value} {t : TypeId} (h : X.heap[p]? = some (.cells (row n g).toArray t (0, 0))) : RowAt p n g X :=
  ⟨fun j hj => by unfold World.cell?; rw [h]; simp [row_get n g j hj], fun j _ => by unfold World.frozen?; rw [h]; simp, (Array.getElem?_eq_some_iff.1 h).1⟩
def secF (j : Nat) : BitVec 8 := [115#8, 101#8, 99#8, 116#8, 111#8, 114#8].getD j 0#8
def mkT (B n : Nat) (i : Nat) (v : Value) (X : World) : Prop :=
  if i = 2 then ∃ g, v = .slice (some ⟨g, 0, none⟩) 6 6 ∧ B ≤ g ∧ ∃ m, X.heap[g]? = some (.cells #[.int .u8 115, .int .u8 101, .int .u8 99, .int .u8 116, .int .u8 111, .int .u8 114] 5 m)
  else if i = 6 then ∃ g, v = .slice (some ⟨g, 0, none⟩) 4 4 ∧ BV v 4 (numB n) X
  else ∃ p, v = .pointer (some ⟨p, 0, none⟩) ∧ B ≤ p ∧ X.heap[p]? = some (.cells (row 32 (yv fun _ => 0#8)).toArray 22 (0, 0))
theorem mkT_cl (B n : Nat) (i : Nat) (v : Value) : Cl (MvT B) (mkT B n i v) := fun X Y h k => by
  unfold mkT at h ⊢
  by_cases e : i = 2
  · rw [if_pos e] at h ⊢
    obtain ⟨g, h1, h2, m, h3⟩ := h
    exact ⟨g, h1, h2, mv_bytes k h3⟩
  · rw [if_neg e] at h ⊢
    by_cases e : i = 6
    · rw [if_pos e] at h ⊢
      obtain ⟨g, h1, h2⟩ := h
      exact ⟨g, h1, h2.mv k⟩
    · rw [if_neg e] at h ⊢
      obtain ⟨p, h1, h2, h3⟩ := h
      exact ⟨p, h1, h2, mv_plain k (by decide) h3⟩
theorem sec_bv {X : World} {g : Nat} {m : Nat × Nat} (h : X.heap[g]? = some (.cells #[.int .u8 115, .int .u8 101, .int .u8 99, .int .u8 116, .int .u8 111, .int .u8 114] 5 m)) : BV (.slice (some ⟨g, 0, none⟩) 6 6) 6 secF X :=
  .inr ⟨⟨g, 0, none⟩, 6, rfl, Nat.le_refl _, fun j hj => by
    rw [show (⟨g, 0, none⟩ : Addr).add j = ⟨g, j, none⟩ by unfold Addr.add; split <;> simp_all]
    unfold World.cell?
    simp only [h]
    rcases (by omega : j = 0 ∨ j = 1 ∨ j = 2 ∨ j = 3 ∨ j = 4 ∨ j = 5) with rfl | rfl | rfl | rfl | rfl | rfl <;> rfl, (Array.getElem?_eq_some_iff.1 h).1⟩
theorem Parts.mv {b0 : Nat} {v : Value} {n : Nat} {us : Nat → Value} {ls : Nat → Nat} {bs : Nat → Nat → BitVec 8} {w X : World} (h : Parts v n us ls bs w) (k : MvT b0 w X) : Parts v n us ls bs X := by
  refine ⟨?_, fun i hi => (h.2 i hi).mv k⟩
  rcases h.1 with h1 | ⟨a, cap, h1, h2, h3⟩
  · exact .inl h1
  · exact .inr ⟨a, cap, h1, h2, fun j hj => mv_cell k _ _ (h3.1 j hj), Nat.lt_of_lt_of_le h3.2 k.2.2.2.1⟩
def rlS (l : Nat) (i : Nat) : Nat := if i = 0 then 6 else if i = 3 then l else 4
def rbS (e n : Nat) (f : Nat → BitVec 8) (i : Nat) : Nat → BitVec 8 := if i = 0 then secF else if i = 1 then numB e else if i = 2 then numB n else f
def rtF (e n : Nat) (T : Nat → BitVec 8) (f : Nat → BitVec 8) (l : Nat) : Nat → BitVec 8 := tagF 32 T (allF (rlS l) (rbS e n f) 4) (sumL (rlS l) 4)
def c8 (B n : Nat) (W : World) (v2 v6 pv : Value) (us : Nat → Value) (ls : Nat → Nat) (bs : Nat → Nat → BitVec 8) (Z : World) : Prop := ((MvT B W Z ∧ mkT B n 2 v2 Z) ∧ mkT B n 6 v6 Z) ∧ Parts pv 4 us ls bs Z
theorem c8_cl (B n : Nat) (W : World) (v2 v6 pv : Value) (us : Nat → Value) (ls : Nat → Nat) (bs : Nat → Nat → BitVec 8) : Cl (MvT B) (c8 B n W v2 v6 pv us ls bs) := fun _ _ h k => ⟨⟨⟨mv_trans h.1.1.1 k, mkT_cl _ _ _ _ _ _ h.1.1.2 k⟩, mkT_cl _ _ _ _ _ _ h.1.2 k⟩, h.2.mv k⟩
def rcF (e n : Nat) (T : Nat → BitVec 8) (f : Nat → BitVec 8) (l j : Nat) : BitVec 8 := if j < 4 then numB e j else if j < 36 then rtF e n T f l (j - 4) else 0#8
theorem rec_cells (e n : Nat) (T : Nat → BitVec 8) (f : Nat → BitVec 8) (l j : Nat) (hj : j < 64) : (if 4 ≤ j ∧ j < 4 + 32 then yv (rtF e n T f l) (j - 4) else if 0 ≤ j ∧ j < 0 + 4 then yv (numB e) (j - 0) else yv (fun _ => 0#8) j) = yv (rcF e n T f l) j := by
  unfold yv rcF
  by_cases h1 : j < 4
  · rw [if_neg (by omega), if_pos (by omega), if_pos h1, Nat.sub_zero]
  · rw [if_neg h1]
    by_cases h2 : j < 36
    · rw [if_pos (by omega), if_pos h2]
    · rw [if_neg (by omega), if_neg (by omega), if_neg h2]
set_option maxRecDepth 20000 in
set_option maxHeartbeats 4000000 in
theorem rof_any (e n : Nat) (D T : Nat → BitVec 8) (v : Value) (l : Nat) (f : Nat → BitVec 8) (w : World) (hV : BV v l f w) (hC : TabC w) (he : e < 4294967296) (hn : n < 4294967296) (hsum : sumL (rlS l) 4 < 576460752303423488) : Calls Tryz.prog 16 #[.agg (row 65 (ekV e D T)).toArray, .int .i64 (n : Int), v] w fun e' w' => e' = .returned (.agg (row 64 (yv (rcF e n T f l))).toArray) ∧ Ext w w' := by
  obtain ⟨vo, vc, rfl⟩ := hV.form
  have hE := hideit (Ext.refl w)
  go_enter Tryz.func16, Tryz.ntmps16
  go_upto_region 0 with (fail)
  refine wp_region_lit ?_
  have A0 := hideit (RowAt.new w 65 (ekV e D T) 24)
  have XB : Ext w (w.alloc (.cells (row 65 (ekV e D T)).toArray 24)) := (Below.refl _ _).alloc (Nat.le_refl _) _
  have AE := hideit (Ext.trans hE.out (XB))
  have AB := hideit (hE.out.size)
  clear XB
  refine wpList_to rfl (.pointer (some ⟨w.heap.size, 0, none⟩)) (w.alloc (.cells (row 65 (ekV e D T)).toArray 24)) (by simp [go_sem]) ?_
  simp only [zp0, zp1, zp2, zp3]
  generalize w.alloc (.cells (row 65 (ekV e D T)).toArray 24) = x1 at A0 AE ⊢
  obtain ⟨c3, ec3⟩ : ∃ b, b = w.heap.size := ⟨_, rfl⟩
  have ABc3 : Hid (w.heap.size ≤ c3) := by rw [ec3]; exact AB.out
  clear AB
  rw [← ec3] at A0  ⊢
  clear ec3
  have Hc3 := A0
  clear A0
  replace hE := AE
  clear AE
  have A0 := hideit (RowAt.new x1 64 (yv fun _ => 0#8) 26)
  have A1 := hideit (Hc3.out.alloc (.cells (row 64 (yv fun _ => 0#8)).toArray 26))
  have AE := hideit (Below.alloc hE.out (Below.size hE.out) (.cells (row 64 (yv fun _ => 0#8)).toArray 26))
  have AB := hideit (Below.size hE.out)
  have D0 : Hid (c3 ≠ x1.heap.size) := Nat.ne_of_lt Hc3.out.2.2
  refine wpList_to rfl (.pointer (some ⟨x1.heap.size, 0, none⟩)) (x1.alloc (.cells (row 64 (yv fun _ => 0#8)).toArray 26)) (xalloc 26 (row 64 (yv fun _ => 0#8)).toArray rfl (zero23 x1)) ?_
  simp only [zp0, zp1, zp2, zp3]
  generalize x1.alloc (.cells (row 64 (yv fun _ => 0#8)).toArray 26) = x3 at A0 A1 AE ⊢
  obtain ⟨z2, ez2⟩ : ∃ b, b = x1.heap.size := ⟨_, rfl⟩
  rw [← ez2] at A0 D0 AB ⊢
  clear ez2
  have Hz2 := A0
  clear A0
  replace Hc3 := A1
  clear A1
  replace hE := AE
  clear AE
  have ABz2 := AB
  clear AB
  have Dz2_0 := D0
  clear D0
  go_upto_region 1 with (fail)
  refine wp_region_lit ?_
  have m4 : x3.cell? ⟨c3, 0, none⟩ = some (.int .i64 (e : Int)) := Hc3.out.1 0 (by decide)
  refine xm [some (.pointer (some ⟨c3, 0, none⟩)), some (.int .i64 (e : Int))] (by kernel_rfl) (by simp [xr, go_sem, m4]) ?_
  simp only [xw, p0, p1, p2, p3]
  clear m4
  refine wpList_call rfl (by simp [go_sem]) ((num_any e he x3).mono ?_)
  rintro e y1 ⟨g1, rfl, _, hR1, hX1⟩
  refine ⟨_, rfl, ?_⟩
  simp only [zp0, zp1, zp2, zp3]
  replace Hc3 := hideit (Hc3.out.carry hX1)
  replace Hz2 := hideit (Hz2.out.carry hX1)
  replace hE := hideit (Ext.trans hE.out (hX1))
  replace hR1 := hideit hR1
  clear hX1
  refine xm [some (.slice (some ⟨g1, 0, none⟩) 4 4)] (by kernel_rfl) (by simp [xr, go_sem]) ?_
  simp only [xw, p0, p1, p2, p3]
  obtain ⟨W, hW⟩ : ∃ W, W = y1.drew := ⟨_, rfl⟩
  have hYW : Ext y1 W := by rw [hW]; exact (Ext.refl _).draw
  have hEW := hideit (Ext.trans hE.out hYW)
  have RK := hideit (ek_tag (Hc3.out.carry hYW))
  have R1 := hideit (hR1.out.carry hYW)
  have Z2 := hideit (Hz2.out.carry hYW)
  have BS := hideit (hV.ext hEW.out)
  have TC := hideit (hC.ext hEW.out)
  clear hR1 Hz2 Hc3 hE hYW
  go_upto_region 2 with (fail)
  refine wp_region_ladm (MvT W.heap.size) (fun X => MvT W.heap.size W X) (mkT W.heap.size n) [11] [] [(0, 0), (0, 1), (0, 4), (0, 5), (0, 7), (2, 2), (1, 3), (2, 6), (1, 8), (1, 9), (2, 10), (1, 11)] (by kernel_rfl) (by kernel_rfl) (by decide +kernel) (by decide +kernel) (by decide +kernel) (by decide +kernel) (mkT_cl _ _) (fun _ _ h k => mv_trans h k) (by rw [← hW]; exact mv_ext (Ext.refl _)) ?_
  refine wpQ_f _ (.pointer (some ⟨c3, 33, none⟩)) rfl rfl (fun X hX => by simp [go_sem]) ?_
  simp only [List.getElem_toArray, List.getElem_cons_zero, Act.put, List.setIfInBounds_toArray, List.set_cons_zero, List.set_cons_succ]
  refine wpQ_f _ (.slice (some ⟨c3, 33, none⟩) 32 32) rfl rfl (fun X hX => by simp [go_sem]) ?_
  simp only [zp4, zp5, zp6, zp0, zp1, zp2, zp3]
  refine wpQ_f _ (.slice (some ⟨g1, 0, none⟩) 4 4) rfl rfl (fun X hX => by simp [go_sem]) ?_
  simp only [zp4, zp5, zp6, zp0, zp1, zp2, zp3]
  refine wpQ_f _ (.int .i64 (n : Int)) rfl rfl (fun X hX => by simp [go_sem]) ?_
  simp only [zp4, zp5, zp6, zp0, zp1, zp2, zp3]
  refine wpQ_f _ (.slice vo l vc) rfl rfl (fun X hX => by simp [go_sem]) ?_
  simp only [zp4, zp5, zp6, zp0, zp1, zp2, zp3]
  refine wpQ_m _ rfl rfl (fun X hX => ⟨.slice (some ⟨X.heap.size, 0, none⟩) 6 6, X.alloc (.cells #[.int .u8 115, .int .u8 101, .int .u8 99, .int .u8 116, .int .u8 111, .int .u8 114] 5), by simp [go_sem], ⟨X.heap.size, rfl, hX.2.2.2.1, (0, 0), heap_new _ _ _⟩, mv_ext ((Below.refl _ _).alloc (Nat.le_refl _) _)⟩) ?_
  rintro v2 ⟨_, -, g2, rfl, -⟩
  simp only [zp4, zp5, zp6, zp0, zp1, zp2, zp3]
  refine wpQ_to _ rfl rfl fun X hX => ?_
  obtain ⟨hX1, g', f3, hg', m, hm⟩ := hX
  injection f3 with f3
  injection f3 with f3
  injection f3 with f3
  subst f3
  obtain ⟨Y, hcv, hmv⟩ := conv_mv (n := 6) hm hg'
  refine ⟨.slice (some ⟨g2, 0, none⟩) 6 6, Y, by simp [go_sem, hcv], fun Z => MvT W.heap.size W Z ∧ mkT W.heap.size n 2 (.slice (some ⟨g2, 0, none⟩) 6 6) Z, ⟨mv_trans hX1 hmv, mkT_cl _ _ 2 _ _ _ ⟨g2, rfl, hg', m, hm⟩ hmv⟩, .inr (.inr ⟨fun Z hZ => hZ, hmv, fun A C hA k => ⟨mv_trans hA.1 k, mkT_cl _ _ 2 _ _ _ hA.2 k⟩⟩), ?_⟩
  clear hcv hmv hm hX1
  simp only [zp4, zp5, zp6, zp0, zp1, zp2, zp3]
  refine wpQ_mcall _ rfl rfl (fun X hX => by simp [go_sem]) (fun X hX => (num_any n hn X).mono ?_) ?_
  · rintro e9 X9 ⟨g9, rfl, _, hR9, hX9⟩
    exact ⟨_, rfl, ⟨g9, rfl, .inr ⟨⟨g9, 0, none⟩, 4, rfl, Nat.le_refl _, RowAt.lie hR9 4 (Nat.le_refl _)⟩⟩, mv_ext hX9⟩
  rintro v6 ⟨_, -, g6, rfl, -⟩
  simp only [zp4, zp5, zp6, zp0, zp1, zp2, zp3]
  refine wpQ_to _ rfl rfl fun X hX => ?_
  obtain ⟨⟨hX1, g', f3, hg', m, hm⟩, g7, f6, B6⟩ := hX
  injection f3 with f3
  injection f3 with f3
  injection f3 with f3
  subst f3
  injection f6 with f6
  injection f6 with f6
  injection f6 with f6
  subst f6
  have A8 : Ext X (X.alloc (.cells #[.slice (some ⟨g2, 0, none⟩) 6 6, .slice (some ⟨g1, 0, none⟩) 4 4, .slice (some ⟨g6, 0, none⟩) 4 4, .slice vo l vc] 25)) := (Below.refl _ _).alloc (Nat.le_refl _) _
  obtain ⟨us, hus⟩ : ∃ us : Nat → Value, us = fun j => [.slice (some ⟨g2, 0, none⟩) 6 6, .slice (some ⟨g1, 0, none⟩) 4 4, .slice (some ⟨g6, 0, none⟩) 4 4, .slice vo l vc].getD j undef := ⟨_, rfl⟩
  have hP8 : Parts (.slice (some ⟨X.heap.size, 0, none⟩) 4 4) 4 us (rlS l) (rbS e n f) (X.alloc (.cells #[.slice (some ⟨g2, 0, none⟩) 6 6, .slice (some ⟨g1, 0, none⟩) 4 4, .slice (some ⟨g6, 0, none⟩) 4 4, .slice vo l vc] 25)) := by
    subst hus
    refine ⟨.inr ⟨_, 4, rfl, Nat.le_refl _, RowAt.lie (RowAt.newOf X 4 _ 25 _ fun j hj => by rcases (by omega : j = 0 ∨ j = 1 ∨ j = 2 ∨ j = 3) with rfl | rfl | rfl | rfl <;> rfl) 4 (Nat.le_refl _)⟩, fun i hi => ?_⟩
    have q : MvT W.heap.size W (X.alloc (.cells #[.slice (some ⟨g2, 0, none⟩) 6 6, .slice (some ⟨g1, 0, none⟩) 4 4, .slice (some ⟨g6, 0, none⟩) 4 4, .slice vo l vc] 25)) := mv_trans hX1 (mv_ext A8)
    rcases (by omega : i = 0 ∨ i = 1 ∨ i = 2 ∨ i = 3) with rfl | rfl | rfl | rfl
    · exact (sec_bv hm).ext A8
    · exact BV.mv (.inr ⟨⟨g1, 0, none⟩, 4, rfl, Nat.le_refl _, RowAt.lie R1.out 4 (Nat.le_refl _)⟩) q
    · exact B6.ext A8
    · exact BS.out.mv q
  obtain ⟨b8, hb8⟩ : ∃ b, b = X.heap.size := ⟨_, rfl⟩
  rw [← hb8] at hP8
  refine ⟨.slice (some ⟨b8, 0, none⟩) 4 4, X.alloc (.cells #[.slice (some ⟨g2, 0, none⟩) 6 6, .slice (some ⟨g1, 0, none⟩) 4 4, .slice (some ⟨g6, 0, none⟩) 4 4, .slice vo l vc] 25), by rw [hb8]; simp [go_sem], c8 W.heap.size n W (.slice (some ⟨g2, 0, none⟩) 6 6) (.slice (some ⟨g6, 0, none⟩) 4 4) (.slice (some ⟨b8, 0, none⟩) 4 4) us (rlS l) (rbS e n f), ⟨⟨⟨mv_trans hX1 (mv_ext A8), mkT_cl _ _ 2 _ _ _ ⟨g2, rfl, hg', m, hm⟩ (mv_ext A8)⟩, mkT_cl _ _ 6 _ _ _ ⟨g6, rfl, B6⟩ (mv_ext A8)⟩, hP8⟩, .inr (.inr ⟨fun Z hZ => hZ.1, mv_ext A8, c8_cl _ _ _ _ _ _ _ _ _⟩), ?_⟩
  clear hP8 A8 B6 hm hX1 hb8
  simp only [zp4, zp5, zp6, zp0, zp1, zp2, zp3]
  refine wpQ_call _ rfl rfl (fun X hX => by simp [go_sem]) (fun X hX => (Tag_any (.slice (some ⟨c3, 33, none⟩) 32 32) (.slice (some ⟨b8, 0, none⟩) 4 4) 32 4 T us (rlS l) (rbS e n f) X (BV.mv (.inr ⟨⟨c3, 33, none⟩, 32, rfl, Nat.le_refl _, RK.out⟩) hX.1.1.1) hX.2 (TC.out.mv hX.1.1.1) (by decide) (by decide) hsum).mono ?_)
  rintro e9 X9 ⟨rfl, hX9⟩
  refine ⟨_, rfl, c8 W.heap.size n W (.slice (some ⟨g2, 0, none⟩) 6 6) (.slice (some ⟨g6, 0, none⟩) 4 4) (.slice (some ⟨b8, 0, none⟩) 4 4) us (rlS l) (rbS e n f), c8_cl _ _ _ _ _ _ _ _ _ _ _ hX (mv_ext hX9), .inr (.inr ⟨fun Z hZ => hZ, mv_ext hX9, c8_cl _ _ _ _ _ _ _ _ _⟩), ?_⟩
  clear hX9
  rw [show tagF 32 T (allF (rlS l) (rbS e n f) 4) (sumL (rlS l) 4) = rtF e n T f l from rfl]
  simp only [zp4, zp5, zp6, zp0, zp1, zp2, zp3]
  refine wpQ_m _ rfl rfl (fun X hX => ⟨.pointer (some ⟨X.heap.size, 0, none⟩), X.alloc (.cells (row 32 (yv fun _ => 0#8)).toArray 22), xalloc 22 _ rfl (zero24 _), ⟨X.heap.size, rfl, hX.2.2.2.1, heap_new _ _ _⟩, mv_ext ((Below.refl _ _).alloc (Nat.le_refl _) _)⟩) ?_
  rintro v10 ⟨_, -, p, rfl, -⟩
  simp only [zp4, zp5, zp6, zp0, zp1, zp2, zp3]
  refine wpQ_st _ rfl rfl fun X hX => ?_
  obtain ⟨hX8, p', f5, hp, hm⟩ := hX
  injection f5 with f5
  injection f5 with f5
  injection f5 with f5
  subst f5
  have EX : Ext W X := mv_back (Ext.refl W) (Nat.le_refl _) hX8.1.1.1
  have N0 := hideit ((row_heap hm).cells (g' := yv (rtF e n T f l)))
  have NE := hideit (below_setCells p hp (row 32 (yv (rtF e n T f l))) 0 _ EX)
  refine ⟨X.setCells p 0 (row 32 (yv (rtF e n T f l))), xstore 22 (.tmp 8) (.tmp 22) rfl p 32 _ (yv (rtF e n T f l)) rfl rfl (row_heap hm) inf31 (fun _ _ => rfl), fun Y => Y = X.setCells p 0 (row 32 (yv (rtF e n T f l))), rfl, .inl (by simp), ?_⟩
  simp only [List.getElem_toArray, List.getElem_cons_zero, List.getElem_cons_succ, Act.put]
  refine wpQ_nil fun Y hY => ?_
  rw [← hY] at N0 NE
  clear hY hm EX hX8 hX hus us
  have hR1 := hideit (R1.out.carry NE.out)
  have Hz2 := hideit (Z2.out.carry NE.out)
  have hE := hideit (Ext.trans hEW.out NE.out)
  clear R1 Z2 hEW NE RK BS TC
  go_upto_region 3 with (fail)
  refine wp_region_lit ?_
  have A0 := hideit (RowAt.new Y 64 (yv fun _ => 0#8) 26)
  have A1 := hideit (Hz2.out.alloc (.cells (row 64 (yv fun _ => 0#8)).toArray 26))
  have A2 := hideit (hR1.out.alloc (.cells (row 64 (yv fun _ => 0#8)).toArray 26))
  have A3 := hideit (N0.out.alloc (.cells (row 64 (yv fun _ => 0#8)).toArray 26))
  have AE := hideit (Below.alloc hE.out (Below.size hE.out) (.cells (row 64 (yv fun _ => 0#8)).toArray 26))
  have AB := hideit (Below.size hE.out)
  have D0 : Hid (z2 ≠ Y.heap.size) := Nat.ne_of_lt Hz2.out.2.2
  have D1 : Hid (g1 ≠ Y.heap.size) := Nat.ne_of_lt hR1.out.2.2
  have D2 : Hid (p ≠ Y.heap.size) := Nat.ne_of_lt N0.out.2.2
  refine wpList_to rfl (.pointer (some ⟨Y.heap.size, 0, none⟩)) (Y.alloc (.cells (row 64 (yv fun _ => 0#8)).toArray 26)) (xalloc 26 (row 64 (yv fun _ => 0#8)).toArray rfl (zero23 Y)) ?_
  simp only [zp0, zp1, zp2, zp3]
  generalize Y.alloc (.cells (row 64 (yv fun _ => 0#8)).toArray 26) = x6 at A0 A1 A2 A3 AE ⊢
  obtain ⟨z5, ez5⟩ : ∃ b, b = Y.heap.size := ⟨_, rfl⟩
  rw [← ez5] at A0 D0 D1 D2 AB ⊢
  clear ez5
  have Hz5 := A0
  clear A0
  replace Hz2 := A1
  clear A1
  replace hR1 := A2
  clear A2
  replace N0 := A3
  clear A3
  replace hE := AE
  clear AE
  have ABz5 := AB
  clear AB
  have Dz5_0 := D0
  clear D0
  have Dz5_1 := D1
  clear D1
  have Dz5_2 := D2
  clear D2
  go_upto_region 4 with (fail)
  refine wp_region_lit ?_
  refine xm [some (.slice (some ⟨z5, 0, none⟩) 64 64), some (.slice (some ⟨g1, 0, none⟩) 4 4)] (by kernel_rfl) (by simp [xr, go_sem]) ?_
  simp only [xw, p0, p1, p2, p3]
  have hR6 := hideit ((Hz5.out).part 0 4 (yv (numB e)) (by omega))
  have hE6 := hideit (below_setCells z5 ABz5.out (row 4 (yv (numB e))) 0 _ hE.out)
  have N6 := hideit (N0.out.cellsOther (Ne.symm Dz5_2.out) (row 4 (yv (numB e))) 0)
  have M6 := hideit (Hz2.out.cellsOther (Ne.symm Dz5_0.out) (row 4 (yv (numB e))) 0)
  refine wpList_to rfl (goInt 4) (x6.setCells z5 0 (row 4 (yv (numB e)))) (exec_copy (.tmp 23) (.tmp 24) 25 25 rfl 5 Tryz.underlying25 inf5 z5 64 (yv fun _ => 0#8) Hz5.out 0 64 64 ⟨g1, 0, none⟩ 4 4 rfl rfl 4 (yv (numB e)) (by decide) (fun j hj => by rw [add_off]; exact hR1.out.1 j hj) (by omega) (fun j _ => rfl)) ?_
  simp only [zp0, zp1, zp2, zp3]
  generalize x6.setCells z5 0 (row 4 (yv (numB e))) = y6 at hR6 hE6 N6 M6 ⊢
  clear hE Hz5 hR1 N0 Hz2
  go_upto_region 5 with (fail)
  replace M6 := hideit M6.out.drew
  replace N6 := hideit N6.out.drew
  replace hR6 := hideit hR6.out.drew
  replace hE6 := hideit (Ext.draw hE6.out)
  refine wp_region_ladz (fun X => Ext y6.drew X) [2] [(false, 0), (false, 1), (true, 2)] (by kernel_rfl) (by kernel_rfl) (by decide +kernel) (by decide +kernel) (by decide +kernel) (by decide +kernel) (Ext.refl _) ?_
  refine wpZ_f _ (.slice (some ⟨z5, 4, none⟩) 60 60) rfl rfl (fun X _ => by simp [go_sem]) ?_
  simp only [List.getElem_toArray, List.getElem_cons_zero, Act.put, List.setIfInBounds_toArray, List.set_cons_zero, List.set_cons_succ]
  refine wpZ_f _ (.slice (some ⟨p, 0, none⟩) 32 32) rfl rfl (fun X _ => by simp [go_sem]) ?_
  simp only [zp4, zp5, zp6, zp0, zp1, zp2, zp3]
  have hR7 := hideit ((hR6.out).part 4 32 (yv (rtF e n T f l)) (by omega))
  have hE7 := hideit (below_setCells z5 ABz5.out (row 32 (yv (rtF e n T f l))) 4 _ hE6.out)
  have M7 := hideit (M6.out.cellsOther (Ne.symm Dz5_0.out) (row 32 (yv (rtF e n T f l))) 4)
  refine wpZ_to _ (goInt 32) (y6.drew.setCells z5 4 (row 32 (yv (rtF e n T f l)))) rfl rfl (exec_copy (.tmp 26) (.tmp 27) 25 25 rfl 5 Tryz.underlying25 inf5 z5 64 (fun j => if 0 ≤ j ∧ j < 0 + 4 then yv (numB e) (j - 0) else yv (fun _ => 0#8) j) hR6.out 4 60 60 ⟨p, 0, none⟩ 32 32 rfl rfl 32 (yv (rtF e n T f l)) (by decide) (fun j hj => by rw [add_off]; exact N6.out.1 j hj) (by omega) (fun j _ => rfl)) (fun _ => True) (.inl (by simp)) trivial ?_
  simp only [zp4, zp5, zp6, zp0, zp1, zp2, zp3]
  generalize y6.drew.setCells z5 4 (row 32 (yv (rtF e n T f l))) = y7 at hR7 hE7 M7 ⊢
  clear hR6 hE6 M6 N6
  replace hR7 := hideit (hR7.out.congr (g' := yv (rcF e n T f l)) fun j hj => rec_cells e n T f l j hj)
  refine wpZ_nil ?_
  go_upto_region 6 with (fail)
  refine wp_region_lit ?_
  refine wpList_run rfl (.agg (row 64 (yv (rcF e n T f l))).toArray) (xload 26 (.tmp 9) rfl z5 0 64 _ rfl hR7.out.range Tryz.underlying26 rfl inf23) ?_
  simp only [zp0, zp1, zp2, zp3]
  have N0 := hideit (M7.out.cells (g' := yv (rcF e n T f l)))
  have N1 := hideit (hR7.out.cellsOther (Dz5_0.out) (row 64 (yv (rcF e n T f l))) 0)
  have NE := hideit (below_setCells z2 (ABz2.out) (row 64 (yv (rcF e n T f l))) 0 _ hE7.out)
  refine xst rfl (y7.setCells z2 0 (row 64 (yv (rcF e n T f l)))) (xstore 26 (.tmp 6) (.tmp 29) rfl z2 64 _ (yv (rcF e n T f l)) rfl rfl M7.out inf23 (fun j _ => rfl)) ?_
  simp only [Act.put]
  generalize y7.setCells z2 0 (row 64 (yv (rcF e n T f l))) = x7 at N0 N1 NE ⊢
  replace M7 := N0
  replace hR7 := N1
  replace hE7 := NE
  clear N0 N1 NE
  go_wp2
  exact bodyPost_ret (ret_row Tryz.results16 rfl (M7.out) Tryz.underlying26 rfl inf23) rfl ⟨rfl, hE7.out⟩
end Go.Proofs.YtfpfgbhdehbggaaGreatDoor
namespace Go.Proofs.YtfpfgbhdehbggaaGreatDoor
open Go.RowKit Go.BigFrame
set_option linter.unusedVariables false
set_option maxRecDepth 20000
theorem own_cells {base : Nat} {e : TypeId} {v : Value} {n : Nat} {g : Nat → Value} {b : Nat} : ∀ {w : World} (_ : OwnB base e v n g w) (_ : v.ownBlock ≠ some b) (vs : List Value) (o : Nat), OwnB base e v n g (w.setCells b o vs)
  | _, h, _, [], _ => h
  | w, h, hb, u :: r, o => by
    rw [World.setCells]
    exact own_cells (h.other ⟨b, o, none⟩ hb u) hb r (o + 1)
theorem inf50 : (Tryz.prog.info? 24).map (·.size) = some 65 := by kernel_rfl
theorem ret_rowm {P : Program} {F : Func} {tmps : Array Value} {k k1 k2 : Nat} {t : TypeId} {b n : Nat} {g : Nat → Value} {X : World} {d : TypeDesc} (hF : F.results = #[.tmp k1, .cell k t, .tmp k2]) (ht : tmps.getD k undef = .pointer (some ⟨b, 0, none⟩)) (h : RowAt b n g X)
    (hu : P.underlying t = some d) (hd : d.isRow = true) (hi : (P.info? t).map (·.size) = some n) : Sem.run P (results F tmps) X = .ok (.tuple #[tmps.getD k1 undef, .agg (row n g).toArray, tmps.getD k2 undef]) X := by
  have hl := run_loadVar_mid (P := P) X b 0 t (row n g) d h.range hu hd (by rw [row_length]; exact hi)
  unfold results
  rw [hF]
  simp only [List.mapM_toArray, List.mapM_cons, List.mapM_nil, ht]
  simp [asAddr, hl]
def seF (D : Nat → BitVec 8) (n : Nat) (f : Nat → BitVec 8) : Nat → BitVec 8 := xE (schedK 4 D) (schedK 4 fun j => D (16 + j)) 10 (n4 n) f 512
theorem sum512 : sumL (rlS 512) 4 < 576460752303423488 := by decide
set_option maxRecDepth 20000 in
set_option maxHeartbeats 4000000 in
theorem seal_ok (e n : Nat) (D T : Nat → BitVec 8) (v : Value) (f : Nat → BitVec 8) (w : World) (hV : BV v 512 f w) (hC : TabC w) (he1 : 1 ≤ e) (he : e < 4294967296) (hn : n < 1024) : Calls Tryz.prog 6 #[.agg (row 65 (ekV e D T)).toArray, .int .i64 (n : Int), v] w fun e' w' => ∃ v', e' = .returned (.tuple #[v', .agg (row 64 (yv (rcF e n T (seF D n f) 512))).toArray, .int .i64 0]) ∧ OwnB w.heap.size 5 v' 512 (yv (seF D n f)) w' ∧ Ext w w' := by
  have hcn : IntKind.u64.wrap (n : Int) = ((n4 n).toNat : Int) := by rw [n4_nat (by omega), IntKind.wrap_u64]; omega
  obtain ⟨vo, vc, rfl⟩ := hV.form
  have hE := hideit (Ext.refl w)
  go_enter Tryz.func6, Tryz.ntmps6
  go_upto_region 0 with (fail)
  refine wp_region_lit ?_
  have A0 := hideit (RowAt.new w 65 (ekV e D T) 24)
  have XB : Ext w (w.alloc (.cells (row 65 (ekV e D T)).toArray 24)) := (Below.refl _ _).alloc (Nat.le_refl _) _
  have AE := hideit (Ext.trans hE.out (XB))
  have AB := hideit (hE.out.size)
  clear XB
  refine wpList_to rfl (.pointer (some ⟨w.heap.size, 0, none⟩)) (w.alloc (.cells (row 65 (ekV e D T)).toArray 24)) (by simp [go_sem]) ?_
  simp only [zp0, zp1, zp2, zp3]
  generalize w.alloc (.cells (row 65 (ekV e D T)).toArray 24) = x1 at A0 AE ⊢
  obtain ⟨c3, ec3⟩ : ∃ b, b = w.heap.size := ⟨_, rfl⟩
  have ABc3 : Hid (w.heap.size ≤ c3) := by rw [ec3]; exact AB.out
  clear AB
  rw [← ec3] at A0  ⊢
  clear ec3
  have Hc3 := A0
  clear A0
  replace hE := AE
  clear AE
  refine xm [some (.slice none 0 0)] (by kernel_rfl) (by simp [xr, go_sem]) ?_
  simp only [xw, p0, p1, p2, p3]
  have A0 := hideit (RowAt.new x1 64 (yv fun _ => 0#8) 26)
  have A1 := hideit (Hc3.out.alloc (.cells (row 64 (yv fun _ => 0#8)).toArray 26))
  have AE := hideit (Below.alloc hE.out (Below.size hE.out) (.cells (row 64 (yv fun _ => 0#8)).toArray 26))
  have AB := hideit (Below.size hE.out)
  have D0 : Hid (c3 ≠ x1.heap.size) := Nat.ne_of_lt Hc3.out.2.2
  refine wpList_to rfl (.pointer (some ⟨x1.heap.size, 0, none⟩)) (x1.alloc (.cells (row 64 (yv fun _ => 0#8)).toArray 26)) (xalloc 26 (row 64 (yv fun _ => 0#8)).toArray rfl (zero23 x1)) ?_
  simp only [zp0, zp1, zp2, zp3]
  generalize x1.alloc (.cells (row 64 (yv fun _ => 0#8)).toArray 26) = x3 at A0 A1 AE ⊢
  obtain ⟨z2, ez2⟩ : ∃ b, b = x1.heap.size := ⟨_, rfl⟩
  rw [← ez2] at A0 D0 AB ⊢
  clear ez2
  have Hz2 := A0
  clear A0
  replace Hc3 := A1
  clear A1
  replace hE := AE
  clear AE
  have ABz2 := AB
  clear AB
  have Dz2_0 := D0
  clear D0
  refine xm [some (.int .i64 0)] (by kernel_rfl) (by simp [xr, go_sem]) ?_
  simp only [xw, p0, p1, p2, p3]
  go_upto_region 1 with (fail)
  refine wp_region_lit ?_
  refine wpList_run rfl (.agg (row 65 (ekV e D T)).toArray) (xload 24 (.tmp 3) rfl c3 0 65 _ rfl Hc3.out.range Tryz.underlying24 rfl inf50) ?_
  simp only [zp0, zp1, zp2, zp3]
  refine xm [some (.int .i64 (n : Int)), some (.slice vo 512 vc)] (by kernel_rfl) (by simp [xr, go_sem]) ?_
  simp only [xw, p0, p1, p2, p3]
  refine wpList_call rfl (by simp [go_sem]) ((cip_ok e n D T vo vc x3 he1 he hn).mono ?_)
  rintro e y1 ⟨q, c1, c2, rfl, hP, hX1⟩
  refine ⟨_, rfl, ?_⟩
  simp only [zp0, zp1, zp2, zp3]
  replace Hc3 := hideit (Hc3.out.carry hX1)
  replace Hz2 := hideit (Hz2.out.carry hX1)
  replace hE := hideit (Ext.trans hE.out (hX1))
  replace hP := hideit hP
  clear hX1
  refine xm [some (.tuple #[.pointer (some ⟨q, 0, none⟩), .int .i64 0]), some (.pointer (some ⟨q, 0, none⟩)), some (.int .i64 0), some (.pointer (some ⟨q, 0, none⟩)), some (.int .i64 0)] (by kernel_rfl) (by simp [xr, go_sem]) ?_
  simp only [xw, p0, p1, p2, p3]
  go_upto_region 2 with (fail)
  refine wp_region_lit ?_
  refine xm [some (.int .i64 0), some (.bool false)] (by kernel_rfl) (by simp [xr, go_sem]) ?_
  simp only [xw, p0, p1, p2, p3]
  go_upto_region 4 with (fail)
  refine wp_region_lit ?_
  refine xm [some (.pointer (some ⟨q, 0, none⟩)), some (.int .i64 (n : Int))] (by kernel_rfl) (by simp [xr, go_sem]) ?_
  simp only [xw, p0, p1, p2, p3]
  refine xm [some (.int .u64 ((n4 n).toNat : Int)), some (.slice vo 512 vc)] (by kernel_rfl) (by simp [xr, go_sem, hcn]) ?_
  simp only [xw, p0, p1, p2, p3]
  have hb1 := hideit (Below.size hE.out)
  have hzl := hideit Hz2.out.2.2
  refine wpList_call rfl (by simp [go_sem]) ((xencV q c1 c2 10 512 _ _ (by decide) (by decide) (n4 n) (.slice vo 512 vc) f y1 hP.out (by decide) (by decide) (hV.ext hE.out)).mono ?_)
  rintro e y2 ⟨v6, rfl, hO, hX2⟩
  refine ⟨_, rfl, ?_⟩
  simp only [zp0, zp1, zp2, zp3]
  replace Hc3 := hideit (Hc3.out.carry hX2)
  replace Hz2 := hideit (Hz2.out.carry hX2)
  replace hE := hideit (Ext.trans hE.out (hX2))
  obtain ⟨v6o, v6c, rfl⟩ := hO.bv.form
  have hO6 := hideit (show OwnB y1.heap.size 5 (.slice v6o 512 v6c) 512 (yv (seF D n f)) y2 from hO)
  clear hX2 hO hP
  refine xm [some (.tuple #[.slice v6o 512 v6c, .int .i64 0]), some (.slice v6o 512 v6c), some (.int .i64 0), some (.slice v6o 512 v6c), some (.int .i64 0)] (by kernel_rfl) (by simp [xr, go_sem]) ?_
  simp only [xw, p0, p1, p2, p3]
  go_upto_region 5 with (fail)
  refine wp_region_lit ?_
  refine xm [some (.int .i64 0), some (.bool false)] (by kernel_rfl) (by simp [xr, go_sem]) ?_
  simp only [xw, p0, p1, p2, p3]
  go_upto_region 7 with (fail)
  refine wp_region_lit ?_
  refine xm [some (.slice v6o 512 v6c)] (by kernel_rfl) (by simp [xr, go_sem]) ?_
  simp only [xw, p0, p1, p2, p3]
  refine wpList_run rfl (.agg (row 65 (ekV e D T)).toArray) (xload 24 (.tmp 3) rfl c3 0 65 _ rfl Hc3.out.range Tryz.underlying24 rfl inf50) ?_
  simp only [zp0, zp1, zp2, zp3]
  refine xm [some (.int .i64 (n : Int)), some (.slice v6o 512 v6c)] (by kernel_rfl) (by simp [xr, go_sem]) ?_
  simp only [xw, p0, p1, p2, p3]
  refine wpList_call rfl (by simp [go_sem]) ((rof_any e n D T (.slice v6o 512 v6c) 512 (seF D n f) y2 hO6.out.bv (hC.ext hE.out) he (by omega) sum512).mono ?_)
  rintro e y3 ⟨rfl, hX3⟩
  refine ⟨_, rfl, ?_⟩
  simp only [zp0, zp1, zp2, zp3]
  replace Hc3 := hideit (Hc3.out.carry hX3)
  replace Hz2 := hideit (Hz2.out.carry hX3)
  replace hE := hideit (Ext.trans hE.out (hX3))
  replace hO6 := hideit (hO6.out.ext hX3)
  clear hX3
  refine xm [some (.slice v6o 512 v6c)] (by kernel_rfl) (by simp [xr, go_sem]) ?_
  simp only [xw, p0, p1, p2, p3]
  have N0 := hideit (Hz2.out.cells (g' := yv (rcF e n T (seF D n f) 512)))
  have N1 := hideit (Hc3.out.cellsOther (Ne.symm (Dz2_0.out)) (row 64 (yv (rcF e n T (seF D n f) 512))) 0)
  have NE := hideit (below_setCells z2 (ABz2.out) (row 64 (yv (rcF e n T (seF D n f) 512))) 0 _ hE.out)
  have hO9 := hideit ((own_cells hO6.out (b := z2) (fun q => by have h1 := (hO6.out.lt _ q).1; have h2 := hzl.out; omega) (row 64 (yv (rcF e n T (seF D n f) 512))) 0).down hb1.out)
  refine xst rfl (y3.setCells z2 0 (row 64 (yv (rcF e n T (seF D n f) 512)))) (xstore 26 (.tmp 7) (.tmp 39) rfl z2 64 _ (yv (rcF e n T (seF D n f) 512)) rfl rfl Hz2.out inf23 (fun j _ => rfl)) ?_
  simp only [Act.put]
  generalize y3.setCells z2 0 (row 64 (yv (rcF e n T (seF D n f) 512))) = x4 at N0 N1 NE hO9 ⊢
  replace Hz2 := N0
  replace Hc3 := N1
  replace hE := NE
  clear N0 N1 NE
  refine xm [some (.int .i64 0)] (by kernel_rfl) (by simp [xr, go_sem]) ?_
  simp only [xw, p0, p1, p2, p3]
  go_wp2
  exact bodyPost_ret (ret_rowm rfl rfl (Hz2.out) Tryz.underlying26 rfl inf23) rfl ⟨_, rfl, hO9.out, hE.out⟩
end Go.Proofs.YtfpfgbhdehbggaaGreatDoor
