/-
  RNd, RLv.
-/
import Derived.Test.YtapmheocllicnaaDoorLvl
import Derived.Test.YtapmheocllicnaaDoorGrowV
namespace Go.Proofs.YtapmheocllicnaaDoor
open Go.RowKit Go.BigFrame
theorem own_lit (w : World) (base : Nat) (e : TypeId) (n : Nat) (C : Array Value) (g : Nat → Value) (hb : base ≤ w.heap.size) (hC : C.toList = row n g) (hn : n ≤ 1000) : OwnB base e (.slice (some ⟨w.heap.size, 0, none⟩) n n) n g (w.alloc (.cells C e)) :=
  ⟨by rw [row_length, Nat.mul_one], .inr ⟨w.heap.size, n, C, rfl, hb, by
    show (w.heap.push (.cells C e))[w.heap.size]? = _
    simp, Nat.le_refl _, by unfold maxLen; omega, by rw [← Array.length_toList, hC, row_length, Nat.mul_one], by rw [hC, Nat.mul_one]; exact List.take_of_length_le (by rw [row_length]; exact Nat.le_refl _)⟩⟩
def hd2 (c : BitVec 8) (j : Nat) : BitVec 8 := if j = 0 then 1#8 else c
set_option maxRecDepth 20000 in
set_option maxHeartbeats 2000000 in
theorem rnode_any (x : Int) (c : BitVec 8) (hc : x % 256 = (c.toNat : Int)) (v : Value) (l : Nat) (b : Nat → BitVec 8) (w : World) (hv : BV v l b w) (hl : l ≤ 140737488351232) :
    Calls Tryd.prog 15 #[.int .i64 x, v] w fun e w' => e = .returned (.agg (row 32 (yv (nodeF c b l))).toArray) ∧ Ext w w' := by
  obtain ⟨ov, cap, rfl⟩ := hv.form
  obtain ⟨R, hR⟩ : ∃ R, R = nodeF c b l := ⟨_, rfl⟩
  have hz := zero24
  have HR0 := hideit (RowAt.new w 32 (yv fun _ => 0#8) 25)
  have HE0 : Ext w (w.alloc (.cells (row 32 (yv fun _ => 0#8)).toArray 25)) := (Below.refl _ _).alloc (Nat.le_refl _) _
  have hv1 := hv.ext HE0
  replace HE0 := hideit HE0
  rw [← hR]
  replace hR := hideit hR
  clear hv
  go_enter Tryd.func15, Tryd.ntmps15
  go_upto_region 1 with (fail)
  have hsz1 : (w.alloc (.cells (row 32 (yv fun _ => 0#8)).toArray 25)).heap.size = w.heap.size + 1 := by simp
  generalize w.alloc (.cells (row 32 (yv fun _ => 0#8)).toArray 25) = w1 at *
  refine wp_region_lit ?_
  refine wpList_run rfl (.int .i64 x) (by simp [go_sem]) ?_
  simp only [Act.put, List.setIfInBounds_toArray, List.set_cons_zero, List.set_cons_succ]
  refine wpList_run rfl (.int .u8 (c.toNat : Int)) (by simp [go_sem, wrap8, hc]) ?_
  simp only [Act.put, List.setIfInBounds_toArray, List.set_cons_zero, List.set_cons_succ]
  refine wpList_to rfl (.slice (some ⟨w1.heap.size, 0, none⟩) 2 2) (w1.alloc (.cells #[.int .u8 1, .int .u8 (c.toNat : Int)] 5)) (by simp [go_sem]) ?_
  simp only [Act.put, List.setIfInBounds_toArray, List.set_cons_zero, List.set_cons_succ]
  have hX : Ext w1 (w1.alloc (.cells #[.int .u8 1, .int .u8 (c.toNat : Int)] 5)) := (Below.refl _ _).alloc (Nat.le_refl _) _
  have hO := hideit (own_lit w1 (w.heap.size + 1) 5 2 #[.int .u8 1, .int .u8 (c.toNat : Int)] (yv (hd2 c)) (by omega) rfl (by decide))
  have hv2 := hideit (hv1.ext hX)
  have HE2 := hideit (Ext.trans HE0.out hX)
  have HR2 := hideit (HR0.out.carry hX)
  generalize w1.heap.size = a1 at *
  generalize w1.alloc (.cells #[.int .u8 1, .int .u8 (c.toNat : Int)] 5) = w2 at *
  clear hX hv1 HE0 HR0
  refine wpList_run rfl (.slice ov l cap) (by simp [go_sem]) ?_
  simp only [Act.put, List.setIfInBounds_toArray, List.set_cons_zero, List.set_cons_succ]
  refine wpList_growV (n := 2) (base := w.heap.size + 1) elem22 rfl (.tmp 7) (.tmp 8) rfl rfl hO.out (.slice ov l cap) l b (yv (nodeT c b)) rfl hv2.out (fun j hj => by
    rcases (by omega : j = 0 ∨ j = 1) with rfl | rfl <;> rfl) (fun j hj => by
    unfold yv nodeT
    rw [if_neg (by omega), if_neg (by omega), show 2 + j - 2 = j by omega]) (by omega) (by have := HR2.out.2.2; omega) ?_
  intro v1 Y hO1 hg1
  have hE3 := hideit (grownE HE2.out hO.out (by omega) hg1)
  have HR3 := hideit (HR2.out.grown hg1 (by intro e; have := (hO.out.lt _ e.symm).1; omega))
  have hbv := hO1.bv
  obtain ⟨o1, c1, rfl⟩ := hbv.form
  have hsm := rsumV _ _ _ Y hbv (by omega)
  rw [show shaF (nodeT c b) (2 + l) = R by rw [hR.out]; rfl] at hsm
  replace hsm := hideit hsm
  simp only [Act.put, List.setIfInBounds_toArray, List.set_cons_zero, List.set_cons_succ]
  clear hO hv2 HE2 HR2 hO1 hg1 hbv
  refine wpList_call rfl (by simp [go_sem]) ((hsm.out).mono ?_)
  rintro e w4 ⟨rfl, hw4⟩
  refine ⟨_, rfl, ?_⟩
  simp only [Act.put, List.setIfInBounds_toArray, List.set_cons_zero, List.set_cons_succ]
  have HE4 := hideit (Ext.trans hE3.out hw4)
  have HR4 := hideit (HR3.out.carry hw4)
  clear hE3 HR3 hw4 hsm
  refine wpList_store_mid rfl 25 (.tmp 4) (.tmp 10) rfl _ 0 (row 32 (yv R)).toArray rfl rfl (by rw [row_size]; exact HR4.out.there) (by rw [row_size]; exact info24) (row_one fun _ _ => rfl) ?_
  go_wp2
  exact bodyPost_ret (ret_row Tryd.results15 rfl (HR4.out.cells (g' := yv R)) Tryd.underlying25 rfl info24) rfl ⟨rfl, below_setCells _ (Nat.le_refl _) _ _ _ HE4.out⟩
set_option maxRecDepth 20000 in
set_option maxHeartbeats 2000000 in
theorem rleaf_any (v : Value) (l : Nat) (b : Nat → BitVec 8) (w : World) (hv : BV v l b w) (hl : l ≤ 140737488351232) :
    Calls Tryd.prog 13 #[v] w fun e w' => e = .returned (.agg (row 32 (yv (leafF b l))).toArray) ∧ Ext w w' := by
  obtain ⟨ov, cap, rfl⟩ := hv.form
  obtain ⟨R, hR⟩ : ∃ R, R = leafF b l := ⟨_, rfl⟩
  have hz := zero24
  have HR0 := hideit (RowAt.new w 32 (yv fun _ => 0#8) 25)
  have HE0 : Ext w (w.alloc (.cells (row 32 (yv fun _ => 0#8)).toArray 25)) := (Below.refl _ _).alloc (Nat.le_refl _) _
  have hv1 := hv.ext HE0
  replace HE0 := hideit HE0
  rw [← hR]
  replace hR := hideit hR
  clear hv
  go_enter Tryd.func13, Tryd.ntmps13
  go_upto_region 1 with (fail)
  have hsz1 : (w.alloc (.cells (row 32 (yv fun _ => 0#8)).toArray 25)).heap.size = w.heap.size + 1 := by simp
  generalize w.alloc (.cells (row 32 (yv fun _ => 0#8)).toArray 25) = w1 at *
  refine wp_region_lit ?_
  refine wpList_to rfl (.slice (some ⟨w1.heap.size, 0, none⟩) 1 1) (w1.alloc (.cells #[.int .u8 0] 5)) (by simp [go_sem]) ?_
  simp only [Act.put, List.setIfInBounds_toArray, List.set_cons_zero, List.set_cons_succ]
  have hX : Ext w1 (w1.alloc (.cells #[.int .u8 0] 5)) := (Below.refl _ _).alloc (Nat.le_refl _) _
  have hO := hideit (own_lit w1 (w.heap.size + 1) 5 1 #[.int .u8 0] (yv fun _ => 0#8) (by omega) rfl (by decide))
  have hv2 := hideit (hv1.ext hX)
  have HE2 := hideit (Ext.trans HE0.out hX)
  have HR2 := hideit (HR0.out.carry hX)
  generalize w1.heap.size = a1 at *
  generalize w1.alloc (.cells #[.int .u8 0] 5) = w2 at *
  clear hX hv1 HE0 HR0
  refine wpList_run rfl (.slice ov l cap) (by simp [go_sem]) ?_
  simp only [Act.put, List.setIfInBounds_toArray, List.set_cons_zero, List.set_cons_succ]
  refine wpList_growV (n := 1) (base := w.heap.size + 1) elem22 rfl (.tmp 3) (.tmp 4) rfl rfl hO.out (.slice ov l cap) l b (yv (leafT b)) rfl hv2.out (fun j hj => by
    have : j = 0 := by omega
    subst this
    rfl) (fun j hj => by
    unfold yv leafT
    rw [if_neg (by omega), show 1 + j - 1 = j by omega]) (by omega) (by have := HR2.out.2.2; omega) ?_
  intro v1 Y hO1 hg1
  have hE3 := hideit (grownE HE2.out hO.out (by omega) hg1)
  have HR3 := hideit (HR2.out.grown hg1 (by intro e; have := (hO.out.lt _ e.symm).1; omega))
  have hbv := hO1.bv
  obtain ⟨o1, c1, rfl⟩ := hbv.form
  have hsm := rsumV _ _ _ Y hbv (by omega)
  rw [show shaF (leafT b) (1 + l) = R by rw [hR.out]; rfl] at hsm
  replace hsm := hideit hsm
  simp only [Act.put, List.setIfInBounds_toArray, List.set_cons_zero, List.set_cons_succ]
  clear hO hv2 HE2 HR2 hO1 hg1 hbv
  refine wpList_call rfl (by simp [go_sem]) ((hsm.out).mono ?_)
  rintro e w4 ⟨rfl, hw4⟩
  refine ⟨_, rfl, ?_⟩
  simp only [Act.put, List.setIfInBounds_toArray, List.set_cons_zero, List.set_cons_succ]
  have HE4 := hideit (Ext.trans hE3.out hw4)
  have HR4 := hideit (HR3.out.carry hw4)
  clear hE3 HR3 hw4 hsm
  refine wpList_store_mid rfl 25 (.tmp 2) (.tmp 6) rfl _ 0 (row 32 (yv R)).toArray rfl rfl (by rw [row_size]; exact HR4.out.there) (by rw [row_size]; exact info24) (row_one fun _ _ => rfl) ?_
  go_wp2
  exact bodyPost_ret (ret_row Tryd.results13 rfl (HR4.out.cells (g' := yv R)) Tryd.underlying25 rfl info24) rfl ⟨rfl, below_setCells _ (Nat.le_refl _) _ _ _ HE4.out⟩
end Go.Proofs.YtapmheocllicnaaDoor

namespace Go.Proofs.YtapmheocllicnaaDoor
open Go.RowKit Go.BigFrame
set_option maxRecDepth 20000 in
set_option maxHeartbeats 2000000 in
theorem rlevels_no (n : Int) (hn : n < 1 ∨ 4096 < n) (w : World) : Calls Tryd.prog 18 #[.int .i64 n] w fun e w' => e = .returned (.slice none 0 0) ∧ w' = w := by
  by_cases h : n < 1
  · go_enter Tryd.func18, Tryd.ntmps18
    go_wp2
    go_ret
    exact ⟨rfl, rfl⟩
  · have h4 : 4096 < n := by omega
    go_enter Tryd.func18, Tryd.ntmps18
    go_wp2
    go_ret
    exact ⟨rfl, rfl⟩
set_option maxRecDepth 20000 in
set_option maxHeartbeats 2000000 in
theorem rlevels_any (n : Nat) (w : World) (h1 : 1 ≤ n) (h2 : n ≤ 4096) : Calls Tryd.prog 18 #[.int .i64 (n : Int)] w fun e w' => ∃ v, e = .returned v ∧ OwnB w.heap.size 3 v (lvN n) (lcV n) w' ∧ Ext w w' := by
  obtain ⟨N, hN⟩ : ∃ N, N = lvN n := ⟨_, rfl⟩
  have hc := fun c c1 c2 => @lv_cases n c h1 h2 c1 c2
  have hN1 := lvN_pos n
  rw [← hN] at hc hN1 ⊢
  replace hN := hideit hN
  replace hc := hideit hc
  obtain ⟨m, hm⟩ : ∃ m, m = lc n 0 := ⟨_, rfl⟩
  have hm' : m = (n + 15) / 16 := hm
  have w0 : IntKind.i64.wrap ((n : Int) + 15) = (n : Int) + 15 := by rw [IntKind.wrap_i64]; omega
  have eq0 : Int.tdiv ((n : Int) + 15) 16 = (m : Int) := by rw [hm', Int.tdiv_eq_ediv_of_nonneg (by omega)]; omega
  have ew0 : IntKind.i64.wrap (m : Int) = (m : Int) := by rw [IntKind.wrap_i64]; omega
  replace hm := hideit hm
  replace w0 := hideit w0
  replace eq0 := hideit eq0
  replace ew0 := hideit ew0
  clear hm'
  have i1 : ¬ (n : Int) < 1 := by omega
  have i2 : ¬ (4096 : Int) < (n : Int) := by omega
  go_enter Tryd.func18, Tryd.ntmps18
  go_upto_region 4 with (fail)
  refine wp_region_lit ?_
  refine wpList_run rfl (.int .i64 (n : Int)) (by simp [go_sem]) ?_
  simp only [Act.put, List.setIfInBounds_toArray, List.set_cons_zero, List.set_cons_succ]
  refine wpList_run rfl (.int .i64 ((n : Int) + 15)) (by simp [go_sem, w0.out]) ?_
  simp only [Act.put, List.setIfInBounds_toArray, List.set_cons_zero, List.set_cons_succ]
  refine wpList_run rfl (.int .i64 (m : Int)) (by simp [go_sem, eq0.out, ew0.out]) ?_
  simp only [Act.put, List.setIfInBounds_toArray, List.set_cons_zero, List.set_cons_succ]
  go_wp2
  go_loopw [0, 3] (fun b l X => ∃ q c : Nat, b = .int .i64 (q : Int) ∧ c < N ∧ q = lc n c ∧ OwnB w.heap.size 3 l c (lcV n) X ∧ Ext w X) (fun b _ _ => (intOf b).toNat)
  case atStart => exact ⟨m, 0, rfl, by omega, hm.out, own_nil _ _ _ _, Ext.refl _⟩
  case round =>
    obtain ⟨q, c, rfl, c2, hq, hO, hE⟩ := hrel
    clear w0 eq0 ew0
    replace hO := hideit hO
    replace hE := hideit hE
    obtain ⟨g1, g2, g3⟩ := hc.out (c + 1) (by omega) (by omega)
    rw [Nat.add_sub_cancel, ← hq] at g1 g2 g3
    have hN' : ∀ z : Nat, Hid (LieAt ⟨wr.heap.size, 0, none⟩ 1 (fun _ => .int .i64 (z : Int)) (wr.alloc (.cells #[.int .i64 (z : Int)] 3))) := fun z => lie_us wr 1 _ _ (fun j hj => by
      have : j = 0 := by omega
      subst this
      rfl) 3
    have hX : ∀ z : Nat, Ext wr (wr.alloc (.cells #[.int .i64 (z : Int)] 3)) := fun z => (Below.refl _ _).alloc (Nat.le_refl _) _
    by_cases hlt : 1 < q
    · have q1 : (1 : Int) < (q : Int) := by omega
      have hcN : c + 1 < N := g1.1 hlt
      obtain ⟨p, hp⟩ : ∃ p, p = (q + 15) / 16 := ⟨_, rfl⟩
      have hpc : p = lc n (c + 1) := by rw [hp, hq]; rfl
      have hpq : p < q := by omega
      have w0 : IntKind.i64.wrap ((q : Int) + 15) = (q : Int) + 15 := by rw [IntKind.wrap_i64]; omega
      have eq0 : Int.tdiv ((q : Int) + 15) 16 = (p : Int) := by rw [hp, Int.tdiv_eq_ediv_of_nonneg (by omega)]; omega
      have ew0 : IntKind.i64.wrap (p : Int) = (p : Int) := by rw [IntKind.wrap_i64]; omega
      replace w0 := hideit w0
      replace eq0 := hideit eq0
      replace ew0 := hideit ew0
      replace hpc := hideit hpc
      replace hq := hideit hq
      clear hp g1
      go_upto_region 7 with (fail)
      have hO2 := hideit (hO.out.ext (hX q))
      have hE2 := hideit (Ext.trans hE.out (hX q))
      have hL2 := hN' q
      clear hO hE hX hN'
      refine wp_region_lit ?_
      refine wpList_run rfl (u3) (by simp [go_sem]) ?_
      simp only [Act.put, List.setIfInBounds_toArray, List.set_cons_zero, List.set_cons_succ]
      refine wpList_run rfl (.int .i64 (q : Int)) (by simp [go_sem]) ?_
      simp only [Act.put, List.setIfInBounds_toArray, List.set_cons_zero, List.set_cons_succ]
      refine wpList_to rfl (.slice (some ⟨wr.heap.size, 0, none⟩) 1 1) (wr.alloc (.cells #[.int .i64 (q : Int)] 3)) (by simp [go_sem]) ?_
      simp only [Act.put, List.setIfInBounds_toArray, List.set_cons_zero, List.set_cons_succ]
      refine wpList_growE (n := c) (base := w.heap.size) elem34 rfl (.tmp 18) (.tmp 20) rfl rfl hO2.out ⟨wr.heap.size, 0, none⟩ 1 1 (fun _ => .int .i64 (q : Int)) (lcV n) rfl hL2.out (fun _ _ => rfl) (fun _ _ => rfl) (fun j hj => by rw [show j = 0 by omega]; unfold lcV; rw [hq.out]; rfl) (by omega) (by omega) (Below.size hE2.out) ?_
      intro v' Y hO' hg'
      have hE3 := hideit (grownE hE2.out hO2.out (Nat.le_refl _) hg')
      replace hO' := hideit hO'
      clear hO2 hL2 hE2 hg'
      simp only [Act.put, List.setIfInBounds_toArray, List.set_cons_zero, List.set_cons_succ]
      go_upto_region 6 with (fail)
      refine wp_region_lit ?_
      refine wpList_run rfl (.int .i64 (q : Int)) (by simp [go_sem]) ?_
      simp only [Act.put, List.setIfInBounds_toArray, List.set_cons_zero, List.set_cons_succ]
      refine wpList_run rfl (.int .i64 ((q : Int) + 15)) (by simp [go_sem, w0.out]) ?_
      simp only [Act.put, List.setIfInBounds_toArray, List.set_cons_zero, List.set_cons_succ]
      refine wpList_run rfl (.int .i64 (p : Int)) (by simp [go_sem, eq0.out, ew0.out]) ?_
      simp only [Act.put, List.setIfInBounds_toArray, List.set_cons_zero, List.set_cons_succ]
      go_wp2
      exact ⟨⟨p, c + 1, rfl, by omega, hpc.out, hO'.out, hE3.out⟩, by simp [intOf]; omega⟩
    · have q1 : ¬ (1 : Int) < (q : Int) := by omega
      have hcN : c + 1 = N := by omega
      have hq1 : q = 1 := by omega
      subst hq1
      replace hq := hideit hq
      clear g1
      have hO2 := hideit (hO.out.ext (hX 1))
      have hE2 := hideit (Ext.trans hE.out (hX 1))
      have hL2 := hN' 1
      clear hO hE hX hN'
      go_upto_region 8 with (fail)
      refine wp_region_lit ?_
      refine wpList_run rfl (u3) (by simp [go_sem]) ?_
      simp only [Act.put, List.setIfInBounds_toArray, List.set_cons_zero, List.set_cons_succ]
      refine wpList_to rfl (.slice (some ⟨wr.heap.size, 0, none⟩) 1 1) (wr.alloc (.cells #[.int .i64 ((1 : Nat) : Int)] 3)) (by simp [go_sem]) ?_
      simp only [Act.put, List.setIfInBounds_toArray, List.set_cons_zero, List.set_cons_succ]
      refine wpList_growE (n := c) (base := w.heap.size) elem34 rfl (.tmp 22) (.tmp 23) rfl rfl hO2.out ⟨wr.heap.size, 0, none⟩ 1 1 (fun _ => .int .i64 ((1 : Nat) : Int)) (lcV n) rfl hL2.out (fun _ _ => rfl) (fun _ _ => rfl) (fun j hj => by rw [show j = 0 by omega]; unfold lcV; rw [Nat.add_zero, ← hq.out]) (by omega) (by omega) (Below.size hE2.out) ?_
      intro v' Y hO' hg'
      have hE3 := hideit (grownE hE2.out hO2.out (Nat.le_refl _) hg')
      rw [hcN] at hO'
      replace hO' := hideit hO'
      clear hO2 hL2 hE2 hg'
      simp only [Act.put, List.setIfInBounds_toArray, List.set_cons_zero, List.set_cons_succ]
      go_wp2
      go_ret
      exact ⟨_, rfl, hO'.out, hE3.out⟩
def hd5 (n : Nat) (j : Nat) : BitVec 8 := if j = 0 then 2#8 else nB n (j - 1)
set_option maxRecDepth 20000 in
set_option maxHeartbeats 2000000 in
theorem rtop_any (n : Nat) (x : Int) (c : BitVec 8) (hc : x % 256 = (c.toNat : Int)) (v : Value) (b : Nat → BitVec 8) (w : World) (hv : BV v 512 b w) :
    Calls Tryd.prog 29 #[.int .i64 (n : Int), .int .i64 x, v] w fun e w' => e = .returned (.agg (row 32 (yv (rootF n (nodeF c b 512)))).toArray) ∧ Ext w w' := by
  obtain ⟨ov, cap, rfl⟩ := hv.form
  obtain ⟨G, hG⟩ : ∃ G, G = nodeF c b 512 := ⟨_, rfl⟩
  obtain ⟨R, hR⟩ : ∃ R, R = rootF n G := ⟨_, rfl⟩
  have hz := zero24
  have HR0 := hideit (RowAt.new w 32 (yv fun _ => 0#8) 25)
  have HE0 : Ext w (w.alloc (.cells (row 32 (yv fun _ => 0#8)).toArray 25)) := (Below.refl _ _).alloc (Nat.le_refl _) _
  have kn := rnode_any x c hc (.slice ov 512 cap) 512 b _ (hv.ext HE0) (by decide)
  rw [← hG] at kn ⊢
  rw [← hR]
  replace kn := hideit kn
  replace HE0 := hideit HE0
  replace hR := hideit hR
  clear hv hG
  have f0 := nB_fact n 0
  have f1 := nB_fact n 1
  have f2 := nB_fact n 2
  have f3 := nB_fact n 3
  simp at f0 f1 f2 f3
  go_enter Tryd.func29, Tryd.ntmps29
  go_upto_region 1 with (fail)
  generalize w.alloc (.cells (row 32 (yv fun _ => 0#8)).toArray 25) = w1 at *
  refine wp_region_lit ?_
  refine wpList_run rfl (.int .i64 x) (by simp [go_sem]) ?_
  simp only [Act.put, List.setIfInBounds_toArray, List.set_cons_zero, List.set_cons_succ]
  refine wpList_run rfl (.slice ov 512 cap) (by simp [go_sem]) ?_
  simp only [Act.put, List.setIfInBounds_toArray, List.set_cons_zero, List.set_cons_succ]
  refine wpList_call rfl (by simp [go_sem]) ((kn.out).mono ?_)
  rintro e w2 ⟨rfl, hX2⟩
  refine ⟨_, rfl, ?_⟩
  simp only [Act.put, List.setIfInBounds_toArray, List.set_cons_zero, List.set_cons_succ]
  have hXa : Ext w2 (w2.alloc (.cells (row 32 (yv fun _ => 0#8)).toArray 25)) := (Below.refl _ _).alloc (Nat.le_refl _) _
  have Ca := RowAt.new w2 32 (yv fun _ => 0#8) 25
  have hYa := Ext.trans hX2 (below_setCells (w := w2) w2.heap.size (Nat.le_refl _) (row 32 (yv G)) 0 _ hXa)
  have HG := hideit (Ca.cells (g' := yv G))
  have HR2 := hideit (HR0.out.carry hYa)
  have HE2 := hideit (Ext.trans HE0.out hYa)
  refine wpList_to rfl (.pointer (some ⟨w2.heap.size, 0, none⟩)) (w2.alloc (.cells (row 32 (yv fun _ => 0#8)).toArray 25)) (by simp [go_sem, hz]) ?_
  simp only [Act.put, List.setIfInBounds_toArray, List.set_cons_zero, List.set_cons_succ]
  refine wpList_store_mid rfl 25 (.tmp 7) (.tmp 10) rfl _ 0 (row 32 (yv G)).toArray rfl rfl (by rw [row_size]; exact Ca.there) (by rw [row_size]; exact info24) (row_one fun _ _ => rfl) ?_
  rw [show (row 32 (yv G)).toArray.toList = row 32 (yv G) from rfl]
  generalize (w2.alloc (.cells (row 32 (yv fun _ => 0#8)).toArray 25)).setCells w2.heap.size 0 (row 32 (yv G)) = w3 at *
  generalize w2.heap.size = gb at *
  clear hXa Ca hYa hX2 kn HR0 HE0
  simp only [Act.put]
  go_upto_region 2 with (fail)
  refine wp_region_lit ?_
  refine wpList_run rfl (.int .i64 (n : Int)) (by simp [go_sem]) ?_
  simp only [Act.put, List.setIfInBounds_toArray, List.set_cons_zero, List.set_cons_succ]
  refine wpList_run rfl (.int .u8 ((nB n 0).toNat : Int)) (by simp [go_sem, wrap8, f0]) ?_
  simp only [Act.put, List.setIfInBounds_toArray, List.set_cons_zero, List.set_cons_succ]
  refine wpList_run rfl (.int .i64 (n : Int)) (by simp [go_sem]) ?_
  simp only [Act.put, List.setIfInBounds_toArray, List.set_cons_zero, List.set_cons_succ]
  refine wpList_run rfl (.int .i64 ((n : Int) / 256)) (by simp [go_sem]) ?_
  simp only [Act.put, List.setIfInBounds_toArray, List.set_cons_zero, List.set_cons_succ]
  refine wpList_run rfl (.int .u8 ((nB n 1).toNat : Int)) (by simp [go_sem, wrap8, f1]) ?_
  simp only [Act.put, List.setIfInBounds_toArray, List.set_cons_zero, List.set_cons_succ]
  refine wpList_run rfl (.int .i64 (n : Int)) (by simp [go_sem]) ?_
  simp only [Act.put, List.setIfInBounds_toArray, List.set_cons_zero, List.set_cons_succ]
  refine wpList_run rfl (.int .i64 ((n : Int) / 65536)) (by simp [go_sem]) ?_
  simp only [Act.put, List.setIfInBounds_toArray, List.set_cons_zero, List.set_cons_succ]
  refine wpList_run rfl (.int .u8 ((nB n 2).toNat : Int)) (by simp [go_sem, wrap8, f2]) ?_
  simp only [Act.put, List.setIfInBounds_toArray, List.set_cons_zero, List.set_cons_succ]
  refine wpList_run rfl (.int .i64 (n : Int)) (by simp [go_sem]) ?_
  simp only [Act.put, List.setIfInBounds_toArray, List.set_cons_zero, List.set_cons_succ]
  refine wpList_run rfl (.int .i64 ((n : Int) / 16777216)) (by simp [go_sem]) ?_
  simp only [Act.put, List.setIfInBounds_toArray, List.set_cons_zero, List.set_cons_succ]
  refine wpList_run rfl (.int .u8 ((nB n 3).toNat : Int)) (by simp [go_sem, wrap8, f3]) ?_
  simp only [Act.put, List.setIfInBounds_toArray, List.set_cons_zero, List.set_cons_succ]
  clear f0 f1 f2 f3
  obtain ⟨C, hCC⟩ : ∃ C : Array Value, C = #[.int .u8 2, .int .u8 ((nB n 0).toNat : Int), .int .u8 ((nB n 1).toNat : Int), .int .u8 ((nB n 2).toNat : Int), .int .u8 ((nB n 3).toNat : Int)] := ⟨_, rfl⟩
  have hs3 : w.heap.size + 1 ≤ w3.heap.size := HR2.out.2.2
  have hO := hideit (own_lit w3 (w.heap.size + 1) 5 5 C (yv (hd5 n)) hs3 (by rw [hCC]; rfl) (by decide))
  have hX : Ext w3 (w3.alloc (.cells C 5)) := (Below.refl _ _).alloc (Nat.le_refl _) _
  refine wpList_to rfl (.slice (some ⟨w3.heap.size, 0, none⟩) 5 5) (w3.alloc (.cells C 5)) (by simp [go_sem, hCC]) ?_
  simp only [Act.put, List.setIfInBounds_toArray, List.set_cons_zero, List.set_cons_succ]
  have HG4 := hideit (HG.out.carry hX)
  have HR4 := hideit (HR2.out.carry hX)
  have HE4 := hideit (Ext.trans HE2.out hX)
  clear HG HR2 HE2 hX hCC hs3
  generalize w3.heap.size = a1 at *
  generalize w3.alloc (.cells C 5) = w4 at *
  refine wpList_run rfl (.slice (some ⟨gb, 0, none⟩) 32 32) (by simp [go_sem, cutR25]) ?_
  simp only [Act.put, List.setIfInBounds_toArray, List.set_cons_zero, List.set_cons_succ]
  refine wpList_growV (n := 5) (base := w.heap.size + 1) elem22 rfl (.tmp 22) (.tmp 23) rfl rfl hO.out (.slice (some ⟨gb, 0, none⟩) 32 32) 32 G (yv (rootT n G)) rfl (HG4.out.bv 32 (Nat.le_refl _)) (fun j hj => by
    unfold yv hd5 rootT
    by_cases h : j = 0
    · rw [if_pos h, if_pos h]
    · rw [if_neg h, if_neg h, if_pos hj]) (fun j hj => by
    unfold yv rootT
    rw [if_neg (by omega), if_neg (by omega), show 5 + j - 5 = j by omega]) (by omega) (by have := HR4.out.2.2; omega) ?_
  intro v1 Y hO1 hg1
  have hE3 := hideit (grownE HE4.out hO.out (by omega) hg1)
  have HR3 := hideit (HR4.out.grown hg1 (by intro e; have := (hO.out.lt _ e.symm).1; omega))
  have hbv := hO1.bv
  obtain ⟨o1, c1, rfl⟩ := hbv.form
  have hsm := rsumV _ _ _ Y hbv (by decide)
  rw [show shaF (rootT n G) (5 + 32) = R by rw [hR.out]; rfl] at hsm
  replace hsm := hideit hsm
  simp only [Act.put, List.setIfInBounds_toArray, List.set_cons_zero, List.set_cons_succ]
  clear hO HG4 HE4 HR4 hO1 hg1 hbv
  refine wpList_call rfl (by simp [go_sem]) ((hsm.out).mono ?_)
  rintro e w5 ⟨rfl, hw5⟩
  refine ⟨_, rfl, ?_⟩
  simp only [Act.put, List.setIfInBounds_toArray, List.set_cons_zero, List.set_cons_succ]
  have HE5 := hideit (Ext.trans hE3.out hw5)
  have HR5 := hideit (HR3.out.carry hw5)
  clear hE3 HR3 hw5 hsm
  refine wpList_store_mid rfl 25 (.tmp 6) (.tmp 25) rfl _ 0 (row 32 (yv R)).toArray rfl rfl (by rw [row_size]; exact HR5.out.there) (by rw [row_size]; exact info24) (row_one fun _ _ => rfl) ?_
  go_wp2
  exact bodyPost_ret (ret_row Tryd.results29 rfl (HR5.out.cells (g' := yv R)) Tryd.underlying25 rfl info24) rfl ⟨rfl, below_setCells _ (Nat.le_refl _) _ _ _ HE5.out⟩
end Go.Proofs.YtapmheocllicnaaDoor
