/-
  The document's digests of leaves and nodes.
-/
import Derived.Test.YtapmheocllicnaaDoorLvl
import Derived.Test.YtapmheocllicnaaDoorGrowV
namespace Go.Proofs.YtapmheocllicnaaDoor
open Go.RowKit Go.BigFrame
theorem own_lit (w : World) (base : Nat) (e : TypeId) (n : Nat) (C : Array Value) (g : Nat → Value) (hb : base ≤ w.heap.size) (hC : C.toList = row n g) (hn : n ≤ 1000) : OwnB base e (.slice (some ⟨w.heap.size, 0, none⟩) n n) n g (w.alloc (.cells C e)) :=
  ⟨by rw [row_length, Nat.mul_one], .inr ⟨w.heap.size, n, C, rfl, hb, by
    show (w.heap.push (.cells C e))[w.heap.size]? = _
    simp, Nat.le_refl _, by unfold maxLen; omega, by rw [← Array.length_toList, hC, row_length, Nat.mul_one], by rw [hC, Nat.mul_one]; exact List.take_of_length_le (by rw [row_length]; exact Nat.le_refl _)⟩⟩
def hd2 (c : BitVec 8) (j : Nat) : BitVec 8 := if j = 0 then 1#8 else c
set_option maxRecDepth 20000 in
set_option maxHeartbeats 2000000 in
theorem rnode_any (x : Int) (c : BitVec 8) (hc : x % 256 = (c.toNat : Int)) (v : Value) (l : Nat) (b : Nat → BitVec 8) (w : World) (hv : BV v l b w) (hl : l ≤ 140737488351200) :
    Calls Tryd.prog 15 #[.int .i64 x, v] w fun e w' => e = .returned (.agg (row 32 (yv (nodeF c b l))).toArray) ∧ Ext w w' := by
  obtain ⟨ov, cap, rfl⟩ := hv.form
  obtain ⟨R, hR⟩ : ∃ R, R = nodeF c b l := ⟨_, rfl⟩
  have hz := zero24
  have HR0 := hideit (RowAt.new w 32 (yv fun _ => 0#8) 25)
  have HE0 : Ext w (w.alloc (.cells (row 32 (yv fun _ => 0#8)).toArray 25)) := (Below.refl _ _).alloc (Nat.le_refl _) _
  have hv1 := hv.ext HE0
  replace HE0 := hideit HE0
  rw [← hR]
  replace hR := hideit hR
  clear hv
  go_enter Tryd.func15, Tryd.ntmps15
  go_upto_region 1 with (fail)
  have hsz1 : (w.alloc (.cells (row 32 (yv fun _ => 0#8)).toArray 25)).heap.size = w.heap.size + 1 := by simp
  generalize w.alloc (.cells (row 32 (yv fun _ => 0#8)).toArray 25) = w1 at *
  refine wp_region_lit ?_
  refine wpList_run rfl (.int .i64 x) (by simp [go_sem]) ?_
  simp only [Act.put, List.setIfInBounds_toArray, List.set_cons_zero, List.set_cons_succ]
  refine wpList_run rfl (.int .u8 (c.toNat : Int)) (by simp [go_sem, wrap8, hc]) ?_
  simp only [Act.put, List.setIfInBounds_toArray, List.set_cons_zero, List.set_cons_succ]
  refine wpList_to rfl (.slice (some ⟨w1.heap.size, 0, none⟩) 2 2) (w1.alloc (.cells #[.int .u8 1, .int .u8 (c.toNat : Int)] 5)) (by simp [go_sem]) ?_
  simp only [Act.put, List.setIfInBounds_toArray, List.set_cons_zero, List.set_cons_succ]
  have hX : Ext w1 (w1.alloc (.cells #[.int .u8 1, .int .u8 (c.toNat : Int)] 5)) := (Below.refl _ _).alloc (Nat.le_refl _) _
  have hO := hideit (own_lit w1 (w.heap.size + 1) 5 2 #[.int .u8 1, .int .u8 (c.toNat : Int)] (yv (hd2 c)) (by omega) rfl (by decide))
  have hv2 := hideit (hv1.ext hX)
  have HE2 := hideit (Ext.trans HE0.out hX)
  have HR2 := hideit (HR0.out.carry hX)
  generalize w1.heap.size = a1 at *
  generalize w1.alloc (.cells #[.int .u8 1, .int .u8 (c.toNat : Int)] 5) = w2 at *
  clear hX hv1 HE0 HR0
  refine wpList_run rfl (.slice ov l cap) (by simp [go_sem]) ?_
  simp only [Act.put, List.setIfInBounds_toArray, List.set_cons_zero, List.set_cons_succ]
  refine wpList_growV (n := 2) (base := w.heap.size + 1) elem22 rfl (.tmp 7) (.tmp 8) rfl rfl hO.out (.slice ov l cap) l b (yv (nodeT c b)) rfl hv2.out (fun j hj => by
    rcases (by omega : j = 0 ∨ j = 1) with rfl | rfl <;> rfl) (fun j hj => by
    unfold yv nodeT
    rw [if_neg (by omega), if_neg (by omega), show 2 + j - 2 = j by omega]) (by omega) (by have := HR2.out.2.2; omega) ?_
  intro v1 Y hO1 hg1
  have hE3 := hideit (grownE HE2.out hO.out (by omega) hg1)
  have HR3 := hideit (HR2.out.grown hg1 (by intro e; have := (hO.out.lt _ e.symm).1; omega))
  have hbv := hO1.bv
  obtain ⟨o1, c1, rfl⟩ := hbv.form
  have hsm := rsumV _ _ _ Y hbv (by omega)
  rw [show shaF (nodeT c b) (2 + l) = R by rw [hR.out]; rfl] at hsm
  replace hsm := hideit hsm
  simp only [Act.put, List.setIfInBounds_toArray, List.set_cons_zero, List.set_cons_succ]
  clear hO hv2 HE2 HR2 hO1 hg1 hbv
  refine wpList_call rfl (by simp [go_sem]) ((hsm.out).mono ?_)
  rintro e w4 ⟨rfl, hw4⟩
  refine ⟨_, rfl, ?_⟩
  simp only [Act.put, List.setIfInBounds_toArray, List.set_cons_zero, List.set_cons_succ]
  have HE4 := hideit (Ext.trans hE3.out hw4)
  have HR4 := hideit (HR3.out.carry hw4)
  clear hE3 HR3 hw4 hsm
  refine wpList_store_mid rfl 25 (.tmp 4) (.tmp 10) rfl _ 0 (row 32 (yv R)).toArray rfl rfl (by rw [row_size]; exact HR4.out.there) (by rw [row_size]; exact info24) (row_one fun _ _ => rfl) ?_
  go_wp2
  exact bodyPost_ret (ret_row Tryd.results15 rfl (HR4.out.cells (g' := yv R)) Tryd.underlying25 rfl info24) rfl ⟨rfl, below_setCells _ (Nat.le_refl _) _ _ _ HE4.out⟩
set_option maxRecDepth 20000 in
set_option maxHeartbeats 2000000 in
theorem rleaf_any (v : Value) (l : Nat) (b : Nat → BitVec 8) (w : World) (hv : BV v l b w) (hl : l ≤ 140737488351200) :
    Calls Tryd.prog 13 #[v] w fun e w' => e = .returned (.agg (row 32 (yv (leafF b l))).toArray) ∧ Ext w w' := by
  obtain ⟨ov, cap, rfl⟩ := hv.form
  obtain ⟨R, hR⟩ : ∃ R, R = leafF b l := ⟨_, rfl⟩
  have hz := zero24
  have HR0 := hideit (RowAt.new w 32 (yv fun _ => 0#8) 25)
  have HE0 : Ext w (w.alloc (.cells (row 32 (yv fun _ => 0#8)).toArray 25)) := (Below.refl _ _).alloc (Nat.le_refl _) _
  have hv1 := hv.ext HE0
  replace HE0 := hideit HE0
  rw [← hR]
  replace hR := hideit hR
  clear hv
  go_enter Tryd.func13, Tryd.ntmps13
  go_upto_region 1 with (fail)
  have hsz1 : (w.alloc (.cells (row 32 (yv fun _ => 0#8)).toArray 25)).heap.size = w.heap.size + 1 := by simp
  generalize w.alloc (.cells (row 32 (yv fun _ => 0#8)).toArray 25) = w1 at *
  refine wp_region_lit ?_
  refine wpList_to rfl (.slice (some ⟨w1.heap.size, 0, none⟩) 1 1) (w1.alloc (.cells #[.int .u8 0] 5)) (by simp [go_sem]) ?_
  simp only [Act.put, List.setIfInBounds_toArray, List.set_cons_zero, List.set_cons_succ]
  have hX : Ext w1 (w1.alloc (.cells #[.int .u8 0] 5)) := (Below.refl _ _).alloc (Nat.le_refl _) _
  have hO := hideit (own_lit w1 (w.heap.size + 1) 5 1 #[.int .u8 0] (yv fun _ => 0#8) (by omega) rfl (by decide))
  have hv2 := hideit (hv1.ext hX)
  have HE2 := hideit (Ext.trans HE0.out hX)
  have HR2 := hideit (HR0.out.carry hX)
  generalize w1.heap.size = a1 at *
  generalize w1.alloc (.cells #[.int .u8 0] 5) = w2 at *
  clear hX hv1 HE0 HR0
  refine wpList_run rfl (.slice ov l cap) (by simp [go_sem]) ?_
  simp only [Act.put, List.setIfInBounds_toArray, List.set_cons_zero, List.set_cons_succ]
  refine wpList_growV (n := 1) (base := w.heap.size + 1) elem22 rfl (.tmp 3) (.tmp 4) rfl rfl hO.out (.slice ov l cap) l b (yv (leafT b)) rfl hv2.out (fun j hj => by
    have : j = 0 := by omega
    subst this
    rfl) (fun j hj => by
    unfold yv leafT
    rw [if_neg (by omega), show 1 + j - 1 = j by omega]) (by omega) (by have := HR2.out.2.2; omega) ?_
  intro v1 Y hO1 hg1
  have hE3 := hideit (grownE HE2.out hO.out (by omega) hg1)
  have HR3 := hideit (HR2.out.grown hg1 (by intro e; have := (hO.out.lt _ e.symm).1; omega))
  have hbv := hO1.bv
  obtain ⟨o1, c1, rfl⟩ := hbv.form
  have hsm := rsumV _ _ _ Y hbv (by omega)
  rw [show shaF (leafT b) (1 + l) = R by rw [hR.out]; rfl] at hsm
  replace hsm := hideit hsm
  simp only [Act.put, List.setIfInBounds_toArray, List.set_cons_zero, List.set_cons_succ]
  clear hO hv2 HE2 HR2 hO1 hg1 hbv
  refine wpList_call rfl (by simp [go_sem]) ((hsm.out).mono ?_)
  rintro e w4 ⟨rfl, hw4⟩
  refine ⟨_, rfl, ?_⟩
  simp only [Act.put, List.setIfInBounds_toArray, List.set_cons_zero, List.set_cons_succ]
  have HE4 := hideit (Ext.trans hE3.out hw4)
  have HR4 := hideit (HR3.out.carry hw4)
  clear hE3 HR3 hw4 hsm
  refine wpList_store_mid rfl 25 (.tmp 2) (.tmp 6) rfl _ 0 (row 32 (yv R)).toArray rfl rfl (by rw [row_size]; exact HR4.out.there) (by rw [row_size]; exact info24) (row_one fun _ _ => rfl) ?_
  go_wp2
  exact bodyPost_ret (ret_row Tryd.results13 rfl (HR4.out.cells (g' := yv R)) Tryd.underlying25 rfl info24) rfl ⟨rfl, below_setCells _ (Nat.le_refl _) _ _ _ HE4.out⟩
end Go.Proofs.YtapmheocllicnaaDoor
