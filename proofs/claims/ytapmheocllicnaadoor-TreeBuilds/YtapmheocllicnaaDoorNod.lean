/-
  Digests of leaves, of nodes and of roots.
-/
import Derived.Test.YtapmheocllicnaaDoorDig
import Derived.Test.YtapmheocllicnaaDoorLives
namespace Go.Proofs.YtapmheocllicnaaDoor
open Go.RowKit Go.BigFrame
def leafT (b : Nat → BitVec 8) (j : Nat) : BitVec 8 := if j = 0 then 0#8 else b (j - 1)
def leafF (b : Nat → BitVec 8) (l : Nat) : Nat → BitVec 8 := shaF (leafT b) (1 + l)
def nodeT (c : BitVec 8) (b : Nat → BitVec 8) (j : Nat) : BitVec 8 := if j = 0 then 1#8 else if j = 1 then c else b (j - 2)
def nodeF (c : BitVec 8) (b : Nat → BitVec 8) (l : Nat) : Nat → BitVec 8 := shaF (nodeT c b) (2 + l)
def nB (n i : Nat) : BitVec 8 := BitVec.ofNat 8 (n / 2 ^ (8 * i))
def rootT (n : Nat) (d : Nat → BitVec 8) (j : Nat) : BitVec 8 := if j = 0 then 2#8 else if j < 5 then nB n (j - 1) else d (j - 5)
def rootF (n : Nat) (d : Nat → BitVec 8) : Nat → BitVec 8 := shaF (rootT n d) 37
theorem nB_fact (n i : Nat) : (n : Int) / 2 ^ (8 * i) % 256 = ((nB n i).toNat : Int) := by
  unfold nB
  rw [BitVec.toNat_ofNat, Int.natCast_emod, Int.natCast_ediv]
  simp
theorem RowAt.lie {b n : Nat} {g : Nat → Value} {w : World} (h : RowAt b n g w) (m : Nat) (hm : m ≤ n) : LieAt ⟨b, 0, none⟩ m g w :=
  ⟨fun j hj => by
    have hadd : (⟨b, 0, none⟩ : Addr).add j = ⟨b, j, none⟩ := by unfold Addr.add; split <;> simp_all
    rw [hadd]
    exact h.1 j (by omega), h.2.2⟩
theorem RowAt.bv {b n : Nat} {f : Nat → BitVec 8} {w : World} (h : RowAt b n (yv f) w) (m : Nat) (hm : m ≤ n) : BV (.slice (some ⟨b, 0, none⟩) m n) m f w := .inr ⟨_, n, rfl, hm, h.lie m hm⟩
theorem constB (w : World) (C : Array Value) (n : Nat) (f : Nat → BitVec 8) (hC : ∀ j, j < n → C[j]? = some (yv f j)) : ∃ X, (convert 23 23 (.slice (some ⟨w.heap.size, 0, none⟩) n n)).run Tryd.prog (w.alloc (.cells C 5)) = .ok (.slice (some ⟨w.heap.size, 0, none⟩) n n) X ∧ BV (.slice (some ⟨w.heap.size, 0, none⟩) n n) n f X ∧ Ext w X :=
  ⟨_, mark_const w C n, .inr ⟨_, n, rfl, Nat.le_refl _, lie_new w n C 5 _ f hC⟩, (Below.refl _ _).alloc (Nat.le_refl _) _⟩
theorem wrap8 (x : Int) : IntKind.u8.wrap x = x % 256 := by rfl
theorem BV.form {v : Value} {l : Nat} {b : Nat → BitVec 8} {w : World} (h : BV v l b w) : ∃ ov cap, v = .slice ov l cap := by
  rcases h with ⟨rfl, rfl⟩ | ⟨a, cap, rfl, _⟩
  · exact ⟨_, _, rfl⟩
  · exact ⟨_, _, rfl⟩
theorem lie_us (w : World) (k : Nat) (C : Array Value) (us : Nat → Value) (h : ∀ j, j < k → C[j]? = some (us j)) (t : TypeId) : LieAt ⟨w.heap.size, 0, none⟩ k us (w.alloc (.cells C t)) := lieNew w k C t _ us h
theorem parts_new (w : World) (k : Nat) (C : Array Value) (us : Nat → Value) (ls : Nat → Nat) (bs : Nat → Nat → BitVec 8) (h : ∀ j, j < k → C[j]? = some (us j)) (hb : ∀ i, i < k → BV (us i) (ls i) (bs i) w) : Parts (.slice (some ⟨w.heap.size, 0, none⟩) k k) k us ls bs (w.alloc (.cells C 23)) :=
  ⟨.inr ⟨_, k, rfl, Nat.le_refl _, lie_us w k C us h 23⟩, fun i hi => (hb i hi).ext ((Below.refl _ _).alloc (Nat.le_refl _) _)⟩
set_option maxRecDepth 20000 in
set_option maxHeartbeats 2000000 in
theorem leaf_any (v : Value) (l : Nat) (b : Nat → BitVec 8) (w : World) (hv : BV v l b w) (hC : TabC w) (hl : l < 576460752303423488) :
    Calls Tryd.prog 12 #[v] w fun e w' => e = .returned (.agg (row 32 (yv (leafF b l))).toArray) ∧ Ext w w' := by
  obtain ⟨ov, cap, rfl⟩ := hv.form
  obtain ⟨R, hR⟩ : ∃ R, R = leafF b l := ⟨_, rfl⟩
  have hz := zero24
  have HR0 := hideit (RowAt.new w 32 (yv fun _ => 0#8) 25)
  have HE0 : Ext w (w.alloc (.cells (row 32 (yv fun _ => 0#8)).toArray 25)) := (Below.refl _ _).alloc (Nat.le_refl _) _
  have hv1 := hv.ext HE0
  have hC1 := hC.ext HE0
  replace HE0 := hideit HE0
  rw [← hR]
  replace hR := hideit hR
  clear hv hC
  go_enter Tryd.func12, Tryd.ntmps12
  go_upto_region 1 with (fail)
  generalize w.alloc (.cells (row 32 (yv fun _ => 0#8)).toArray 25) = w1 at *
  refine wp_region_lit ?_
  refine wpList_run rfl (.slice ov l cap) (by simp [go_sem]) ?_
  simp only [Act.put, List.setIfInBounds_toArray, List.set_cons_zero, List.set_cons_succ]
  refine wpList_to rfl (.slice (some ⟨w1.heap.size, 0, none⟩) 1 1) (w1.alloc (.cells #[.slice ov l cap] 23)) (by simp [go_sem]) ?_
  simp only [Act.put, List.setIfInBounds_toArray, List.set_cons_zero, List.set_cons_succ]
  have hX : Ext w1 (w1.alloc (.cells #[.slice ov l cap] 23)) := (Below.refl _ _).alloc (Nat.le_refl _) _
  have hp := parts_new w1 1 #[.slice ov l cap] (fun _ => .slice ov l cap) (fun _ => l) (fun _ => b) (fun j hj => by
    have : j = 0 := by omega
    subst this
    rfl) (fun i hi => hv1)
  have hd := tdig_any 0#8 1 _ _ _ _ _ hp (hC1.ext hX) (by decide) (by simp only [sumL]; omega)
  rw [show shaF (joinF (fun _ => 0#8) 1 (fun _ => l) (fun _ => b) 1) (1 + sumL (fun _ => l) 1) = R by
    rw [hR.out]
    unfold leafF
    rw [show 1 + sumL (fun _ => l) 1 = 1 + l by simp only [sumL]; omega]
    refine shaF_congr _ _ _ fun j hj => ?_
    by_cases h : j = 0
    · subst h; simp [joinF, catF, sumL, leafT]
    · simp [joinF, catF, sumL, leafT, h]] at hd
  have HE2 := hideit (Ext.trans HE0.out hX)
  have HR2 := hideit (HR0.out.carry hX)
  clear hX hp HE0 HR0 hv1 hC1
  refine wpList_call rfl (by simp [go_sem]) (hd.mono ?_)
  rintro e w4 ⟨rfl, hw4⟩
  refine ⟨_, rfl, ?_⟩
  simp only [Act.put, List.setIfInBounds_toArray, List.set_cons_zero, List.set_cons_succ]
  have HE4 := hideit (Ext.trans HE2.out hw4)
  have HR4 := hideit (HR2.out.carry hw4)
  clear HE2 HR2 hw4 hd
  refine wpList_store_mid rfl 25 (.tmp 2) (.tmp 5) rfl _ 0 (row 32 (yv R)).toArray rfl rfl (by rw [row_size]; exact HR4.out.there) (by rw [row_size]; exact info24) (row_one fun _ _ => rfl) ?_
  go_wp2
  exact bodyPost_ret (ret_row Tryd.results12 rfl (HR4.out.cells (g' := yv R)) Tryd.underlying25 rfl info24) rfl ⟨rfl, below_setCells _ (Nat.le_refl _) _ _ _ HE4.out⟩
def u2 (a b : Value) : Nat → Value := fun j => if j = 0 then a else b
set_option maxRecDepth 20000 in
set_option maxHeartbeats 2000000 in
theorem node_any (x : Int) (c : BitVec 8) (hc : x % 256 = (c.toNat : Int)) (v : Value) (l : Nat) (b : Nat → BitVec 8) (w : World) (hv : BV v l b w) (hC : TabC w) (hl : l < 576460752303423488) :
    Calls Tryd.prog 14 #[.int .i64 x, v] w fun e w' => e = .returned (.agg (row 32 (yv (nodeF c b l))).toArray) ∧ Ext w w' := by
  obtain ⟨ov, cap, rfl⟩ := hv.form
  obtain ⟨R, hR⟩ : ∃ R, R = nodeF c b l := ⟨_, rfl⟩
  have hz := zero24
  have HR0 := hideit (RowAt.new w 32 (yv fun _ => 0#8) 25)
  have HE0 : Ext w (w.alloc (.cells (row 32 (yv fun _ => 0#8)).toArray 25)) := (Below.refl _ _).alloc (Nat.le_refl _) _
  have hv1 := hv.ext HE0
  have hC1 := hC.ext HE0
  replace HE0 := hideit HE0
  rw [← hR]
  replace hR := hideit hR
  clear hv hC
  go_enter Tryd.func14, Tryd.ntmps14
  go_upto_region 1 with (fail)
  generalize w.alloc (.cells (row 32 (yv fun _ => 0#8)).toArray 25) = w1 at *
  refine wp_region_lit ?_
  refine wpList_run rfl (.int .i64 x) (by simp [go_sem]) ?_
  simp only [Act.put, List.setIfInBounds_toArray, List.set_cons_zero, List.set_cons_succ]
  refine wpList_run rfl (.int .u8 (c.toNat : Int)) (by simp [go_sem, wrap8, hc]) ?_
  simp only [Act.put, List.setIfInBounds_toArray, List.set_cons_zero, List.set_cons_succ]
  refine wpList_to rfl (.slice (some ⟨w1.heap.size, 0, none⟩) 1 1) (w1.alloc (.cells #[.int .u8 (c.toNat : Int)] 5)) (by simp [go_sem]) ?_
  simp only [Act.put, List.setIfInBounds_toArray, List.set_cons_zero, List.set_cons_succ]
  have hX : Ext w1 (w1.alloc (.cells #[.int .u8 (c.toNat : Int)] 5)) := (Below.refl _ _).alloc (Nat.le_refl _) _
  have hl1 := lie1 w1 _ c rfl
  have hv2 := hv1.ext hX
  have hC2 := hC1.ext hX
  have HE1 := hideit (Ext.trans HE0.out hX)
  have HR1 := hideit (HR0.out.carry hX)
  generalize w1.heap.size = a1 at *
  generalize w1.alloc (.cells #[.int .u8 (c.toNat : Int)] 5) = w2 at *
  clear hX HE0 HR0 hv1 hC1
  refine wpList_run rfl (.slice ov l cap) (by simp [go_sem]) ?_
  simp only [Act.put, List.setIfInBounds_toArray, List.set_cons_zero, List.set_cons_succ]
  refine wpList_to rfl (.slice (some ⟨w2.heap.size, 0, none⟩) 2 2) (w2.alloc (.cells #[.slice (some ⟨a1, 0, none⟩) 1 1, .slice ov l cap] 23)) (by simp [go_sem]) ?_
  simp only [Act.put, List.setIfInBounds_toArray, List.set_cons_zero, List.set_cons_succ]
  have hX : Ext w2 (w2.alloc (.cells #[.slice (some ⟨a1, 0, none⟩) 1 1, .slice ov l cap] 23)) := (Below.refl _ _).alloc (Nat.le_refl _) _
  have hp := parts_new w2 2 #[.slice (some ⟨a1, 0, none⟩) 1 1, .slice ov l cap] (u2 (.slice (some ⟨a1, 0, none⟩) 1 1) (.slice ov l cap)) (fun j => if j = 0 then 1 else l) (fun j => if j = 0 then (fun _ => c) else b) (fun j hj => by
      rcases (by omega : j = 0 ∨ j = 1) with rfl | rfl <;> rfl) (fun i hi => by
      rcases (by omega : i = 0 ∨ i = 1) with rfl | rfl
      · exact .inr ⟨_, 1, rfl, Nat.le_refl _, hl1⟩
      · exact hv2)
  have hd := tdig_any 1#8 2 _ _ _ _ _ hp (hC2.ext hX) (by decide) (by simp [sumL]; omega)
  rw [show shaF (joinF (fun _ => 1#8) 1 (fun j => if j = 0 then 1 else l) (fun j => if j = 0 then (fun _ => c) else b) 2) (1 + sumL (fun j => if j = 0 then 1 else l) 2) = R by
    rw [hR.out]
    unfold nodeF
    rw [show 1 + sumL (fun j => if j = 0 then 1 else l) 2 = 2 + l by simp [sumL]; omega]
    refine shaF_congr _ _ _ fun j hj => ?_
    by_cases h : j = 0
    · subst h; simp [joinF, catF, sumL, nodeT]
    · by_cases h1 : j = 1
      · subst h1; simp [joinF, catF, sumL, nodeT]
      · simp [joinF, catF, sumL, nodeT, h, h1, show ¬ j < 2 by omega]] at hd
  have HE2 := hideit (Ext.trans HE1.out hX)
  have HR2 := hideit (HR1.out.carry hX)
  clear hX hp HE1 HR1 hv2 hC2 hl1
  refine wpList_call rfl (by simp [go_sem]) (hd.mono ?_)
  rintro e w4 ⟨rfl, hw4⟩
  refine ⟨_, rfl, ?_⟩
  simp only [Act.put, List.setIfInBounds_toArray, List.set_cons_zero, List.set_cons_succ]
  have HE4 := hideit (Ext.trans HE2.out hw4)
  have HR4 := hideit (HR2.out.carry hw4)
  clear HE2 HR2 hw4 hd
  refine wpList_store_mid rfl 25 (.tmp 4) (.tmp 10) rfl _ 0 (row 32 (yv R)).toArray rfl rfl (by rw [row_size]; exact HR4.out.there) (by rw [row_size]; exact info24) (row_one fun _ _ => rfl) ?_
  go_wp2
  exact bodyPost_ret (ret_row Tryd.results14 rfl (HR4.out.cells (g' := yv R)) Tryd.underlying25 rfl info24) rfl ⟨rfl, below_setCells _ (Nat.le_refl _) _ _ _ HE4.out⟩
theorem cutR25 (b : Nat) (X : World) : Sem.run Tryd.prog (Instr.sliceAt 25 (.pointer (some ⟨b, 0, none⟩)) none none none) X = .ok (.slice (some ⟨b, 0, none⟩) 32 32) X := by
  kernel_rfl
def u4 (n : Nat) : Nat → BitVec 8 := nB n
set_option maxRecDepth 20000 in
set_option maxHeartbeats 2000000 in
theorem root_any (n : Nat) (d : Nat → BitVec 8) (w : World) (hC : TabC w) :
    Calls Tryd.prog 28 #[.int .i64 (n : Int), .agg (row 32 (yv d)).toArray] w fun e w' => e = .returned (.agg (row 32 (yv (rootF n d))).toArray) ∧ Ext w w' := by
  obtain ⟨R, hR⟩ : ∃ R, R = rootF n d := ⟨_, rfl⟩
  have hz := zero24
  have HD0 := hideit (RowAt.new w 32 (yv d) 25)
  have hX0 : Ext w (w.alloc (.cells (row 32 (yv d)).toArray 25)) := (Below.refl _ _).alloc (Nat.le_refl _) _
  have HR0 := hideit (RowAt.new (w.alloc (.cells (row 32 (yv d)).toArray 25)) 32 (yv fun _ => 0#8) 25)
  have hX1 : Ext (w.alloc (.cells (row 32 (yv d)).toArray 25)) ((w.alloc (.cells (row 32 (yv d)).toArray 25)).alloc (.cells (row 32 (yv fun _ => 0#8)).toArray 25)) := (Below.refl _ _).alloc (Nat.le_refl _) _
  have HD1 := hideit (HD0.out.carry hX1)
  have HE1 := hideit (Ext.trans hX0 hX1)
  have hC1 := hC.ext HE1.out
  have hsz : (w.alloc (.cells (row 32 (yv d)).toArray 25)).heap.size = w.heap.size + 1 := by simp
  rw [hsz] at HR0
  rw [← hR]
  replace hR := hideit hR
  clear HD0 hX0 hX1 hsz hC
  have f0 := nB_fact n 0
  have f1 := nB_fact n 1
  have f2 := nB_fact n 2
  have f3 := nB_fact n 3
  simp at f0 f1 f2 f3
  go_enter Tryd.func28, Tryd.ntmps28
  go_upto_region 1 with (fail)
  generalize (w.alloc (.cells (row 32 (yv d)).toArray 25)).alloc (.cells (row 32 (yv fun _ => 0#8)).toArray 25) = w1 at *
  refine wp_region_lit ?_
  refine wpList_run rfl (.int .i64 (n : Int)) (by simp [go_sem]) ?_
  simp only [Act.put, List.setIfInBounds_toArray, List.set_cons_zero, List.set_cons_succ]
  refine wpList_run rfl (.int .u8 ((nB n 0).toNat : Int)) (by simp [go_sem, wrap8, f0]) ?_
  simp only [Act.put, List.setIfInBounds_toArray, List.set_cons_zero, List.set_cons_succ]
  refine wpList_run rfl (.int .i64 (n : Int)) (by simp [go_sem]) ?_
  simp only [Act.put, List.setIfInBounds_toArray, List.set_cons_zero, List.set_cons_succ]
  refine wpList_run rfl (.int .i64 ((n : Int) / 256)) (by simp [go_sem]) ?_
  simp only [Act.put, List.setIfInBounds_toArray, List.set_cons_zero, List.set_cons_succ]
  refine wpList_run rfl (.int .u8 ((nB n 1).toNat : Int)) (by simp [go_sem, wrap8, f1]) ?_
  simp only [Act.put, List.setIfInBounds_toArray, List.set_cons_zero, List.set_cons_succ]
  refine wpList_run rfl (.int .i64 (n : Int)) (by simp [go_sem]) ?_
  simp only [Act.put, List.setIfInBounds_toArray, List.set_cons_zero, List.set_cons_succ]
  refine wpList_run rfl (.int .i64 ((n : Int) / 65536)) (by simp [go_sem]) ?_
  simp only [Act.put, List.setIfInBounds_toArray, List.set_cons_zero, List.set_cons_succ]
  refine wpList_run rfl (.int .u8 ((nB n 2).toNat : Int)) (by simp [go_sem, wrap8, f2]) ?_
  simp only [Act.put, List.setIfInBounds_toArray, List.set_cons_zero, List.set_cons_succ]
  refine wpList_run rfl (.int .i64 (n : Int)) (by simp [go_sem]) ?_
  simp only [Act.put, List.setIfInBounds_toArray, List.set_cons_zero, List.set_cons_succ]
  refine wpList_run rfl (.int .i64 ((n : Int) / 16777216)) (by simp [go_sem]) ?_
  simp only [Act.put, List.setIfInBounds_toArray, List.set_cons_zero, List.set_cons_succ]
  refine wpList_run rfl (.int .u8 ((nB n 3).toNat : Int)) (by simp [go_sem, wrap8, f3]) ?_
  simp only [Act.put, List.setIfInBounds_toArray, List.set_cons_zero, List.set_cons_succ]
  clear f0 f1 f2 f3
  obtain ⟨C, hCC⟩ : ∃ C : Array Value, C = #[.int .u8 ((nB n 0).toNat : Int), .int .u8 ((nB n 1).toNat : Int), .int .u8 ((nB n 2).toNat : Int), .int .u8 ((nB n 3).toNat : Int)] := ⟨_, rfl⟩
  have hl4 := lieNew w1 4 C 5 (0, 0) (yv (u4 n)) (fun j hj => by
    rw [hCC]
    rcases (by omega : j = 0 ∨ j = 1 ∨ j = 2 ∨ j = 3) with rfl | rfl | rfl | rfl <;> rfl)
  have hX : Ext w1 (w1.alloc (.cells C 5)) := (Below.refl _ _).alloc (Nat.le_refl _) _
  refine wpList_to rfl (.slice (some ⟨w1.heap.size, 0, none⟩) 4 4) (w1.alloc (.cells C 5)) (by simp [go_sem, hCC]) ?_
  simp only [Act.put, List.setIfInBounds_toArray, List.set_cons_zero, List.set_cons_succ]
  have HD2 := hideit (HD1.out.carry hX)
  have HR2 := hideit (HR0.out.carry hX)
  have HE2 := hideit (Ext.trans HE1.out hX)
  have hC2 := hC1.ext hX
  clear HD1 HR0 HE1 hC1 hX hCC
  generalize w1.heap.size = a1 at *
  generalize w1.alloc (.cells C 5) = w2 at *
  go_upto_region 2 with (fail)
  refine wp_region_lit ?_
  refine wpList_run rfl (.slice (some ⟨a1, 0, none⟩) 4 4) (by simp [go_sem]) ?_
  simp only [Act.put, List.setIfInBounds_toArray, List.set_cons_zero, List.set_cons_succ]
  refine wpList_run rfl (.slice (some ⟨w.heap.size, 0, none⟩) 32 32) (by simp [go_sem, cutR25]) ?_
  simp only [Act.put, List.setIfInBounds_toArray, List.set_cons_zero, List.set_cons_succ]
  refine wpList_to rfl (.slice (some ⟨w2.heap.size, 0, none⟩) 2 2) (w2.alloc (.cells #[.slice (some ⟨a1, 0, none⟩) 4 4, .slice (some ⟨w.heap.size, 0, none⟩) 32 32] 23)) (by simp [go_sem]) ?_
  simp only [Act.put, List.setIfInBounds_toArray, List.set_cons_zero, List.set_cons_succ]
  have hX : Ext w2 (w2.alloc (.cells #[.slice (some ⟨a1, 0, none⟩) 4 4, .slice (some ⟨w.heap.size, 0, none⟩) 32 32] 23)) := (Below.refl _ _).alloc (Nat.le_refl _) _
  have hp := parts_new w2 2 #[.slice (some ⟨a1, 0, none⟩) 4 4, .slice (some ⟨w.heap.size, 0, none⟩) 32 32] (u2 (.slice (some ⟨a1, 0, none⟩) 4 4) (.slice (some ⟨w.heap.size, 0, none⟩) 32 32)) (fun j => if j = 0 then 4 else 32) (fun j => if j = 0 then u4 n else d) (fun j hj => by
      rcases (by omega : j = 0 ∨ j = 1) with rfl | rfl <;> rfl) (fun i hi => by
      rcases (by omega : i = 0 ∨ i = 1) with rfl | rfl
      · exact .inr ⟨_, 4, rfl, Nat.le_refl _, hl4⟩
      · exact .inr ⟨_, 32, rfl, Nat.le_refl _, HD2.out.lie 32 (Nat.le_refl _)⟩)
  have hd := tdig_any 2#8 2 _ _ _ _ _ hp (hC2.ext hX) (by decide) (by simp [sumL])
  rw [show shaF (joinF (fun _ => 2#8) 1 (fun j => if j = 0 then 4 else 32) (fun j => if j = 0 then u4 n else d) 2) (1 + sumL (fun j => if j = 0 then 4 else 32) 2) = R by
    rw [hR.out]
    unfold rootF
    rw [show 1 + sumL (fun j => if j = 0 then 4 else 32) 2 = 37 by simp [sumL]]
    refine shaF_congr _ _ _ fun j hj => ?_
    by_cases h : j = 0
    · subst h; simp [joinF, catF, sumL, rootT]
    · by_cases h1 : j < 5
      · simp [joinF, catF, sumL, rootT, h, h1, u4]
      · simp [joinF, catF, sumL, rootT, h, h1]] at hd
  have HE3 := hideit (Ext.trans HE2.out hX)
  have HR3 := hideit (HR2.out.carry hX)
  clear hX hp HE2 HR2 hC2 hl4 HD2
  refine wpList_call rfl (by simp [go_sem]) (hd.mono ?_)
  rintro e w4 ⟨rfl, hw4⟩
  refine ⟨_, rfl, ?_⟩
  simp only [Act.put, List.setIfInBounds_toArray, List.set_cons_zero, List.set_cons_succ]
  have HE4 := hideit (Ext.trans HE3.out hw4)
  have HR4 := hideit (HR3.out.carry hw4)
  clear HE3 HR3 hw4 hd
  refine wpList_store_mid rfl 25 (.tmp 4) (.tmp 21) rfl _ 0 (row 32 (yv R)).toArray rfl rfl (by rw [row_size]; exact HR4.out.there) (by rw [row_size]; exact info24) (row_one fun _ _ => rfl) ?_
  go_wp2
  exact bodyPost_ret (ret_row Tryd.results28 rfl (HR4.out.cells (g' := yv R)) Tryd.underlying25 rfl info24) rfl ⟨rfl, below_setCells _ (Nat.le_succ _) _ _ _ HE4.out⟩
end Go.Proofs.YtapmheocllicnaaDoor
