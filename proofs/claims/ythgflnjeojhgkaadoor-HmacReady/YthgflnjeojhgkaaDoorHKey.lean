/-
  A key made ready; a digest begun with it, a mask added to each byte.
-/
import Derived.Test.YthgflnjeojhgkaaDoorHEq
import Derived.Deep.CutRange
namespace Go.Proofs.YthgflnjeojhgkaaDoor
open Go.RowKit Go.BigFrame
def readyF (l : Nat) (key : Nat → BitVec 8) (j : Nat) : BitVec 8 := if 64 < l then (if j < 32 then shaF key l j else 0#8) else if j < l then key j else 0#8
def maskF (r : Nat → BitVec 8) (x : BitVec 8) (j : Nat) : BitVec 8 := xE8 (r j) x
theorem RowAt.lie {b n : Nat} {g : Nat → Value} {w : World} (h : RowAt b n g w) (m : Nat) (hm : m ≤ n) : LieAt ⟨b, 0, none⟩ m g w :=
  ⟨fun j hj => by
    have hadd : (⟨b, 0, none⟩ : Addr).add j = ⟨b, j, none⟩ := by unfold Addr.add; split <;> simp_all
    rw [hadd]
    exact h.1 j (by omega), h.2.2⟩
theorem cutR23 (b : Nat) (X : World) : Sem.run Tryd.prog (Instr.sliceAt 23 (.pointer (some ⟨b, 0, none⟩)) none none none) X = .ok (.slice (some ⟨b, 0, none⟩) 32 32) X := by
  kernel_rfl
theorem cutR54 (b : Nat) (X : World) : Sem.run Tryd.prog (Instr.sliceAt 54 (.pointer (some ⟨b, 0, none⟩)) none none none) X = .ok (.slice (some ⟨b, 0, none⟩) 64 64) X := by
  kernel_rfl
set_option maxRecDepth 20000 in
set_option maxHeartbeats 1000000 in
theorem ready_some (a : Addr) (l cap : Nat) (key : Nat → BitVec 8) (w : World) (hcap : l ≤ cap) (hb : LieAt a l (yv key) w) (hC : TabC w) (hl : l ≤ 140737488351232) :
    Calls Tryd.prog 30 #[.slice (some a) l cap] w fun e w' => e = .returned (.agg (row 64 (yv (readyF l key))).toArray) ∧ Below w.heap.size w w' := by
  have hz := zero29
  have hz2 := zero24
  obtain ⟨R, hR⟩ : ∃ R, R = readyF l key := ⟨_, rfl⟩
  rw [← hR]
  replace hR := hideit hR
  have HR0 := hideit (RowAt.new w 64 (yv fun _ => 0#8) 54)
  have HE0 : Ext w (w.alloc (.cells (row 64 (yv fun _ => 0#8)).toArray 54)) := (Below.refl _ _).alloc (Nat.le_refl _) _
  have HR1 := hideit (RowAt.new (w.alloc (.cells (row 64 (yv fun _ => 0#8)).toArray 54)) 64 (yv fun _ => 0#8) 54)
  have HE1 : Ext w ((w.alloc (.cells (row 64 (yv fun _ => 0#8)).toArray 54)).alloc (.cells (row 64 (yv fun _ => 0#8)).toArray 54)) := Ext.trans HE0 ((Below.refl _ _).alloc (Nat.le_refl _) _)
  have HR2 := hideit (RowAt.alloc HR0.out (.cells (row 64 (yv fun _ => 0#8)).toArray 54))
  have hsz : (w.alloc (.cells (row 64 (yv fun _ => 0#8)).toArray 54)).heap.size = w.heap.size + 1 := by simp
  rw [hsz] at HR1
  replace HE1 := hideit HE1
  clear HE0 HR0 hsz
  replace hC := hideit hC
  replace hb := hideit hb
  by_cases h64 : 64 < l
  · have i64 : (64 : Int) < (l : Int) := by omega
    have hs := shasum_any l cap key a _ (hb.out.carry HE1.out) hcap (by omega) (hC.out.ext HE1.out)
    obtain ⟨D, hD⟩ : ∃ D, D = shaF key l := ⟨_, rfl⟩
    rw [← hD] at hs
    replace hD := hideit hD
    replace hs := hideit hs
    go_enter Tryd.func30, Tryd.ntmps30
    go_upto_region 3 with (fail)
    generalize (w.alloc (.cells (row 64 (yv fun _ => 0#8)).toArray 54)).alloc (.cells (row 64 (yv fun _ => 0#8)).toArray 54) = w2 at *
    refine wp_region_lit ?_
    refine wpList_run rfl (.slice (some a) l cap) (by simp [go_sem]) ?_
    simp only [Act.put, List.setIfInBounds_toArray, List.set_cons_zero, List.set_cons_succ]
    refine wpList_call rfl (by simp [go_sem]) (hs.out.mono ?_)
    rintro e w3 ⟨rfl, hw3⟩
    refine ⟨_, rfl, ?_⟩
    simp only [Act.put, List.setIfInBounds_toArray, List.set_cons_zero, List.set_cons_succ]
    have HR3 := hideit (HR1.out.carry hw3)
    have HQ3 := hideit (HR2.out.carry hw3)
    have HE3 := hideit (Ext.trans HE1.out hw3)
    clear hs hw3 HR1 HR2 HE1
    have HN := hideit (RowAt.new w3 32 (yv fun _ => 0#8) 23)
    have hE4 : Ext w3 (w3.alloc (.cells (row 32 (yv fun _ => 0#8)).toArray 23)) := (Below.refl _ _).alloc (Nat.le_refl _) _
    have HR4 := hideit (HR3.out.carry hE4)
    have HQ4 := hideit (HQ3.out.carry hE4)
    have HE4 := hideit (Ext.trans HE3.out hE4)
    have hlt : w.heap.size + 1 < w3.heap.size := HR3.out.2.2
    clear hE4 HE3 HR3 HQ3
    refine wpList_to rfl (.pointer (some ⟨w3.heap.size, 0, none⟩)) (w3.alloc (.cells (row 32 (yv fun _ => 0#8)).toArray 23)) (by simp [go_sem, hz2]) ?_
    simp only [Act.put, List.setIfInBounds_toArray, List.set_cons_zero, List.set_cons_succ]
    refine wpList_store_mid rfl 23 (.tmp 4) (.tmp 9) rfl _ 0 (row 32 (yv D)).toArray rfl rfl (by rw [row_size]; exact HN.out.there) (by rw [row_size]; exact info24) (row_one fun _ _ => rfl) ?_
    have HN2 := hideit (HN.out.cells (g' := yv D))
    have HR5 := hideit (HR4.out.cellsOther (c := w3.heap.size) (by omega) (row 32 (yv D)) 0)
    have HQ5 := hideit (HQ4.out.cellsOther (c := w3.heap.size) (by omega) (row 32 (yv D)) 0)
    have HE5 := hideit (below_setCells w3.heap.size (by omega) (row 32 (yv D)) 0 _ HE4.out)
    simp only at HN2 HR5 HQ5 HE5
    generalize ((w3.alloc (.cells (row 32 (yv fun _ => 0#8)).toArray 23)).setCells w3.heap.size 0 (row 32 (yv D))) = w5 at *
    clear HN HR4 HQ4 HE4
    simp only [Act.put]
    have c23 := cutR23
    have c54 := cutR54
    go_upto_region 5 with (fail)
    refine wp_region_lit ?_
    refine wpList_run rfl (.slice (some ⟨w.heap.size + 1, 0, none⟩) 64 64) (by simp [go_sem, c54]) ?_
    refine wpList_run rfl (.slice (some ⟨w3.heap.size, 0, none⟩) 32 32) (by simp [go_sem]) ?_
    simp only [Act.put, List.setIfInBounds_toArray, List.set_cons_zero, List.set_cons_succ]
    refine wpList_copy_row rfl (.tmp 11) (.tmp 12) 22 22 rfl 5 Tryd.underlying22 info5 (w.heap.size + 1) 64 (yv fun _ => 0#8) HR5.out 0 64 64 ⟨w3.heap.size, 0, none⟩ 32 32 rfl rfl 32 (yv D) (by decide) (fun j hj => (HN2.out.lie 32 (by omega)).1 j hj) (by omega) (fun _ _ => rfl) ?_
    have HR6 : RowAt (w.heap.size + 1) 64 (yv R) (w5.setCells (w.heap.size + 1) 0 (row 32 (yv D))) := (HR5.out.part 0 32 (yv D) (by omega)).congr fun j hj => by
      rw [hR.out, hD.out]
      simp only [yv, readyF, if_pos h64, Nat.sub_zero]
      by_cases h : j < 32
      · rw [if_pos (by omega), if_pos h]
      · rw [if_neg (by omega), if_neg h]
    have HQ6 := hideit (HQ5.out.cellsOther (c := w.heap.size + 1) (by omega) (row 32 (yv D)) 0)
    have HE6 := hideit (below_setCells (w.heap.size + 1) (by omega) (row 32 (yv D)) 0 _ HE5.out)
    replace HR6 := hideit HR6
    generalize w5.setCells (w.heap.size + 1) 0 (row 32 (yv D)) = w6 at *
    clear HR5 HQ5 HE5 HN2
    simp only [Act.put, List.setIfInBounds_toArray, List.set_cons_zero, List.set_cons_succ]
    go_wp2_with (first | (refine wpList_load_mid rfl 54 (.tmp 3) rfl _ 0 rfl (row 64 (yv R)) _ HR6.out.range Tryd.underlying54 rfl (by rw [row_length]; exact info29) ?_) | (refine wpList_store_mid rfl 54 (.tmp 2) (.tmp 14) rfl _ 0 (row 64 (yv R)).toArray rfl rfl (by rw [row_size]; exact HQ6.out.there) (by rw [row_size]; exact info29) (row_one fun _ _ => rfl) ?_))
    exact bodyPost_ret (ret_row Tryd.results30 rfl (HQ6.out.cells (g' := yv R)) Tryd.underlying54 rfl info29) rfl ⟨rfl, below_setCells _ (Nat.le_refl _) _ _ _ HE6.out⟩
  · have i64 : ¬ (64 : Int) < (l : Int) := by omega
    have c54 := cutR54
    go_enter Tryd.func30, Tryd.ntmps30
    go_upto_region 5 with (fail)
    have HL2 := hideit (hb.out.carry HE1.out)
    generalize (w.alloc (.cells (row 64 (yv fun _ => 0#8)).toArray 54)).alloc (.cells (row 64 (yv fun _ => 0#8)).toArray 54) = w5 at *
    refine wp_region_lit ?_
    refine wpList_run rfl (.slice (some ⟨w.heap.size + 1, 0, none⟩) 64 64) (by simp [go_sem, c54]) ?_
    refine wpList_run rfl (.slice (some a) l cap) (by simp [go_sem]) ?_
    simp only [Act.put, List.setIfInBounds_toArray, List.set_cons_zero, List.set_cons_succ]
    refine wpList_copy_row rfl (.tmp 11) (.tmp 12) 22 22 rfl 5 Tryd.underlying22 info5 (w.heap.size + 1) 64 (yv fun _ => 0#8) HR1.out 0 64 64 a l cap rfl rfl l (yv key) (Nat.min_eq_left (by omega : l ≤ 64)).symm (fun j hj => HL2.out.1 j hj) (by omega) (fun _ _ => rfl) ?_
    have HR6 : RowAt (w.heap.size + 1) 64 (yv R) (w5.setCells (w.heap.size + 1) 0 (row l (yv key))) := (HR1.out.part 0 l (yv key) (by omega)).congr fun j hj => by
      rw [hR.out]
      simp only [yv, readyF, if_neg h64, Nat.sub_zero]
      by_cases h : j < l
      · rw [if_pos (by omega), if_pos h]
      · rw [if_neg (by omega), if_neg h]
    have HQ6 := hideit (HR2.out.cellsOther (c := w.heap.size + 1) (by omega) (row l (yv key)) 0)
    have HE6 := hideit (below_setCells (w.heap.size + 1) (by omega) (row l (yv key)) 0 _ HE1.out)
    replace HR6 := hideit HR6
    generalize w5.setCells (w.heap.size + 1) 0 (row l (yv key)) = w6 at *
    clear HR1 HR2 HE1 HL2
    simp only [Act.put, List.setIfInBounds_toArray, List.set_cons_zero, List.set_cons_succ]
    go_wp2_with (first | (refine wpList_load_mid rfl 54 (.tmp 3) rfl _ 0 rfl (row 64 (yv R)) _ HR6.out.range Tryd.underlying54 rfl (by rw [row_length]; exact info29) ?_) | (refine wpList_store_mid rfl 54 (.tmp 2) (.tmp 14) rfl _ 0 (row 64 (yv R)).toArray rfl rfl (by rw [row_size]; exact HQ6.out.there) (by rw [row_size]; exact info29) (row_one fun _ _ => rfl) ?_))
    exact bodyPost_ret (ret_row Tryd.results30 rfl (HQ6.out.cells (g' := yv R)) Tryd.underlying54 rfl info29) rfl ⟨rfl, below_setCells _ (Nat.le_refl _) _ _ _ HE6.out⟩
theorem copy_none (b : Nat) (X : World) : (Builtin.copy_ #[22, 22] 3 #[.slice (some ⟨b, 0, none⟩) 64 64, .slice none 0 0]).run Tryd.prog X = .ok (.int .i64 0) X := by kernel_rfl
set_option maxRecDepth 20000 in
set_option maxHeartbeats 1000000 in
theorem ready_none (key : Nat → BitVec 8) (w : World) :
    Calls Tryd.prog 30 #[.slice none 0 0] w fun e w' => e = .returned (.agg (row 64 (yv (readyF 0 key))).toArray) ∧ Below w.heap.size w w' := by
  have hz := zero29
  have hR : readyF 0 key = fun _ => 0#8 := by
    funext j
    unfold readyF
    rw [if_neg (by omega), if_neg (by omega)]
  rw [hR]
  clear hR
  have HR0 := hideit (RowAt.new w 64 (yv fun _ => 0#8) 54)
  have HE0 : Ext w (w.alloc (.cells (row 64 (yv fun _ => 0#8)).toArray 54)) := (Below.refl _ _).alloc (Nat.le_refl _) _
  have HR1 := hideit (RowAt.new (w.alloc (.cells (row 64 (yv fun _ => 0#8)).toArray 54)) 64 (yv fun _ => 0#8) 54)
  have HE1 : Ext w ((w.alloc (.cells (row 64 (yv fun _ => 0#8)).toArray 54)).alloc (.cells (row 64 (yv fun _ => 0#8)).toArray 54)) := Ext.trans HE0 ((Below.refl _ _).alloc (Nat.le_refl _) _)
  have HR2 := hideit (RowAt.alloc HR0.out (.cells (row 64 (yv fun _ => 0#8)).toArray 54))
  have hsz : (w.alloc (.cells (row 64 (yv fun _ => 0#8)).toArray 54)).heap.size = w.heap.size + 1 := by simp
  rw [hsz] at HR1
  replace HE1 := hideit HE1
  clear HE0 HR0 hsz
  have c54 := cutR54
  have cn := copy_none
  go_enter Tryd.func30, Tryd.ntmps30
  go_upto_region 6 with (fail)
  generalize (w.alloc (.cells (row 64 (yv fun _ => 0#8)).toArray 54)).alloc (.cells (row 64 (yv fun _ => 0#8)).toArray 54) = w5 at *
  go_wp2_with (first | (refine wpList_load_mid rfl 54 (.tmp 3) rfl _ 0 rfl (row 64 (yv fun _ => 0#8)) _ HR1.out.range Tryd.underlying54 rfl (by rw [row_length]; exact info29) ?_) | (refine wpList_store_mid rfl 54 (.tmp 2) (.tmp 14) rfl _ 0 (row 64 (yv fun _ => 0#8)).toArray rfl rfl (by rw [row_size]; exact HR2.out.there) (by rw [row_size]; exact info29) (row_one fun _ _ => rfl) ?_))
  exact bodyPost_ret (ret_row Tryd.results30 rfl (HR2.out.cells (g' := yv fun _ => 0#8)) Tryd.underlying54 rfl info29) rfl ⟨rfl, below_setCells _ (Nat.le_refl _) _ _ _ HE1.out⟩
theorem ready_any (v : Value) (l : Nat) (key : Nat → BitVec 8) (w : World) (h : BV v l key w) (hC : TabC w) (hl : l ≤ 140737488351232) :
    Calls Tryd.prog 30 #[v] w fun e w' => e = .returned (.agg (row 64 (yv (readyF l key))).toArray) ∧ Below w.heap.size w w' := by
  rcases h with ⟨rfl, rfl⟩ | ⟨a, cap, rfl, h2, h3⟩
  · exact ready_none key w
  · exact ready_some a l cap key w h2 h3 hC hl
end Go.Proofs.YthgflnjeojhgkaaDoor
