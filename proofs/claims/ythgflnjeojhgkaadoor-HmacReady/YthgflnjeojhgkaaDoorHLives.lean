/-
  lives: what must come of every program, comes.
-/
import Derived.Test.YthgflnjeojhgkaaDoorHDrv
import Derived.Lib.SlBytesConst
namespace Go.Proofs.YthgflnjeojhgkaaDoor
open Go.RowKit Go.BigFrame
/-- bytes of a text that stands in the program -/
theorem constB (w : World) (C : Array Value) (n : Nat) (f : Nat → BitVec 8) (hC : ∀ j, j < n → C[j]? = some (yv f j)) : ∃ X, (convert 22 22 (.slice (some ⟨w.heap.size, 0, none⟩) n n)).run Tryd.prog (w.alloc (.cells C 5)) = .ok (.slice (some ⟨w.heap.size, 0, none⟩) n n) X ∧ BV (.slice (some ⟨w.heap.size, 0, none⟩) n n) n f X ∧ Ext w X :=
  ⟨_, mark_const w C n, .inr ⟨_, n, rfl, Nat.le_refl _, lie_new w n C 5 _ f hC⟩, (Below.refl _ _).alloc (Nat.le_refl _) _⟩
/-- bytes just made -/
theorem newB (w : World) (C : Array Value) (n : Nat) (f : Nat → BitVec 8) (hC : ∀ j, j < n → C[j]? = some (yv f j)) : BV (.slice (some ⟨w.heap.size, 0, none⟩) n n) n f (w.alloc (.cells C 5)) ∧ Ext w (w.alloc (.cells C 5)) :=
  ⟨.inr ⟨_, n, rfl, Nat.le_refl _, lie_new w n C 5 (0, 0) f hC⟩, (Below.refl _ _).alloc (Nat.le_refl _) _⟩
def oneF (j : Nat) : BitVec 8 := bT [1] j
def twoF (j : Nat) : BitVec 8 := bT [1, 0] j
def kF (j : Nat) : BitVec 8 := bT [107] j
theorem wpList_toW {P : Program} {w : World} {ops : Array Oper} {rest : List Oper} {o : Oper} {a : Act} {Q : Exit → Act → World → Prop} (hw : Region.wanted o (yielded ops a.tmps) = true) (v : Value) (w' : World) (hr : (execOp a.eval o).run P w = .ok (.value v) w')
    (h : wpList P ops Q rest (a.put o.dst v) w') : wpList P ops Q (o :: rest) a w :=
  wpList_step fun K hK => by
    rw [if_pos hw]
    unfold Oper.wp
    rw [hr]
    simp only [Oper.upon]
    exact hK _ _ h
set_option maxRecDepth 20000 in
set_option maxHeartbeats 4000000 in
theorem lives_any (w : World) (hC : TabC w) : Calls Tryd.prog 9 #[] w fun e w' => e = .returned (.bool true) ∧ Below w.heap.size w w' := by
  have hz2 := zero24
  replace hC := hideit hC
  go_enter Tryd.func9, Tryd.ntmps9
  go_upto_region 1 with (fail)
  refine wp_region_lit ?_
  obtain ⟨w1, hrun1, hB1, hE1⟩ := constB w #[.int .u8 74, .int .u8 101, .int .u8 102, .int .u8 101] 4 jefK (fun j hj => by rcases (by omega : j = 0 ∨ j = 1 ∨ j = 2 ∨ j = 3) with rfl | rfl | rfl | rfl <;> rfl)
  refine wpList_to rfl (.slice (some ⟨w.heap.size, 0, none⟩) 4 4) (w.alloc (.cells #[.int .u8 74, .int .u8 101, .int .u8 102, .int .u8 101] 5)) (by simp [go_sem]) ?_
  simp only [Act.put, List.setIfInBounds_toArray, List.set_cons_zero, List.set_cons_succ]
  refine wpList_to rfl (.slice (some ⟨w.heap.size, 0, none⟩) 4 4) w1 (by simp [go_sem, hrun1]) ?_
  simp only [Act.put, List.setIfInBounds_toArray, List.set_cons_zero, List.set_cons_succ]
  clear hrun1
  obtain ⟨w2, hrun2, hB2, hE2⟩ := constB w1 #[.int .u8 119, .int .u8 104, .int .u8 97, .int .u8 116, .int .u8 32, .int .u8 100, .int .u8 111, .int .u8 32, .int .u8 121, .int .u8 97, .int .u8 32] 11 jefA (fun j hj => by rcases (by omega : j = 0 ∨ j = 1 ∨ j = 2 ∨ j = 3 ∨ j = 4 ∨ j = 5 ∨ j = 6 ∨ j = 7 ∨ j = 8 ∨ j = 9 ∨ j = 10) with rfl | rfl | rfl | rfl | rfl | rfl | rfl | rfl | rfl | rfl | rfl <;> rfl)
  refine wpList_to rfl (.slice (some ⟨w1.heap.size, 0, none⟩) 11 11) (w1.alloc (.cells #[.int .u8 119, .int .u8 104, .int .u8 97, .int .u8 116, .int .u8 32, .int .u8 100, .int .u8 111, .int .u8 32, .int .u8 121, .int .u8 97, .int .u8 32] 5)) (by simp [go_sem]) ?_
  simp only [Act.put, List.setIfInBounds_toArray, List.set_cons_zero, List.set_cons_succ]
  refine wpList_to rfl (.slice (some ⟨w1.heap.size, 0, none⟩) 11 11) w2 (by simp [go_sem, hrun2]) ?_
  simp only [Act.put, List.setIfInBounds_toArray, List.set_cons_zero, List.set_cons_succ]
  clear hrun2
  obtain ⟨w3, hrun3, hB3, hE3⟩ := constB w2 #[.int .u8 119, .int .u8 97, .int .u8 110, .int .u8 116, .int .u8 32, .int .u8 102, .int .u8 111, .int .u8 114, .int .u8 32, .int .u8 110, .int .u8 111, .int .u8 116, .int .u8 104, .int .u8 105, .int .u8 110, .int .u8 103, .int .u8 63] 17 jefB (fun j hj => by rcases (by omega : j = 0 ∨ j = 1 ∨ j = 2 ∨ j = 3 ∨ j = 4 ∨ j = 5 ∨ j = 6 ∨ j = 7 ∨ j = 8 ∨ j = 9 ∨ j = 10 ∨ j = 11 ∨ j = 12 ∨ j = 13 ∨ j = 14 ∨ j = 15 ∨ j = 16) with rfl | rfl | rfl | rfl | rfl | rfl | rfl | rfl | rfl | rfl | rfl | rfl | rfl | rfl | rfl | rfl | rfl <;> rfl)
  refine wpList_to rfl (.slice (some ⟨w2.heap.size, 0, none⟩) 17 17) (w2.alloc (.cells #[.int .u8 119, .int .u8 97, .int .u8 110, .int .u8 116, .int .u8 32, .int .u8 102, .int .u8 111, .int .u8 114, .int .u8 32, .int .u8 110, .int .u8 111, .int .u8 116, .int .u8 104, .int .u8 105, .int .u8 110, .int .u8 103, .int .u8 63] 5)) (by simp [go_sem]) ?_
  simp only [Act.put, List.setIfInBounds_toArray, List.set_cons_zero, List.set_cons_succ]
  refine wpList_to rfl (.slice (some ⟨w2.heap.size, 0, none⟩) 17 17) w3 (by simp [go_sem, hrun3]) ?_
  simp only [Act.put, List.setIfInBounds_toArray, List.set_cons_zero, List.set_cons_succ]
  clear hrun3
  have hK3 := hB1.ext (Ext.trans hE2 hE3)
  have hA3 := hB2.ext hE3
  have hE03 := Ext.trans hE1 (Ext.trans hE2 hE3)
  have hE4 : Ext w3 (w3.alloc (.cells #[.slice (some ⟨w1.heap.size, 0, none⟩) 11 11, .slice (some ⟨w2.heap.size, 0, none⟩) 17 17] 22)) := (Below.refl _ _).alloc (Nat.le_refl _) _
  have hP4 : Parts (.slice (some ⟨w3.heap.size, 0, none⟩) 2 2) 2 (fun i => if i = 0 then .slice (some ⟨w1.heap.size, 0, none⟩) 11 11 else .slice (some ⟨w2.heap.size, 0, none⟩) 17 17) jefL jefP (w3.alloc (.cells #[.slice (some ⟨w1.heap.size, 0, none⟩) 11 11, .slice (some ⟨w2.heap.size, 0, none⟩) 17 17] 22)) := by
    refine ⟨.inr ⟨_, 2, rfl, Nat.le_refl _, lieNew w3 2 _ 22 (0, 0) _ (fun j hj => ?_)⟩, fun i hi => ?_⟩
    · rcases (by omega : j = 0 ∨ j = 1) with rfl | rfl <;> rfl
    · rcases (by omega : i = 0 ∨ i = 1) with rfl | rfl
      · exact hA3.ext hE4
      · exact hB3.ext hE4
  have ht := Tag_any _ _ 4 2 jefK _ jefL jefP _ (hK3.ext hE4) hP4 (hC.out.ext (Ext.trans hE03 hE4)) (by omega) (by omega) (by decide)
  rw [jef_tag] at ht
  obtain ⟨R, hR⟩ : ∃ R, R = shaF jefO 96 := ⟨_, rfl⟩
  rw [← hR] at ht
  have r0 : R 0 = 91#8 := by rw [hR]; exact jef_0
  have r1 : R 1 = 220#8 := by rw [hR]; exact jef_1
  have r31 : R 31 = 67#8 := by rw [hR]; exact jef_31
  clear hR
  replace ht := hideit ht
  have HE4 := hideit (Ext.trans hE03 hE4)
  clear hP4 hE4 hE03 hA3 hK3 hB1 hB2 hB3 hE1 hE2 hE3
  refine wpList_to rfl (.slice (some ⟨w3.heap.size, 0, none⟩) 2 2) (w3.alloc (.cells #[.slice (some ⟨w1.heap.size, 0, none⟩) 11 11, .slice (some ⟨w2.heap.size, 0, none⟩) 17 17] 22)) (by simp [go_sem]) ?_
  simp only [Act.put, List.setIfInBounds_toArray, List.set_cons_zero, List.set_cons_succ]
  generalize w3.alloc (.cells #[.slice (some ⟨w1.heap.size, 0, none⟩) 11 11, .slice (some ⟨w2.heap.size, 0, none⟩) 17 17] 22) = w4 at *
  refine wpList_call rfl (by simp [go_sem]) (ht.out.mono ?_)
  rintro e w5 ⟨rfl, hw5⟩
  refine ⟨_, rfl, ?_⟩
  simp only [Act.put, List.setIfInBounds_toArray, List.set_cons_zero, List.set_cons_succ]
  have HE5 := hideit (Ext.trans HE4.out hw5)
  clear ht hw5 HE4
  have HN := hideit (RowAt.new w5 32 (yv fun _ => 0#8) 23)
  have hE6 : Ext w5 (w5.alloc (.cells (row 32 (yv fun _ => 0#8)).toArray 23)) := (Below.refl _ _).alloc (Nat.le_refl _) _
  refine wpList_to rfl (.pointer (some ⟨w5.heap.size, 0, none⟩)) (w5.alloc (.cells (row 32 (yv fun _ => 0#8)).toArray 23)) (by simp [go_sem, hz2]) ?_
  simp only [Act.put, List.setIfInBounds_toArray, List.set_cons_zero, List.set_cons_succ]
  refine wpList_store_mid rfl 23 (.tmp 1) (.tmp 9) rfl _ 0 (row 32 (yv R)).toArray rfl rfl (by rw [row_size]; exact HN.out.there) (by rw [row_size]; exact info24) (row_one fun _ _ => rfl) ?_
  have HT := hideit (HN.out.cells (g' := yv R))
  have HE6 := hideit (below_setCells (B := w.heap.size) (w := w) w5.heap.size (Below.size HE5.out) (row 32 (yv R)) 0 _ (Ext.trans HE5.out hE6))
  generalize ((w5.alloc (.cells (row 32 (yv fun _ => 0#8)).toArray 23)).setCells w5.heap.size 0 (row 32 (yv R))) = w6 at *
  generalize w5.heap.size = b1 at *
  clear HN hE6 HE5
  have e0 := HT.out.1 0 (by omega)
  have e1 := HT.out.1 1 (by omega)
  have e31 := HT.out.1 31 (by omega)
  simp only [yv, r0, r1, r31] at e0 e1 e31
  clear HT r0 r1 r31
  simp only [Act.put]
  go_upto_region 2 with (fail)
  refine wp_region_lit ?_
  refine wpList_run rfl (.pointer (some ⟨b1, 0, none⟩)) (by simp [go_sem]) ?_
  simp only [Act.put, List.setIfInBounds_toArray, List.set_cons_zero, List.set_cons_succ]
  refine wpList_run rfl (.int .u8 91) (by simp [go_sem, e0]) ?_
  simp only [Act.put, List.setIfInBounds_toArray, List.set_cons_zero, List.set_cons_succ]
  refine wpList_run rfl (.bool true) (by simp [go_sem]) ?_
  simp only [Act.put, List.setIfInBounds_toArray, List.set_cons_zero, List.set_cons_succ]
  refine wpList_run rfl (.bool true) (by simp [go_sem]) ?_
  simp only [Act.put, List.setIfInBounds_toArray, List.set_cons_zero, List.set_cons_succ]
  refine wpList_runW rfl (.pointer (some ⟨b1, 1, none⟩)) (by simp [go_sem]) ?_
  simp only [Act.put, List.setIfInBounds_toArray, List.set_cons_zero, List.set_cons_succ]
  refine wpList_runW rfl (.int .u8 220) (by simp [go_sem, e1]) ?_
  simp only [Act.put, List.setIfInBounds_toArray, List.set_cons_zero, List.set_cons_succ]
  refine wpList_runW rfl (.bool true) (by simp [go_sem]) ?_
  simp only [Act.put, List.setIfInBounds_toArray, List.set_cons_zero, List.set_cons_succ]
  refine wpList_run rfl (.bool true) (by simp [go_sem]) ?_
  simp only [Act.put, List.setIfInBounds_toArray, List.set_cons_zero, List.set_cons_succ]
  refine wpList_run rfl (.bool true) (by simp [go_sem]) ?_
  simp only [Act.put, List.setIfInBounds_toArray, List.set_cons_zero, List.set_cons_succ]
  refine wpList_runW rfl (.pointer (some ⟨b1, 31, none⟩)) (by simp [go_sem]) ?_
  simp only [Act.put, List.setIfInBounds_toArray, List.set_cons_zero, List.set_cons_succ]
  refine wpList_runW rfl (.int .u8 67) (by simp [go_sem, e31]) ?_
  simp only [Act.put, List.setIfInBounds_toArray, List.set_cons_zero, List.set_cons_succ]
  refine wpList_runW rfl (.bool true) (by simp [go_sem]) ?_
  simp only [Act.put, List.setIfInBounds_toArray, List.set_cons_zero, List.set_cons_succ]
  refine wpList_run rfl (.bool true) (by simp [go_sem]) ?_
  simp only [Act.put, List.setIfInBounds_toArray, List.set_cons_zero, List.set_cons_succ]
  refine wpList_run rfl (.bool true) (by simp [go_sem]) ?_
  simp only [Act.put, List.setIfInBounds_toArray, List.set_cons_zero, List.set_cons_succ]
  clear e0 e1 e31
  obtain ⟨hBa, hEa⟩ := newB w6 #[.int .u8 1] 1 oneF (fun j hj => by obtain rfl : j = 0 := by omega
                                                                    rfl)
  refine wpList_toW rfl (.slice (some ⟨w6.heap.size, 0, none⟩) 1 1) (w6.alloc (.cells #[.int .u8 1] 5)) (by simp [go_sem]) ?_
  simp only [Act.put, List.setIfInBounds_toArray, List.set_cons_zero, List.set_cons_succ]
  have HE7 := hideit (Ext.trans HE6.out hEa)
  generalize w6.alloc (.cells #[.int .u8 1] 5) = w7 at *
  generalize w6.heap.size = q1 at *
  obtain ⟨hBb, hEb⟩ := newB w7 #[.int .u8 1] 1 oneF (fun j hj => by obtain rfl : j = 0 := by omega
                                                                    rfl)
  refine wpList_toW rfl (.slice (some ⟨w7.heap.size, 0, none⟩) 1 1) (w7.alloc (.cells #[.int .u8 1] 5)) (by simp [go_sem]) ?_
  simp only [Act.put, List.setIfInBounds_toArray, List.set_cons_zero, List.set_cons_succ]
  have HE8 := hideit (Ext.trans HE7.out hEb)
  have hq := hideit (equal_any _ _ 1 1 oneF oneF _ (hBa.ext hEb) hBb (by omega) (by omega) true ⟨fun _ => ⟨rfl, fun _ _ => rfl⟩, fun _ => rfl⟩)
  generalize w7.alloc (.cells #[.int .u8 1] 5) = w8 at *
  generalize w7.heap.size = q2 at *
  clear hBa hEa hBb hEb HE7 HE6
  refine wpList_callW rfl (by simp [go_sem]) (hq.out.mono ?_)
  rintro e w9 ⟨rfl, hw9⟩
  subst hw9
  refine ⟨_, rfl, ?_⟩
  simp only [Act.put, List.setIfInBounds_toArray, List.set_cons_zero, List.set_cons_succ]
  clear hq
  refine wpList_run rfl (.bool true) (by simp [go_sem]) ?_
  simp only [Act.put, List.setIfInBounds_toArray, List.set_cons_zero, List.set_cons_succ]
  refine wpList_run rfl (.bool true) (by simp [go_sem]) ?_
  simp only [Act.put, List.setIfInBounds_toArray, List.set_cons_zero, List.set_cons_succ]
  obtain ⟨hBa, hEa⟩ := newB w9 #[.int .u8 1] 1 oneF (fun j hj => by obtain rfl : j = 0 := by omega
                                                                    rfl)
  refine wpList_toW rfl (.slice (some ⟨w9.heap.size, 0, none⟩) 1 1) (w9.alloc (.cells #[.int .u8 1] 5)) (by simp [go_sem]) ?_
  simp only [Act.put, List.setIfInBounds_toArray, List.set_cons_zero, List.set_cons_succ]
  have HE10 := hideit (Ext.trans HE8.out hEa)
  generalize w9.alloc (.cells #[.int .u8 1] 5) = w10 at *
  generalize w9.heap.size = q3 at *
  obtain ⟨hBb, hEb⟩ := newB w10 #[.int .u8 1, .int .u8 0] 2 twoF (fun j hj => by rcases (by omega : j = 0 ∨ j = 1) with rfl | rfl <;> rfl)
  refine wpList_toW rfl (.slice (some ⟨w10.heap.size, 0, none⟩) 2 2) (w10.alloc (.cells #[.int .u8 1, .int .u8 0] 5)) (by simp [go_sem]) ?_
  simp only [Act.put, List.setIfInBounds_toArray, List.set_cons_zero, List.set_cons_succ]
  have HE11 := hideit (Ext.trans HE10.out hEb)
  have hq := hideit (equal_any _ _ 1 2 oneF twoF _ (hBa.ext hEb) hBb (by omega) (by omega) false ⟨fun h => Bool.noConfusion h, fun h => by have := h.1; omega⟩)
  generalize w10.alloc (.cells #[.int .u8 1, .int .u8 0] 5) = w11 at *
  generalize w10.heap.size = q4 at *
  clear hBa hEa hBb hEb HE8 HE10
  refine wpList_callW rfl (by simp [go_sem]) (hq.out.mono ?_)
  rintro e w12 ⟨rfl, hw12⟩
  subst hw12
  refine ⟨_, rfl, ?_⟩
  simp only [Act.put, List.setIfInBounds_toArray, List.set_cons_zero, List.set_cons_succ]
  clear hq
  refine wpList_runW rfl (.bool true) (by simp [go_sem]) ?_
  simp only [Act.put, List.setIfInBounds_toArray, List.set_cons_zero, List.set_cons_succ]
  refine wpList_run rfl (.bool true) (by simp [go_sem]) ?_
  simp only [Act.put, List.setIfInBounds_toArray, List.set_cons_zero, List.set_cons_succ]
  refine wpList_run rfl (.bool true) (by simp [go_sem]) ?_
  simp only [Act.put, List.setIfInBounds_toArray, List.set_cons_zero, List.set_cons_succ]
  obtain ⟨w13, hrun, hB, hE⟩ := constB w12 #[.int .u8 107] 1 kF (fun j hj => by obtain rfl : j = 0 := by omega
                                                                                rfl)
  refine wpList_toW rfl (.slice (some ⟨w12.heap.size, 0, none⟩) 1 1) (w12.alloc (.cells #[.int .u8 107] 5)) (by simp [go_sem]) ?_
  simp only [Act.put, List.setIfInBounds_toArray, List.set_cons_zero, List.set_cons_succ]
  refine wpList_toW rfl (.slice (some ⟨w12.heap.size, 0, none⟩) 1 1) w13 (by simp [go_sem, hrun]) ?_
  simp only [Act.put, List.setIfInBounds_toArray, List.set_cons_zero, List.set_cons_succ]
  have HE13 := hideit (Ext.trans HE11.out hE)
  have hd := hideit (derive_any _ 1 kF ⟨#[108]⟩ 40 w13 hB (hC.out.ext HE13.out) (by omega) (by decide) (by omega) (by omega))
  clear hrun hB hE HE11
  generalize w12.heap.size = q5 at *
  refine wpList_callW rfl (by simp [go_sem]) (hd.out.mono ?_)
  rintro e w14 ⟨v14, rfl, hO, hE14⟩
  obtain ⟨oa, cp, rfl⟩ := own_form hO
  refine ⟨_, rfl, ?_⟩
  simp only [Act.put, List.setIfInBounds_toArray, List.set_cons_zero, List.set_cons_succ]
  have HE14 := hideit (Ext.trans HE13.out hE14)
  clear hd hO hE14 HE13
  refine wpList_runW rfl (.int .i64 40) (by simp [go_sem]) ?_
  simp only [Act.put, List.setIfInBounds_toArray, List.set_cons_zero, List.set_cons_succ]
  refine wpList_runW rfl (.bool true) (by simp [go_sem]) ?_
  simp only [Act.put, List.setIfInBounds_toArray, List.set_cons_zero, List.set_cons_succ]
  refine wpList_run rfl (.bool true) (by simp [go_sem]) ?_
  simp only [Act.put, List.setIfInBounds_toArray, List.set_cons_zero, List.set_cons_succ]
  go_wp2
  go_ret
  exact ⟨rfl, HE14.out⟩
end Go.Proofs.YthgflnjeojhgkaaDoor
