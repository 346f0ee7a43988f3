/-
  Steps that refuse, steps that pass; methods of a nil model.
-/
import Derived.Test.YtcipkfalnjgghaaMd3
namespace Go.Proofs.Ytcipkfalnjgghaa
open Go.RowKit Go.BigFrame Go.Maps
set_option linter.unusedVariables false
theorem addr0 (b j : Nat) : (⟨b, 0, none⟩ : Addr).add j = ⟨b, j, none⟩ := by unfold Addr.add; split <;> simp_all
theorem do_refuse (h : Hd) (sb pb : Nat) (ep : Int) (r : Rt) (sl : Int) (p b k m : Nat) (c : Int) (g : Nat → FuncId) (bd fr : Nat → Array Value) (x : World) (hS : RowAt p 64 (mdV h sb pb ep r true sl) x) (hk : k < 100) (hB : RowAt b k (fnV g bd fr) x) (hm : m < k) (hc : c ≠ 0)
    (hen : ∀ i, i < k → ∀ args X, (callFunc (g i) args).run Try.prog X = .ok (.enter (g i) args) X)
    (h1 : ∀ i, i < m → Calls Try.prog (g i) (bd i ++ fr i) x fun e w' => e = .returned (.int .i64 0) ∧ w' = x)
    (h2 : Calls Try.prog (g m) (bd m ++ fr m) x fun e w' => e = .returned (.int .i64 c) ∧ w' = x) :
    Calls Try.prog 33 #[.pointer (some ⟨p, 0, none⟩), .slice (some ⟨b, 0, none⟩) k k] x fun e w' => e = .returned (.int .i64 c) ∧ w' = x := by
  refine (do_open h sb pb ep r sl p k ⟨b, 0, none⟩ g bd fr x hS hk (fun i W => W = x ∧ i ≤ m) (fun c' W => W = x ∧ c' = c) ⟨rfl, Nat.zero_le _⟩ (fun i W hW j hj => by rw [addr0, hW.1]; exact hB.1 j hj) hen (fun i hi W hW => ?_)).mono ?_
  · obtain ⟨rfl, hW⟩ := hW
    by_cases e : i = m
    · subst e
      exact h2.mono fun e w' ⟨q1, q2⟩ => ⟨c, q1, fun h => absurd h hc, fun _ => ⟨q2, rfl⟩⟩
    · exact (h1 i (by omega)).mono fun e w' ⟨q1, q2⟩ => ⟨0, q1, fun _ => ⟨q2, by omega⟩, fun h => absurd rfl h⟩
  · rintro e w' ⟨c', q1, q2, q3⟩
    by_cases h0 : c' = 0
    · have := (q2 h0).2; omega
    · obtain ⟨a1, a2⟩ := q3 h0
      subst a2
      exact ⟨q1, a1⟩
theorem do_pass (h : Hd) (sb pb : Nat) (ep : Int) (r : Rt) (sl : Int) (p b k m : Nat) (g : Nat → FuncId) (bd fr : Nat → Array Value) (x : World) (hS : RowAt p 64 (mdV h sb pb ep r true sl) x) (hk : k < 100) (hB : RowAt b k (fnV g bd fr) x) (hm : m + 2 = k)
    (A B : World → Prop) (hA : ∀ W, A W → RowAt b k (fnV g bd fr) W) (hB2 : ∀ W, B W → RowAt b k (fnV g bd fr) W)
    (hen : ∀ i, i < k → ∀ args X, (callFunc (g i) args).run Try.prog X = .ok (.enter (g i) args) X)
    (h1 : ∀ i, i < m → Calls Try.prog (g i) (bd i ++ fr i) x fun e w' => e = .returned (.int .i64 0) ∧ w' = x)
    (h2 : Calls Try.prog (g m) (bd m ++ fr m) x fun e w' => e = .returned (.int .i64 0) ∧ A w')
    (h3 : ∀ W, A W → Calls Try.prog (g (m + 1)) (bd (m + 1) ++ fr (m + 1)) W fun e w' => e = .returned (.int .i64 0) ∧ B w') :
    Calls Try.prog 33 #[.pointer (some ⟨p, 0, none⟩), .slice (some ⟨b, 0, none⟩) k k] x fun e w' => e = .returned (.int .i64 0) ∧ B w' := by
  refine (do_open h sb pb ep r sl p k ⟨b, 0, none⟩ g bd fr x hS hk (fun i W => (i ≤ m ∧ W = x) ∨ (i = m + 1 ∧ A W) ∨ (i = m + 2 ∧ B W)) (fun c' W => False) (.inl ⟨Nat.zero_le _, rfl⟩) (fun i W hW j hj => by
    rw [addr0]
    rcases hW with ⟨_, rfl⟩ | ⟨_, hW⟩ | ⟨_, hW⟩
    · exact hB.1 j hj
    · exact (hA W hW).1 j hj
    · exact (hB2 W hW).1 j hj) hen (fun i hi W hW => ?_)).mono ?_
  · rcases hW with ⟨hi2, rfl⟩ | ⟨rfl, hW⟩ | ⟨rfl, hW⟩
    · by_cases e : i = m
      · subst e
        exact h2.mono fun e w' ⟨q1, q2⟩ => ⟨0, q1, fun _ => .inr (.inl ⟨rfl, q2⟩), fun h => absurd rfl h⟩
      · exact (h1 i (by omega)).mono fun e w' ⟨q1, q2⟩ => ⟨0, q1, fun _ => .inl ⟨by omega, q2⟩, fun h => absurd rfl h⟩
    · exact (h3 W hW).mono fun e w' ⟨q1, q2⟩ => ⟨0, q1, fun _ => .inr (.inr ⟨rfl, q2⟩), fun h => absurd rfl h⟩
    · omega
  · rintro e w' ⟨c', q1, q2, q3⟩
    by_cases h0 : c' = 0
    · subst h0
      rcases q2 rfl with ⟨a1, _⟩ | ⟨a1, _⟩ | ⟨_, a2⟩
      · omega
      · omega
      · exact ⟨q1, a2⟩
    · exact (q3 h0).elim
theorem do_one (h : Hd) (sb pb : Nat) (ep : Int) (r : Rt) (sl : Int) (p b : Nat) (g : Nat → FuncId) (bd fr : Nat → Array Value) (x : World) (hS : RowAt p 64 (mdV h sb pb ep r true sl) x) (hB : RowAt b 1 (fnV g bd fr) x)
    (R : Int → World → Prop) (hR : ∀ W, R 0 W → RowAt b 1 (fnV g bd fr) W)
    (hen : ∀ args X, (callFunc (g 0) args).run Try.prog X = .ok (.enter (g 0) args) X)
    (h2 : Calls Try.prog (g 0) (bd 0 ++ fr 0) x fun e w' => ∃ c : Int, e = .returned (.int .i64 c) ∧ R c w') :
    Calls Try.prog 33 #[.pointer (some ⟨p, 0, none⟩), .slice (some ⟨b, 0, none⟩) 1 1] x fun e w' => ∃ c : Int, e = .returned (.int .i64 c) ∧ R c w' := by
  refine (do_open h sb pb ep r sl p 1 ⟨b, 0, none⟩ g bd fr x hS (by decide) (fun i W => (i = 0 ∧ W = x) ∨ (i = 1 ∧ R 0 W)) R (.inl ⟨rfl, rfl⟩) (fun i W hW j hj => by
    rw [addr0]
    rcases hW with ⟨_, rfl⟩ | ⟨_, hW⟩
    · exact hB.1 j hj
    · exact (hR W hW).1 j hj) (fun i hi => by obtain rfl : i = 0 := by omega
                                              exact hen) (fun i hi W hW => ?_)).mono ?_
  · obtain rfl : i = 0 := by omega
    rcases hW with ⟨_, rfl⟩ | ⟨h, _⟩
    · exact h2.mono fun e w' ⟨c, q1, q2⟩ => ⟨c, q1, fun h => .inr ⟨rfl, h ▸ q2⟩, fun _ => q2⟩
    · omega
  · rintro e w' ⟨c, q1, q2, q3⟩
    by_cases h0 : c = 0
    · subst h0
      rcases q2 rfl with ⟨a1, _⟩ | ⟨_, a2⟩
      · omega
      · exact ⟨0, q1, a2⟩
    · exact ⟨c, q1, q3 h0⟩
set_option maxRecDepth 20000 in
set_option maxHeartbeats 4000000 in
theorem do_none (h : Hd) (sb pb : Nat) (ep : Int) (r : Rt) (sl : Int) (p : Nat) (w : World) (hS : RowAt p 64 (mdV h sb pb ep r true sl) w) : Calls Try.prog 33 #[.pointer (some ⟨p, 0, none⟩), .slice none 0 0] w fun e w' => e = .returned (.int .i64 0) ∧ w' = w := by
  replace hS := hideit hS
  go_enter Try.func33, Try.ntmps33
  go_upto_region 1 with (fail)
  refine wp_region_lit ?_
  have m1 : w.cell? ⟨p, 62, none⟩ = some (.bool true) := hS.out.1 62 (by decide)
  refine xm [some (.pointer (some ⟨p, 0, none⟩)), some (.bool false), some (.bool false), some (.pointer (some ⟨p, 0, none⟩)), some (.pointer (some ⟨p, 0, none⟩)), some (.pointer (some ⟨p, 62, none⟩)), some (.bool true), some (.bool false), some (.bool false)] (by kernel_rfl) (by simp [xr, go_sem, m1]) ?_
  simp only [xw, p0, p1, p2, p3]
  clear m1
  go_upto_region 3 with (fail)
  refine wp_region_lit ?_
  refine xm [some (.slice none 0 0), some (.int .i64 0), some (.int .i64 0)] (by kernel_rfl) (by simp [xr, go_sem]) ?_
  simp only [xw, p0, p1, p2, p3]
  go_wp2
  go_loopw [19] (fun t X => t = .int .i64 0 ∧ X = w) (fun _ _ => 0)
  case atStart => exact ⟨rfl, rfl⟩
  case round =>
    obtain ⟨rfl, rfl⟩ := hrel
    go_wp2
    go_ret
    exact ⟨rfl, rfl⟩
set_option maxRecDepth 20000 in
set_option maxHeartbeats 4000000 in
theorem nil_write (n : Int) (o : Option Addr) (l k : Nat) (w : World) : Calls Try.prog 11 #[.pointer none, .int .i64 n, .slice o l k] w fun e w' => e = .returned (.int .i64 6) ∧ Ext w w' := by
  have hE := hideit (Ext.refl w)
  go_enter Try.func11, Try.ntmps11
  go_upto_region 0 with (fail)
  refine wp_region_lit ?_
  have A0 := hideit (row1_new w (.pointer none) 26)
  have XB : Ext w (w.alloc (.cells #[.pointer none] 26)) := (Below.refl _ _).alloc (Nat.le_refl _) _
  have AE := hideit (Ext.trans hE.out (XB))
  have AB := hideit (hE.out.size)
  clear XB
  refine wpList_to rfl (.pointer (some ⟨w.heap.size, 0, none⟩)) (w.alloc (.cells #[.pointer none] 26)) (by simp [go_sem]) ?_
  simp only [Act.put, List.setIfInBounds_toArray, List.set_cons_zero, List.set_cons_succ]
  generalize w.alloc (.cells #[.pointer none] 26) = x2 at A0 AE ⊢
  obtain ⟨z1, ez1⟩ : ∃ b, b = w.heap.size := ⟨_, rfl⟩
  have ABz1 : Hid (w.heap.size ≤ z1) := by rw [ez1]; exact AB.out
  clear AB
  rw [← ez1] at A0  ⊢
  clear ez1
  have Hz1 := A0
  clear A0
  replace hE := AE
  clear AE
  have A0 := hideit (row1_new x2 (.int .i64 (n)) 3)
  have XB : Ext x2 (x2.alloc (.cells #[.int .i64 (n)] 3)) := (Below.refl _ _).alloc (Nat.le_refl _) _
  have A1 := hideit (Hz1.out.carry XB)
  have AE := hideit (Ext.trans hE.out (XB))
  have AB := hideit (hE.out.size)
  have D0 : Hid (z1 ≠ x2.heap.size) := Nat.ne_of_lt Hz1.out.2.2
  clear XB
  refine wpList_to rfl (.pointer (some ⟨x2.heap.size, 0, none⟩)) (x2.alloc (.cells #[.int .i64 (n)] 3)) (by simp [go_sem]) ?_
  simp only [Act.put, List.setIfInBounds_toArray, List.set_cons_zero, List.set_cons_succ]
  generalize x2.alloc (.cells #[.int .i64 (n)] 3) = x4 at A0 A1 AE ⊢
  obtain ⟨z3, ez3⟩ : ∃ b, b = x2.heap.size := ⟨_, rfl⟩
  have ABz3 : Hid (w.heap.size ≤ z3) := by rw [ez3]; exact AB.out
  clear AB
  rw [← ez3] at A0 D0 ⊢
  clear ez3
  have Hz3 := A0
  clear A0
  replace Hz1 := A1
  clear A1
  replace hE := AE
  clear AE
  have Dz3_0 := D0
  clear D0
  have A0 := hideit (row1_new x4 (.slice o l k) 22)
  have XB : Ext x4 (x4.alloc (.cells #[.slice o l k] 22)) := (Below.refl _ _).alloc (Nat.le_refl _) _
  have A1 := hideit (Hz1.out.carry XB)
  have A2 := hideit (Hz3.out.carry XB)
  have AE := hideit (Ext.trans hE.out (XB))
  have AB := hideit (hE.out.size)
  have D0 : Hid (z1 ≠ x4.heap.size) := Nat.ne_of_lt Hz1.out.2.2
  have D1 : Hid (z3 ≠ x4.heap.size) := Nat.ne_of_lt Hz3.out.2.2
  clear XB
  refine wpList_to rfl (.pointer (some ⟨x4.heap.size, 0, none⟩)) (x4.alloc (.cells #[.slice o l k] 22)) (by simp [go_sem]) ?_
  simp only [Act.put, List.setIfInBounds_toArray, List.set_cons_zero, List.set_cons_succ]
  generalize x4.alloc (.cells #[.slice o l k] 22) = x6 at A0 A1 A2 AE ⊢
  obtain ⟨z5, ez5⟩ : ∃ b, b = x4.heap.size := ⟨_, rfl⟩
  have ABz5 : Hid (w.heap.size ≤ z5) := by rw [ez5]; exact AB.out
  clear AB
  rw [← ez5] at A0 D0 D1 ⊢
  clear ez5
  have Hz5 := A0
  clear A0
  replace Hz1 := A1
  clear A1
  replace Hz3 := A2
  clear A2
  replace hE := AE
  clear AE
  have Dz5_0 := D0
  clear D0
  have Dz5_1 := D1
  clear D1
  refine xm [some (.int .i64 0)] (by kernel_rfl) (by simp [xr, go_sem]) ?_
  simp only [xw, p0, p1, p2, p3]
  go_upto_region 1 with (fail)
  refine wp_region_lit ?_
  have m7 : x6.cell? ⟨z1, 0, none⟩ = some (.pointer none) := Hz1.out.1 0 (by decide)
  refine xm [some (.pointer none), some (.func (.func 34) #[] #[.pointer (some ⟨z1, 0, none⟩), .pointer (some ⟨z3, 0, none⟩)]), some (.func (.func 35) #[] #[.pointer (some ⟨z5, 0, none⟩)]), some (.func (.func 37) #[] #[.pointer (some ⟨z5, 0, none⟩), .pointer (some ⟨z1, 0, none⟩), .pointer (some ⟨z3, 0, none⟩)]), some (.pointer none), some (.func (.func 38) #[.pointer none] #[])] (by kernel_rfl) (by simp [xr, go_sem, m7]) ?_
  simp only [xw, p0, p1, p2, p3]
  clear m7
  have A0 := hideit (RowAt.newOf x6 4 (fnV (fun i => [34, 35, 37, 38].getD i 0) (fun i => [#[], #[], #[], #[.pointer none]].getD i #[]) (fun i => [#[.pointer (some ⟨z1, 0, none⟩), .pointer (some ⟨z3, 0, none⟩)], #[.pointer (some ⟨z5, 0, none⟩)], #[.pointer (some ⟨z5, 0, none⟩), .pointer (some ⟨z1, 0, none⟩), .pointer (some ⟨z3, 0, none⟩)], #[]].getD i #[])) 47 #[.func (.func 34) #[] #[.pointer (some ⟨z1, 0, none⟩), .pointer (some ⟨z3, 0, none⟩)], .func (.func 35) #[] #[.pointer (some ⟨z5, 0, none⟩)], .func (.func 37) #[] #[.pointer (some ⟨z5, 0, none⟩), .pointer (some ⟨z1, 0, none⟩), .pointer (some ⟨z3, 0, none⟩)], .func (.func 38) #[.pointer none] #[]] (fun j hj => by rcases (by omega : j = 0 ∨ j = 1 ∨ j = 2 ∨ j = 3) with rfl | rfl | rfl | rfl <;> rfl))
  have XB : Ext x6 (x6.alloc (.cells #[.func (.func 34) #[] #[.pointer (some ⟨z1, 0, none⟩), .pointer (some ⟨z3, 0, none⟩)], .func (.func 35) #[] #[.pointer (some ⟨z5, 0, none⟩)], .func (.func 37) #[] #[.pointer (some ⟨z5, 0, none⟩), .pointer (some ⟨z1, 0, none⟩), .pointer (some ⟨z3, 0, none⟩)], .func (.func 38) #[.pointer none] #[]] 47)) := (Below.refl _ _).alloc (Nat.le_refl _) _
  have A1 := hideit (Hz1.out.carry XB)
  have A2 := hideit (Hz3.out.carry XB)
  have A3 := hideit (Hz5.out.carry XB)
  have AE := hideit (Ext.trans hE.out (XB))
  have AB := hideit (hE.out.size)
  have D0 : Hid (z1 ≠ x6.heap.size) := Nat.ne_of_lt Hz1.out.2.2
  have D1 : Hid (z3 ≠ x6.heap.size) := Nat.ne_of_lt Hz3.out.2.2
  have D2 : Hid (z5 ≠ x6.heap.size) := Nat.ne_of_lt Hz5.out.2.2
  clear XB
  refine wpList_to rfl (.slice (some ⟨x6.heap.size, 0, none⟩) 4 4) (x6.alloc (.cells #[.func (.func 34) #[] #[.pointer (some ⟨z1, 0, none⟩), .pointer (some ⟨z3, 0, none⟩)], .func (.func 35) #[] #[.pointer (some ⟨z5, 0, none⟩)], .func (.func 37) #[] #[.pointer (some ⟨z5, 0, none⟩), .pointer (some ⟨z1, 0, none⟩), .pointer (some ⟨z3, 0, none⟩)], .func (.func 38) #[.pointer none] #[]] 47)) (by simp [go_sem]) ?_
  simp only [Act.put, List.setIfInBounds_toArray, List.set_cons_zero, List.set_cons_succ]
  generalize x6.alloc (.cells #[.func (.func 34) #[] #[.pointer (some ⟨z1, 0, none⟩), .pointer (some ⟨z3, 0, none⟩)], .func (.func 35) #[] #[.pointer (some ⟨z5, 0, none⟩)], .func (.func 37) #[] #[.pointer (some ⟨z5, 0, none⟩), .pointer (some ⟨z1, 0, none⟩), .pointer (some ⟨z3, 0, none⟩)], .func (.func 38) #[.pointer none] #[]] 47) = x10 at A0 A1 A2 A3 AE ⊢
  obtain ⟨z9, ez9⟩ : ∃ b, b = x6.heap.size := ⟨_, rfl⟩
  have ABz9 : Hid (w.heap.size ≤ z9) := by rw [ez9]; exact AB.out
  clear AB
  rw [← ez9] at A0 D0 D1 D2 ⊢
  clear ez9
  have Hz9 := A0
  clear A0
  replace Hz1 := A1
  clear A1
  replace Hz3 := A2
  clear A2
  replace Hz5 := A3
  clear A3
  replace hE := AE
  clear AE
  have Dz9_0 := D0
  clear D0
  have Dz9_1 := D1
  clear D1
  have Dz9_2 := D2
  clear D2
  refine wpList_call rfl (by simp [go_sem]) ((do_nil (.slice (some ⟨z9, 0, none⟩) 4 4) x10).mono ?_)
  rintro e yy ⟨rfl, hyy⟩
  refine ⟨_, rfl, ?_⟩
  simp only [Act.put, List.setIfInBounds_toArray, List.set_cons_zero, List.set_cons_succ]
  replace hyy := hyy.symm
  subst hyy
  refine xm [some (.int .i64 6)] (by kernel_rfl) (by simp [xr, go_sem]) ?_
  simp only [xw, p0, p1, p2, p3]
  go_wp2
  go_ret
  exact ⟨rfl, hE.out⟩
set_option maxRecDepth 20000 in
set_option maxHeartbeats 4000000 in
theorem nil_flush (w : World) : Calls Try.prog 12 #[.pointer none] w fun e w' => e = .returned (.int .i64 6) ∧ Ext w w' := by
  have hE := hideit (Ext.refl w)
  go_enter Try.func12, Try.ntmps12
  go_upto_region 1 with (fail)
  refine wp_region_lit ?_
  refine xm [some (.pointer none)] (by kernel_rfl) (by simp [xr, go_sem]) ?_
  simp only [xw, p0, p1, p2, p3]
  refine wpList_call rfl (by simp [go_sem]) ((do_nil (.slice none 0 0) w).mono ?_)
  rintro e yy ⟨rfl, hyy⟩
  refine ⟨_, rfl, ?_⟩
  simp only [Act.put, List.setIfInBounds_toArray, List.set_cons_zero, List.set_cons_succ]
  replace hyy := hyy.symm
  subst hyy
  refine xm [some (.int .i64 6)] (by kernel_rfl) (by simp [xr, go_sem]) ?_
  simp only [xw, p0, p1, p2, p3]
  go_wp2
  go_ret
  exact ⟨rfl, hE.out⟩
set_option maxRecDepth 20000 in
set_option maxHeartbeats 4000000 in
theorem nil_add (n : Int) (o : Option Addr) (l k : Nat) (w : World) : Calls Try.prog 13 #[.pointer none, .int .i64 n, .slice o l k] w fun e w' => e = .returned (.int .i64 6) ∧ Ext w w' := by
  have hE := hideit (Ext.refl w)
  go_enter Try.func13, Try.ntmps13
  go_upto_region 0 with (fail)
  refine wp_region_lit ?_
  have A0 := hideit (row1_new w (.pointer none) 26)
  have XB : Ext w (w.alloc (.cells #[.pointer none] 26)) := (Below.refl _ _).alloc (Nat.le_refl _) _
  have AE := hideit (Ext.trans hE.out (XB))
  have AB := hideit (hE.out.size)
  clear XB
  refine wpList_to rfl (.pointer (some ⟨w.heap.size, 0, none⟩)) (w.alloc (.cells #[.pointer none] 26)) (by simp [go_sem]) ?_
  simp only [Act.put, List.setIfInBounds_toArray, List.set_cons_zero, List.set_cons_succ]
  generalize w.alloc (.cells #[.pointer none] 26) = x2 at A0 AE ⊢
  obtain ⟨z1, ez1⟩ : ∃ b, b = w.heap.size := ⟨_, rfl⟩
  have ABz1 : Hid (w.heap.size ≤ z1) := by rw [ez1]; exact AB.out
  clear AB
  rw [← ez1] at A0  ⊢
  clear ez1
  have Hz1 := A0
  clear A0
  replace hE := AE
  clear AE
  have A0 := hideit (row1_new x2 (.int .i64 (n)) 3)
  have XB : Ext x2 (x2.alloc (.cells #[.int .i64 (n)] 3)) := (Below.refl _ _).alloc (Nat.le_refl _) _
  have A1 := hideit (Hz1.out.carry XB)
  have AE := hideit (Ext.trans hE.out (XB))
  have AB := hideit (hE.out.size)
  have D0 : Hid (z1 ≠ x2.heap.size) := Nat.ne_of_lt Hz1.out.2.2
  clear XB
  refine wpList_to rfl (.pointer (some ⟨x2.heap.size, 0, none⟩)) (x2.alloc (.cells #[.int .i64 (n)] 3)) (by simp [go_sem]) ?_
  simp only [Act.put, List.setIfInBounds_toArray, List.set_cons_zero, List.set_cons_succ]
  generalize x2.alloc (.cells #[.int .i64 (n)] 3) = x4 at A0 A1 AE ⊢
  obtain ⟨z3, ez3⟩ : ∃ b, b = x2.heap.size := ⟨_, rfl⟩
  have ABz3 : Hid (w.heap.size ≤ z3) := by rw [ez3]; exact AB.out
  clear AB
  rw [← ez3] at A0 D0 ⊢
  clear ez3
  have Hz3 := A0
  clear A0
  replace Hz1 := A1
  clear A1
  replace hE := AE
  clear AE
  have Dz3_0 := D0
  clear D0
  have A0 := hideit (row1_new x4 (.slice o l k) 22)
  have XB : Ext x4 (x4.alloc (.cells #[.slice o l k] 22)) := (Below.refl _ _).alloc (Nat.le_refl _) _
  have A1 := hideit (Hz1.out.carry XB)
  have A2 := hideit (Hz3.out.carry XB)
  have AE := hideit (Ext.trans hE.out (XB))
  have AB := hideit (hE.out.size)
  have D0 : Hid (z1 ≠ x4.heap.size) := Nat.ne_of_lt Hz1.out.2.2
  have D1 : Hid (z3 ≠ x4.heap.size) := Nat.ne_of_lt Hz3.out.2.2
  clear XB
  refine wpList_to rfl (.pointer (some ⟨x4.heap.size, 0, none⟩)) (x4.alloc (.cells #[.slice o l k] 22)) (by simp [go_sem]) ?_
  simp only [Act.put, List.setIfInBounds_toArray, List.set_cons_zero, List.set_cons_succ]
  generalize x4.alloc (.cells #[.slice o l k] 22) = x6 at A0 A1 A2 AE ⊢
  obtain ⟨z5, ez5⟩ : ∃ b, b = x4.heap.size := ⟨_, rfl⟩
  have ABz5 : Hid (w.heap.size ≤ z5) := by rw [ez5]; exact AB.out
  clear AB
  rw [← ez5] at A0 D0 D1 ⊢
  clear ez5
  have Hz5 := A0
  clear A0
  replace Hz1 := A1
  clear A1
  replace Hz3 := A2
  clear A2
  replace hE := AE
  clear AE
  have Dz5_0 := D0
  clear D0
  have Dz5_1 := D1
  clear D1
  refine xm [some (.int .i64 0)] (by kernel_rfl) (by simp [xr, go_sem]) ?_
  simp only [xw, p0, p1, p2, p3]
  go_upto_region 1 with (fail)
  refine wp_region_lit ?_
  have m7 : x6.cell? ⟨z1, 0, none⟩ = some (.pointer none) := Hz1.out.1 0 (by decide)
  refine xm [some (.pointer none), some (.func (.func 39) #[] #[.pointer (some ⟨z5, 0, none⟩)]), some (.pointer none), some (.func (.func 40) #[.pointer none] #[]), some (.func (.func 41) #[] #[.pointer (some ⟨z1, 0, none⟩), .pointer (some ⟨z3, 0, none⟩)]), some (.func (.func 43) #[] #[.pointer (some ⟨z1, 0, none⟩), .pointer (some ⟨z3, 0, none⟩)]), some (.func (.func 44) #[] #[.pointer (some ⟨z5, 0, none⟩), .pointer (some ⟨z1, 0, none⟩), .pointer (some ⟨z3, 0, none⟩)]), some (.pointer none), some (.func (.func 38) #[.pointer none] #[])] (by kernel_rfl) (by simp [xr, go_sem, m7]) ?_
  simp only [xw, p0, p1, p2, p3]
  clear m7
  have A0 := hideit (RowAt.newOf x6 6 (fnV (fun i => [39, 40, 41, 43, 44, 38].getD i 0) (fun i => [#[], #[.pointer none], #[], #[], #[], #[.pointer none]].getD i #[]) (fun i => [#[.pointer (some ⟨z5, 0, none⟩)], #[], #[.pointer (some ⟨z1, 0, none⟩), .pointer (some ⟨z3, 0, none⟩)], #[.pointer (some ⟨z1, 0, none⟩), .pointer (some ⟨z3, 0, none⟩)], #[.pointer (some ⟨z5, 0, none⟩), .pointer (some ⟨z1, 0, none⟩), .pointer (some ⟨z3, 0, none⟩)], #[]].getD i #[])) 47 #[.func (.func 39) #[] #[.pointer (some ⟨z5, 0, none⟩)], .func (.func 40) #[.pointer none] #[], .func (.func 41) #[] #[.pointer (some ⟨z1, 0, none⟩), .pointer (some ⟨z3, 0, none⟩)], .func (.func 43) #[] #[.pointer (some ⟨z1, 0, none⟩), .pointer (some ⟨z3, 0, none⟩)], .func (.func 44) #[] #[.pointer (some ⟨z5, 0, none⟩), .pointer (some ⟨z1, 0, none⟩), .pointer (some ⟨z3, 0, none⟩)], .func (.func 38) #[.pointer none] #[]] (fun j hj => by rcases (by omega : j = 0 ∨ j = 1 ∨ j = 2 ∨ j = 3 ∨ j = 4 ∨ j = 5) with rfl | rfl | rfl | rfl | rfl | rfl <;> rfl))
  have XB : Ext x6 (x6.alloc (.cells #[.func (.func 39) #[] #[.pointer (some ⟨z5, 0, none⟩)], .func (.func 40) #[.pointer none] #[], .func (.func 41) #[] #[.pointer (some ⟨z1, 0, none⟩), .pointer (some ⟨z3, 0, none⟩)], .func (.func 43) #[] #[.pointer (some ⟨z1, 0, none⟩), .pointer (some ⟨z3, 0, none⟩)], .func (.func 44) #[] #[.pointer (some ⟨z5, 0, none⟩), .pointer (some ⟨z1, 0, none⟩), .pointer (some ⟨z3, 0, none⟩)], .func (.func 38) #[.pointer none] #[]] 47)) := (Below.refl _ _).alloc (Nat.le_refl _) _
  have A1 := hideit (Hz1.out.carry XB)
  have A2 := hideit (Hz3.out.carry XB)
  have A3 := hideit (Hz5.out.carry XB)
  have AE := hideit (Ext.trans hE.out (XB))
  have AB := hideit (hE.out.size)
  have D0 : Hid (z1 ≠ x6.heap.size) := Nat.ne_of_lt Hz1.out.2.2
  have D1 : Hid (z3 ≠ x6.heap.size) := Nat.ne_of_lt Hz3.out.2.2
  have D2 : Hid (z5 ≠ x6.heap.size) := Nat.ne_of_lt Hz5.out.2.2
  clear XB
  refine wpList_to rfl (.slice (some ⟨x6.heap.size, 0, none⟩) 6 6) (x6.alloc (.cells #[.func (.func 39) #[] #[.pointer (some ⟨z5, 0, none⟩)], .func (.func 40) #[.pointer none] #[], .func (.func 41) #[] #[.pointer (some ⟨z1, 0, none⟩), .pointer (some ⟨z3, 0, none⟩)], .func (.func 43) #[] #[.pointer (some ⟨z1, 0, none⟩), .pointer (some ⟨z3, 0, none⟩)], .func (.func 44) #[] #[.pointer (some ⟨z5, 0, none⟩), .pointer (some ⟨z1, 0, none⟩), .pointer (some ⟨z3, 0, none⟩)], .func (.func 38) #[.pointer none] #[]] 47)) (by simp [go_sem]) ?_
  simp only [Act.put, List.setIfInBounds_toArray, List.set_cons_zero, List.set_cons_succ]
  generalize x6.alloc (.cells #[.func (.func 39) #[] #[.pointer (some ⟨z5, 0, none⟩)], .func (.func 40) #[.pointer none] #[], .func (.func 41) #[] #[.pointer (some ⟨z1, 0, none⟩), .pointer (some ⟨z3, 0, none⟩)], .func (.func 43) #[] #[.pointer (some ⟨z1, 0, none⟩), .pointer (some ⟨z3, 0, none⟩)], .func (.func 44) #[] #[.pointer (some ⟨z5, 0, none⟩), .pointer (some ⟨z1, 0, none⟩), .pointer (some ⟨z3, 0, none⟩)], .func (.func 38) #[.pointer none] #[]] 47) = x11 at A0 A1 A2 A3 AE ⊢
  obtain ⟨z10, ez10⟩ : ∃ b, b = x6.heap.size := ⟨_, rfl⟩
  have ABz10 : Hid (w.heap.size ≤ z10) := by rw [ez10]; exact AB.out
  clear AB
  rw [← ez10] at A0 D0 D1 D2 ⊢
  clear ez10
  have Hz10 := A0
  clear A0
  replace Hz1 := A1
  clear A1
  replace Hz3 := A2
  clear A2
  replace Hz5 := A3
  clear A3
  replace hE := AE
  clear AE
  have Dz10_0 := D0
  clear D0
  have Dz10_1 := D1
  clear D1
  have Dz10_2 := D2
  clear D2
  refine wpList_call rfl (by simp [go_sem]) ((do_nil (.slice (some ⟨z10, 0, none⟩) 6 6) x11).mono ?_)
  rintro e yy ⟨rfl, hyy⟩
  refine ⟨_, rfl, ?_⟩
  simp only [Act.put, List.setIfInBounds_toArray, List.set_cons_zero, List.set_cons_succ]
  replace hyy := hyy.symm
  subst hyy
  refine xm [some (.int .i64 6)] (by kernel_rfl) (by simp [xr, go_sem]) ?_
  simp only [xw, p0, p1, p2, p3]
  go_wp2
  go_ret
  exact ⟨rfl, hE.out⟩
set_option maxRecDepth 20000 in
set_option maxHeartbeats 4000000 in
theorem nil_revoke (n : Int) (w : World) : Calls Try.prog 14 #[.pointer none, .int .i64 n] w fun e w' => e = .returned (.int .i64 6) ∧ Ext w w' := by
  have hE := hideit (Ext.refl w)
  go_enter Try.func14, Try.ntmps14
  go_upto_region 0 with (fail)
  refine wp_region_lit ?_
  have A0 := hideit (row1_new w (.pointer none) 26)
  have XB : Ext w (w.alloc (.cells #[.pointer none] 26)) := (Below.refl _ _).alloc (Nat.le_refl _) _
  have AE := hideit (Ext.trans hE.out (XB))
  have AB := hideit (hE.out.size)
  clear XB
  refine wpList_to rfl (.pointer (some ⟨w.heap.size, 0, none⟩)) (w.alloc (.cells #[.pointer none] 26)) (by simp [go_sem]) ?_
  simp only [Act.put, List.setIfInBounds_toArray, List.set_cons_zero, List.set_cons_succ]
  generalize w.alloc (.cells #[.pointer none] 26) = x2 at A0 AE ⊢
  obtain ⟨z1, ez1⟩ : ∃ b, b = w.heap.size := ⟨_, rfl⟩
  have ABz1 : Hid (w.heap.size ≤ z1) := by rw [ez1]; exact AB.out
  clear AB
  rw [← ez1] at A0  ⊢
  clear ez1
  have Hz1 := A0
  clear A0
  replace hE := AE
  clear AE
  have A0 := hideit (row1_new x2 (.int .i64 (n)) 3)
  have XB : Ext x2 (x2.alloc (.cells #[.int .i64 (n)] 3)) := (Below.refl _ _).alloc (Nat.le_refl _) _
  have A1 := hideit (Hz1.out.carry XB)
  have AE := hideit (Ext.trans hE.out (XB))
  have AB := hideit (hE.out.size)
  have D0 : Hid (z1 ≠ x2.heap.size) := Nat.ne_of_lt Hz1.out.2.2
  clear XB
  refine wpList_to rfl (.pointer (some ⟨x2.heap.size, 0, none⟩)) (x2.alloc (.cells #[.int .i64 (n)] 3)) (by simp [go_sem]) ?_
  simp only [Act.put, List.setIfInBounds_toArray, List.set_cons_zero, List.set_cons_succ]
  generalize x2.alloc (.cells #[.int .i64 (n)] 3) = x4 at A0 A1 AE ⊢
  obtain ⟨z3, ez3⟩ : ∃ b, b = x2.heap.size := ⟨_, rfl⟩
  have ABz3 : Hid (w.heap.size ≤ z3) := by rw [ez3]; exact AB.out
  clear AB
  rw [← ez3] at A0 D0 ⊢
  clear ez3
  have Hz3 := A0
  clear A0
  replace Hz1 := A1
  clear A1
  replace hE := AE
  clear AE
  have Dz3_0 := D0
  clear D0
  refine xm [some (.int .i64 0)] (by kernel_rfl) (by simp [xr, go_sem]) ?_
  simp only [xw, p0, p1, p2, p3]
  go_upto_region 1 with (fail)
  refine wp_region_lit ?_
  have m5 : x4.cell? ⟨z1, 0, none⟩ = some (.pointer none) := Hz1.out.1 0 (by decide)
  refine xm [some (.pointer none), some (.pointer none), some (.func (.func 40) #[.pointer none] #[]), some (.func (.func 46) #[] #[.pointer (some ⟨z1, 0, none⟩), .pointer (some ⟨z3, 0, none⟩)]), some (.func (.func 47) #[] #[.pointer (some ⟨z1, 0, none⟩), .pointer (some ⟨z3, 0, none⟩)]), some (.func (.func 48) #[] #[.pointer (some ⟨z1, 0, none⟩)]), some (.func (.func 49) #[] #[.pointer (some ⟨z1, 0, none⟩), .pointer (some ⟨z3, 0, none⟩)]), some (.pointer none), some (.func (.func 38) #[.pointer none] #[])] (by kernel_rfl) (by simp [xr, go_sem, m5]) ?_
  simp only [xw, p0, p1, p2, p3]
  clear m5
  have A0 := hideit (RowAt.newOf x4 6 (fnV (fun i => [40, 46, 47, 48, 49, 38].getD i 0) (fun i => [#[.pointer none], #[], #[], #[], #[], #[.pointer none]].getD i #[]) (fun i => [#[], #[.pointer (some ⟨z1, 0, none⟩), .pointer (some ⟨z3, 0, none⟩)], #[.pointer (some ⟨z1, 0, none⟩), .pointer (some ⟨z3, 0, none⟩)], #[.pointer (some ⟨z1, 0, none⟩)], #[.pointer (some ⟨z1, 0, none⟩), .pointer (some ⟨z3, 0, none⟩)], #[]].getD i #[])) 47 #[.func (.func 40) #[.pointer none] #[], .func (.func 46) #[] #[.pointer (some ⟨z1, 0, none⟩), .pointer (some ⟨z3, 0, none⟩)], .func (.func 47) #[] #[.pointer (some ⟨z1, 0, none⟩), .pointer (some ⟨z3, 0, none⟩)], .func (.func 48) #[] #[.pointer (some ⟨z1, 0, none⟩)], .func (.func 49) #[] #[.pointer (some ⟨z1, 0, none⟩), .pointer (some ⟨z3, 0, none⟩)], .func (.func 38) #[.pointer none] #[]] (fun j hj => by rcases (by omega : j = 0 ∨ j = 1 ∨ j = 2 ∨ j = 3 ∨ j = 4 ∨ j = 5) with rfl | rfl | rfl | rfl | rfl | rfl <;> rfl))
  have XB : Ext x4 (x4.alloc (.cells #[.func (.func 40) #[.pointer none] #[], .func (.func 46) #[] #[.pointer (some ⟨z1, 0, none⟩), .pointer (some ⟨z3, 0, none⟩)], .func (.func 47) #[] #[.pointer (some ⟨z1, 0, none⟩), .pointer (some ⟨z3, 0, none⟩)], .func (.func 48) #[] #[.pointer (some ⟨z1, 0, none⟩)], .func (.func 49) #[] #[.pointer (some ⟨z1, 0, none⟩), .pointer (some ⟨z3, 0, none⟩)], .func (.func 38) #[.pointer none] #[]] 47)) := (Below.refl _ _).alloc (Nat.le_refl _) _
  have A1 := hideit (Hz1.out.carry XB)
  have A2 := hideit (Hz3.out.carry XB)
  have AE := hideit (Ext.trans hE.out (XB))
  have AB := hideit (hE.out.size)
  have D0 : Hid (z1 ≠ x4.heap.size) := Nat.ne_of_lt Hz1.out.2.2
  have D1 : Hid (z3 ≠ x4.heap.size) := Nat.ne_of_lt Hz3.out.2.2
  clear XB
  refine wpList_to rfl (.slice (some ⟨x4.heap.size, 0, none⟩) 6 6) (x4.alloc (.cells #[.func (.func 40) #[.pointer none] #[], .func (.func 46) #[] #[.pointer (some ⟨z1, 0, none⟩), .pointer (some ⟨z3, 0, none⟩)], .func (.func 47) #[] #[.pointer (some ⟨z1, 0, none⟩), .pointer (some ⟨z3, 0, none⟩)], .func (.func 48) #[] #[.pointer (some ⟨z1, 0, none⟩)], .func (.func 49) #[] #[.pointer (some ⟨z1, 0, none⟩), .pointer (some ⟨z3, 0, none⟩)], .func (.func 38) #[.pointer none] #[]] 47)) (by simp [go_sem]) ?_
  simp only [Act.put, List.setIfInBounds_toArray, List.set_cons_zero, List.set_cons_succ]
  generalize x4.alloc (.cells #[.func (.func 40) #[.pointer none] #[], .func (.func 46) #[] #[.pointer (some ⟨z1, 0, none⟩), .pointer (some ⟨z3, 0, none⟩)], .func (.func 47) #[] #[.pointer (some ⟨z1, 0, none⟩), .pointer (some ⟨z3, 0, none⟩)], .func (.func 48) #[] #[.pointer (some ⟨z1, 0, none⟩)], .func (.func 49) #[] #[.pointer (some ⟨z1, 0, none⟩), .pointer (some ⟨z3, 0, none⟩)], .func (.func 38) #[.pointer none] #[]] 47) = x9 at A0 A1 A2 AE ⊢
  obtain ⟨z8, ez8⟩ : ∃ b, b = x4.heap.size := ⟨_, rfl⟩
  have ABz8 : Hid (w.heap.size ≤ z8) := by rw [ez8]; exact AB.out
  clear AB
  rw [← ez8] at A0 D0 D1 ⊢
  clear ez8
  have Hz8 := A0
  clear A0
  replace Hz1 := A1
  clear A1
  replace Hz3 := A2
  clear A2
  replace hE := AE
  clear AE
  have Dz8_0 := D0
  clear D0
  have Dz8_1 := D1
  clear D1
  refine wpList_call rfl (by simp [go_sem]) ((do_nil (.slice (some ⟨z8, 0, none⟩) 6 6) x9).mono ?_)
  rintro e yy ⟨rfl, hyy⟩
  refine ⟨_, rfl, ?_⟩
  simp only [Act.put, List.setIfInBounds_toArray, List.set_cons_zero, List.set_cons_succ]
  replace hyy := hyy.symm
  subst hyy
  refine xm [some (.int .i64 6)] (by kernel_rfl) (by simp [xr, go_sem]) ?_
  simp only [xw, p0, p1, p2, p3]
  go_wp2
  go_ret
  exact ⟨rfl, hE.out⟩
set_option maxRecDepth 20000 in
set_option maxHeartbeats 4000000 in
theorem nil_start (w : World) : Calls Try.prog 15 #[.pointer none] w fun e w' => e = .returned (.int .i64 6) ∧ Ext w w' := by
  have hE := hideit (Ext.refl w)
  go_enter Try.func15, Try.ntmps15
  go_upto_region 0 with (fail)
  refine wp_region_lit ?_
  have A0 := hideit (row1_new w (.pointer none) 26)
  have XB : Ext w (w.alloc (.cells #[.pointer none] 26)) := (Below.refl _ _).alloc (Nat.le_refl _) _
  have AE := hideit (Ext.trans hE.out (XB))
  have AB := hideit (hE.out.size)
  clear XB
  refine wpList_to rfl (.pointer (some ⟨w.heap.size, 0, none⟩)) (w.alloc (.cells #[.pointer none] 26)) (by simp [go_sem]) ?_
  simp only [Act.put, List.setIfInBounds_toArray, List.set_cons_zero, List.set_cons_succ]
  generalize w.alloc (.cells #[.pointer none] 26) = x2 at A0 AE ⊢
  obtain ⟨z1, ez1⟩ : ∃ b, b = w.heap.size := ⟨_, rfl⟩
  have ABz1 : Hid (w.heap.size ≤ z1) := by rw [ez1]; exact AB.out
  clear AB
  rw [← ez1] at A0  ⊢
  clear ez1
  have Hz1 := A0
  clear A0
  replace hE := AE
  clear AE
  refine xm [some (.int .i64 0)] (by kernel_rfl) (by simp [xr, go_sem]) ?_
  simp only [xw, p0, p1, p2, p3]
  go_upto_region 1 with (fail)
  refine wp_region_lit ?_
  have m3 : x2.cell? ⟨z1, 0, none⟩ = some (.pointer none) := Hz1.out.1 0 (by decide)
  refine xm [some (.pointer none), some (.pointer none), some (.func (.func 40) #[.pointer none] #[]), some (.func (.func 50) #[] #[.pointer (some ⟨z1, 0, none⟩)]), some (.func (.func 51) #[] #[.pointer (some ⟨z1, 0, none⟩)]), some (.pointer none), some (.func (.func 38) #[.pointer none] #[])] (by kernel_rfl) (by simp [xr, go_sem, m3]) ?_
  simp only [xw, p0, p1, p2, p3]
  clear m3
  have A0 := hideit (RowAt.newOf x2 4 (fnV (fun i => [40, 50, 51, 38].getD i 0) (fun i => [#[.pointer none], #[], #[], #[.pointer none]].getD i #[]) (fun i => [#[], #[.pointer (some ⟨z1, 0, none⟩)], #[.pointer (some ⟨z1, 0, none⟩)], #[]].getD i #[])) 47 #[.func (.func 40) #[.pointer none] #[], .func (.func 50) #[] #[.pointer (some ⟨z1, 0, none⟩)], .func (.func 51) #[] #[.pointer (some ⟨z1, 0, none⟩)], .func (.func 38) #[.pointer none] #[]] (fun j hj => by rcases (by omega : j = 0 ∨ j = 1 ∨ j = 2 ∨ j = 3) with rfl | rfl | rfl | rfl <;> rfl))
  have XB : Ext x2 (x2.alloc (.cells #[.func (.func 40) #[.pointer none] #[], .func (.func 50) #[] #[.pointer (some ⟨z1, 0, none⟩)], .func (.func 51) #[] #[.pointer (some ⟨z1, 0, none⟩)], .func (.func 38) #[.pointer none] #[]] 47)) := (Below.refl _ _).alloc (Nat.le_refl _) _
  have A1 := hideit (Hz1.out.carry XB)
  have AE := hideit (Ext.trans hE.out (XB))
  have AB := hideit (hE.out.size)
  have D0 : Hid (z1 ≠ x2.heap.size) := Nat.ne_of_lt Hz1.out.2.2
  clear XB
  refine wpList_to rfl (.slice (some ⟨x2.heap.size, 0, none⟩) 4 4) (x2.alloc (.cells #[.func (.func 40) #[.pointer none] #[], .func (.func 50) #[] #[.pointer (some ⟨z1, 0, none⟩)], .func (.func 51) #[] #[.pointer (some ⟨z1, 0, none⟩)], .func (.func 38) #[.pointer none] #[]] 47)) (by simp [go_sem]) ?_
  simp only [Act.put, List.setIfInBounds_toArray, List.set_cons_zero, List.set_cons_succ]
  generalize x2.alloc (.cells #[.func (.func 40) #[.pointer none] #[], .func (.func 50) #[] #[.pointer (some ⟨z1, 0, none⟩)], .func (.func 51) #[] #[.pointer (some ⟨z1, 0, none⟩)], .func (.func 38) #[.pointer none] #[]] 47) = x7 at A0 A1 AE ⊢
  obtain ⟨z6, ez6⟩ : ∃ b, b = x2.heap.size := ⟨_, rfl⟩
  have ABz6 : Hid (w.heap.size ≤ z6) := by rw [ez6]; exact AB.out
  clear AB
  rw [← ez6] at A0 D0 ⊢
  clear ez6
  have Hz6 := A0
  clear A0
  replace Hz1 := A1
  clear A1
  replace hE := AE
  clear AE
  have Dz6_0 := D0
  clear D0
  refine wpList_call rfl (by simp [go_sem]) ((do_nil (.slice (some ⟨z6, 0, none⟩) 4 4) x7).mono ?_)
  rintro e yy ⟨rfl, hyy⟩
  refine ⟨_, rfl, ?_⟩
  simp only [Act.put, List.setIfInBounds_toArray, List.set_cons_zero, List.set_cons_succ]
  replace hyy := hyy.symm
  subst hyy
  refine xm [some (.int .i64 6)] (by kernel_rfl) (by simp [xr, go_sem]) ?_
  simp only [xw, p0, p1, p2, p3]
  go_wp2
  go_ret
  exact ⟨rfl, hE.out⟩
set_option maxRecDepth 20000 in
set_option maxHeartbeats 4000000 in
theorem nil_close (w : World) : Calls Try.prog 16 #[.pointer none] w fun e w' => e = .returned (.int .i64 6) ∧ Ext w w' := by
  have hE := hideit (Ext.refl w)
  go_enter Try.func16, Try.ntmps16
  go_upto_region 0 with (fail)
  refine wp_region_lit ?_
  have A0 := hideit (row1_new w (.pointer none) 26)
  have XB : Ext w (w.alloc (.cells #[.pointer none] 26)) := (Below.refl _ _).alloc (Nat.le_refl _) _
  have AE := hideit (Ext.trans hE.out (XB))
  have AB := hideit (hE.out.size)
  clear XB
  refine wpList_to rfl (.pointer (some ⟨w.heap.size, 0, none⟩)) (w.alloc (.cells #[.pointer none] 26)) (by simp [go_sem]) ?_
  simp only [Act.put, List.setIfInBounds_toArray, List.set_cons_zero, List.set_cons_succ]
  generalize w.alloc (.cells #[.pointer none] 26) = x2 at A0 AE ⊢
  obtain ⟨z1, ez1⟩ : ∃ b, b = w.heap.size := ⟨_, rfl⟩
  have ABz1 : Hid (w.heap.size ≤ z1) := by rw [ez1]; exact AB.out
  clear AB
  rw [← ez1] at A0  ⊢
  clear ez1
  have Hz1 := A0
  clear A0
  replace hE := AE
  clear AE
  refine xm [some (.int .i64 0)] (by kernel_rfl) (by simp [xr, go_sem]) ?_
  simp only [xw, p0, p1, p2, p3]
  go_upto_region 1 with (fail)
  refine wp_region_lit ?_
  have m3 : x2.cell? ⟨z1, 0, none⟩ = some (.pointer none) := Hz1.out.1 0 (by decide)
  refine xm [some (.pointer none), some (.func (.func 52) #[] #[.pointer (some ⟨z1, 0, none⟩)])] (by kernel_rfl) (by simp [xr, go_sem, m3]) ?_
  simp only [xw, p0, p1, p2, p3]
  clear m3
  have A0 := hideit (RowAt.newOf x2 1 (fnV (fun i => [52].getD i 0) (fun i => [#[]].getD i #[]) (fun i => [#[.pointer (some ⟨z1, 0, none⟩)]].getD i #[])) 47 #[.func (.func 52) #[] #[.pointer (some ⟨z1, 0, none⟩)]] (fun j hj => by rcases (by omega : j = 0) with rfl <;> rfl))
  have XB : Ext x2 (x2.alloc (.cells #[.func (.func 52) #[] #[.pointer (some ⟨z1, 0, none⟩)]] 47)) := (Below.refl _ _).alloc (Nat.le_refl _) _
  have A1 := hideit (Hz1.out.carry XB)
  have AE := hideit (Ext.trans hE.out (XB))
  have AB := hideit (hE.out.size)
  have D0 : Hid (z1 ≠ x2.heap.size) := Nat.ne_of_lt Hz1.out.2.2
  clear XB
  refine wpList_to rfl (.slice (some ⟨x2.heap.size, 0, none⟩) 1 1) (x2.alloc (.cells #[.func (.func 52) #[] #[.pointer (some ⟨z1, 0, none⟩)]] 47)) (by simp [go_sem]) ?_
  simp only [Act.put, List.setIfInBounds_toArray, List.set_cons_zero, List.set_cons_succ]
  generalize x2.alloc (.cells #[.func (.func 52) #[] #[.pointer (some ⟨z1, 0, none⟩)]] 47) = x5 at A0 A1 AE ⊢
  obtain ⟨z4, ez4⟩ : ∃ b, b = x2.heap.size := ⟨_, rfl⟩
  have ABz4 : Hid (w.heap.size ≤ z4) := by rw [ez4]; exact AB.out
  clear AB
  rw [← ez4] at A0 D0 ⊢
  clear ez4
  have Hz4 := A0
  clear A0
  replace Hz1 := A1
  clear A1
  replace hE := AE
  clear AE
  have Dz4_0 := D0
  clear D0
  refine wpList_call rfl (by simp [go_sem]) ((do_nil (.slice (some ⟨z4, 0, none⟩) 1 1) x5).mono ?_)
  rintro e yy ⟨rfl, hyy⟩
  refine ⟨_, rfl, ?_⟩
  simp only [Act.put, List.setIfInBounds_toArray, List.set_cons_zero, List.set_cons_succ]
  replace hyy := hyy.symm
  subst hyy
  refine xm [some (.int .i64 6)] (by kernel_rfl) (by simp [xr, go_sem]) ?_
  simp only [xw, p0, p1, p2, p3]
  go_wp2
  go_ret
  exact ⟨rfl, hE.out⟩
end Go.Proofs.Ytcipkfalnjgghaa
