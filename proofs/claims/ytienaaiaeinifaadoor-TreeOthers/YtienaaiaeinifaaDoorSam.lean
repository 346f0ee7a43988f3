/-
  Lists of bytes that are the same; leaves with another one among them.
-/
import Derived.Test.YtienaaiaeinifaaDoorSst
import Derived.Test.YtienaaiaeinifaaDoorOth
import Derived.Test.YtienaaiaeinifaaDoorOwnK
namespace Go.Proofs.YtienaaiaeinifaaDoor
open Go.RowKit Go.BigFrame
set_option maxRecDepth 20000 in
set_option maxHeartbeats 2000000 in
theorem same_true (k : Nat) (va vb : Value) (us us2 : Nat → Value) (ls : Nat → Nat) (bs bs2 : Nat → Nat → BitVec 8) (w : World) (hA : Parts va k us ls bs w) (hB : Parts vb k us2 ls bs2 w) (heq : ∀ i, i < k → ∀ j, j < ls i → bs i j = bs2 i j) (hk : k ≤ 140737488355328) :
    Calls Tryd.prog 16 #[va, vb] w fun e w' => e = .returned (.bool true) ∧ Ext w w' := by
  obtain ⟨ao, ac, rfl⟩ := hA.form
  obtain ⟨bo, bc, rfl⟩ := hB.form
  replace hA := hideit hA
  replace hB := hideit hB
  replace heq := hideit heq
  go_enter Tryd.func16, Tryd.ntmps16
  go_wp2
  go_loopw [5] (fun iv X => ∃ i : Nat, i ≤ k ∧ iv = .int .i64 (i : Int) ∧ Ext w X) (fun iv _ => k - (intOf iv).toNat)
  case atStart => exact ⟨0, Nat.zero_le _, rfl, Ext.refl _⟩
  case round =>
    obtain ⟨i, hi, rfl, hE⟩ := hrel
    replace hE := hideit hE
    by_cases hlt : i < k
    · have i0 : (0 : Int) ≤ (i : Int) := by omega
      have i1 : (i : Int) < (k : Int) := by omega
      obtain ⟨a, rfl, hal⟩ : ∃ a, ao = some a ∧ LieAt a k us w := by
        rcases hA.out.1 with ⟨h, h0⟩ | ⟨a, cap', h, _, h3⟩
        · omega
        · injection h with e1 e2 e3
          exact ⟨a, e1, h3⟩
      obtain ⟨b, rfl, hbl⟩ : ∃ a, bo = some a ∧ LieAt a k us2 w := by
        rcases hB.out.1 with ⟨h, h0⟩ | ⟨a, cap', h, _, h3⟩
        · omega
        · injection h with e1 e2 e3
          exact ⟨a, e1, h3⟩
      have hav := hA.out.2 i hlt
      have hbv := hB.out.2 i hlt
      obtain ⟨s1, hs1⟩ : ∃ s1, s1 = bstr (ls i) (fun t => ((bs i t).toNat : Int)) := ⟨_, rfl⟩
      have hs2 : s1 = bstr (ls i) (fun t => ((bs2 i t).toNat : Int)) := by
        rw [hs1]
        exact bstr_congr fun j hj => by rw [heq.out i hlt j hj]
      obtain ⟨xo, xc, hxu⟩ := hav.form
      obtain ⟨yo, yc, hyu⟩ := hbv.form
      have hdr : Ext w wr.drew := Ext.trans hE.out (Ext.refl wr).draw
      have ca : ∀ X, Ext wr.drew X → (convert 23 9 (.slice xo (ls i) xc)).run Tryd.prog X = .ok (.string s1) X := fun X hX => by rw [hs1, ← hxu]; exact convV _ _ _ X (hav.ext (Ext.trans hdr hX))
      have cb : ∀ X, Ext wr.drew X → (convert 23 9 (.slice yo (ls i) yc)).run Tryd.prog X = .ok (.string s1) X := fun X hX => by rw [hs2, ← hyu]; exact convV _ _ _ X (hbv.ext (Ext.trans hdr hX))
      replace hxu := hideit hxu
      replace hyu := hideit hyu
      replace hdr := hideit hdr
      replace hal := hideit hal
      replace hbl := hideit hbl
      clear hs1 hs2 hav hbv
      go_upto_region 6 with (fail)
      refine wp_region_lad (fun X => Ext wr.drew X) [(false, 0), (false, 1), (false, 2), (false, 3), (false, 4), (false, 5), (false, 6), (false, 7), (false, 8), (false, 9), (false, 10)] (by kernel_rfl) (by kernel_rfl) (by decide +kernel) (by decide +kernel) (by decide +kernel) (by decide +kernel) (Ext.refl _) ?_
      refine wpX_f _ (.slice (some a) k ac) rfl rfl (fun X _ => by simp [go_sem]) ?_
      simp only [List.getElem_toArray, List.getElem_cons_zero, Act.put, List.setIfInBounds_toArray, List.set_cons_zero, List.set_cons_succ]
      refine wpX_f _ (.int .i64 (i : Int)) rfl rfl (fun X _ => by simp [go_sem]) ?_
      simp only [List.getElem_toArray, List.getElem_cons_zero, List.getElem_cons_succ, Act.put, List.setIfInBounds_toArray, List.set_cons_zero, List.set_cons_succ]
      refine wpX_f _ (.pointer (some (a.add i))) rfl rfl (fun X _ => by simp [go_sem, i1]) ?_
      simp only [List.getElem_toArray, List.getElem_cons_zero, List.getElem_cons_succ, Act.put, List.setIfInBounds_toArray, List.set_cons_zero, List.set_cons_succ]
      refine wpX_f _ (.slice xo (ls i) xc) rfl rfl (fun X hX => by have e := (hal.out.carry (Ext.trans hdr.out hX)).1 i hlt; rw [hxu.out] at e; simp [go_sem, e]) ?_
      simp only [List.getElem_toArray, List.getElem_cons_zero, List.getElem_cons_succ, Act.put, List.setIfInBounds_toArray, List.set_cons_zero, List.set_cons_succ]
      refine wpX_f _ (.string s1) rfl rfl (fun X hX => by have e := ca X hX; simp [go_sem, e]) ?_
      simp only [List.getElem_toArray, List.getElem_cons_zero, List.getElem_cons_succ, Act.put, List.setIfInBounds_toArray, List.set_cons_zero, List.set_cons_succ]
      refine wpX_f _ (.slice (some b) k bc) rfl rfl (fun X _ => by simp [go_sem]) ?_
      simp only [List.getElem_toArray, List.getElem_cons_zero, List.getElem_cons_succ, Act.put, List.setIfInBounds_toArray, List.set_cons_zero, List.set_cons_succ]
      refine wpX_f _ (.int .i64 (i : Int)) rfl rfl (fun X _ => by simp [go_sem]) ?_
      simp only [List.getElem_toArray, List.getElem_cons_zero, List.getElem_cons_succ, Act.put, List.setIfInBounds_toArray, List.set_cons_zero, List.set_cons_succ]
      refine wpX_f _ (.pointer (some (b.add i))) rfl rfl (fun X _ => by simp [go_sem, i1]) ?_
      simp only [List.getElem_toArray, List.getElem_cons_zero, List.getElem_cons_succ, Act.put, List.setIfInBounds_toArray, List.set_cons_zero, List.set_cons_succ]
      refine wpX_f _ (.slice yo (ls i) yc) rfl rfl (fun X hX => by have e := (hbl.out.carry (Ext.trans hdr.out hX)).1 i hlt; rw [hyu.out] at e; simp [go_sem, e]) ?_
      simp only [List.getElem_toArray, List.getElem_cons_zero, List.getElem_cons_succ, Act.put, List.setIfInBounds_toArray, List.set_cons_zero, List.set_cons_succ]
      refine wpX_f _ (.string s1) rfl rfl (fun X hX => by have e := cb X hX; simp [go_sem, e]) ?_
      simp only [List.getElem_toArray, List.getElem_cons_zero, List.getElem_cons_succ, Act.put, List.setIfInBounds_toArray, List.set_cons_zero, List.set_cons_succ]
      refine wpX_f _ (.bool false) rfl rfl (fun X _ => by simp [go_sem]) ?_
      simp only [List.getElem_toArray, List.getElem_cons_zero, List.getElem_cons_succ, Act.put, List.setIfInBounds_toArray, List.set_cons_zero, List.set_cons_succ]
      refine wpX_nil ?_
      clear ca cb
      go_wp2
      exact ⟨⟨i + 1, by omega, by go_num, hdr.out⟩, by simp [intOf]; omega⟩
    · obtain rfl : i = k := by omega
      have i1 : ¬ (i : Int) < (i : Int) := by omega
      go_wp2
      go_ret
      exact ⟨rfl, hE.out⟩
theorem elem22K : ElemK Tryd.prog 22 25 32 32 := elem_k Tryd.underlying22 (by kernel_rfl) (by kernel_rfl) (by kernel_rfl)
theorem ownK_empty (w : World) (K base : Nat) (e : TypeId) (g : Nat → Value) (hb : base ≤ w.heap.size) : OwnK K base e (.slice (some ⟨w.heap.size, 0, none⟩) 0 0) 0 g (w.alloc (.cells #[] e)) :=
  ⟨by rw [Nat.zero_mul]; rfl, .inr ⟨w.heap.size, 0, #[], rfl, hb, by
    show (w.heap.push (.cells #[] e))[w.heap.size]? = _
    simp, Nat.le_refl _, by unfold maxLen; decide, by simp, by simp [row]⟩⟩
theorem row_change {b n x : Nat} {d : Nat → Nat → BitVec 8} {leaf : Nat → BitVec 8} {w : World} (h : RowAt b (n * 32) (lfV d) w) (hx : x < n) : RowAt b (n * 32) (lfV (dch d x leaf)) (w.setCells b (x * 32) (row 32 (yv leaf))) :=
  (h.part (x * 32) 32 (yv leaf) (by omega)).congr fun j hj => by
    by_cases h1 : x * 32 ≤ j ∧ j < x * 32 + 32
    · rw [if_pos h1]
      unfold lfV dch
      rw [if_pos (by omega), show j % 32 = j - x * 32 by omega]
    · rw [if_neg h1]
      unfold lfV dch
      rw [if_neg (by omega)]
end Go.Proofs.YtienaaiaeinifaaDoor
