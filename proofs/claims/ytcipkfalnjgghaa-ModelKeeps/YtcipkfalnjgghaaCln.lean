/-
  What bytes.Clone answers.
-/
import Derived.Test.YtcipkfalnjgghaaGrowV
import Derived.Lib.BufferMore
namespace Go.Proofs.Ytcipkfalnjgghaa
open Go.RowKit Go.BigFrame
theorem grownE {w X Y : World} {e : TypeId} {v : Value} {n base : Nat} {g : Nat → Value} (hE : Ext w X) (hO : OwnB base e v n g X) (hb : w.heap.size ≤ base) (hg : X.grownBy Y v.ownBlock) : Ext w Y :=
  Below.trans hE (below_grown (Below.size hE) hg fun k hk => Nat.le_trans hb (hO.lt k hk).1)
set_option maxRecDepth 20000 in
theorem clone_any (v : Value) (l : Nat) (b : Nat → BitVec 8) (w : World) (h : BV v l b w) (hl : l ≤ 140737488355328) :
    Calls Try.prog 45 #[v] w fun e w' => ∃ v', e = .returned v' ∧ OwnB w.heap.size 5 v' l (yv b) w' ∧ Ext w w' := by
  rcases h with ⟨rfl, rfl⟩ | ⟨a, cap, rfl, h2, h3⟩
  · have hq := fun X : World => Go.Lib.run_eql_slice_nil_nil (P := Try.prog) X 0 0 Try.underlying22
    go_enter Try.func45, Try.ntmps45
    go_wp2
    go_ret
    exact ⟨_, rfl, own_nil _ _ _ _, Ext.refl _⟩
  · have hE : Ext w (w.alloc (.cells #[] 5)) := (Below.refl _ _).alloc (Nat.le_refl _) _
    have hO := own_empty w w.heap.size 5 (yv b) (Nat.le_refl _)
    have hB : BV (.slice (some a) l cap) l b (w.alloc (.cells #[] 5)) := .inr ⟨a, cap, rfl, h2, h3.carry hE⟩
    replace hE := hideit hE
    replace hO := hideit hO
    replace hB := hideit hB
    clear h3
    have hq := fun X : World => Go.Lib.run_eql_slice_some_nil (P := Try.prog) X a l cap Try.underlying22
    go_enter Try.func45, Try.ntmps45
    go_upto_region 3 with (fail)
    refine wp_region_lit ?_
    refine wpList_to rfl (.slice (some ⟨w.heap.size, 0, none⟩) 0 0) (w.alloc (.cells #[] 5)) (by simp [go_sem]) ?_
    simp only [Act.put, List.setIfInBounds_toArray, List.set_cons_zero, List.set_cons_succ]
    refine wpList_run rfl (.slice (some a) l cap) (by simp [go_sem]) ?_
    simp only [Act.put, List.setIfInBounds_toArray, List.set_cons_zero, List.set_cons_succ]
    refine wpList_growV (n := 0) (base := w.heap.size) elem22 rfl (.tmp 5) (.tmp 6) rfl rfl hO.out (.slice (some a) l cap) l b (yv b) rfl hB.out (fun _ _ => rfl) (fun j hj => by rw [Nat.zero_add]) (by omega) (Below.size hE.out) ?_
    intro v1 w1 hO1 hg1
    rw [Nat.zero_add] at hO1
    have hE1 := hideit (grownE hE.out hO.out (Nat.le_refl _) hg1)
    replace hO1 := hideit hO1
    obtain ⟨o1, c1, rfl⟩ := hO1.out.bv.form
    simp only [Act.put, List.setIfInBounds_toArray, List.set_cons_zero, List.set_cons_succ]
    clear hE hO hg1 hB
    go_wp2
    go_ret
    exact ⟨_, rfl, hO1.out, hE1.out⟩
end Go.Proofs.Ytcipkfalnjgghaa
