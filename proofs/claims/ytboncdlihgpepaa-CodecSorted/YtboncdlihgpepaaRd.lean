/-
  Readers: bytes cloned, widths, what a Reader has and passes over; for every Reader in every world.
-/
import Derived.Test.YtboncdlihgpepaaGrowV
import Derived.Lib.BufferMore
namespace Go.Proofs.Ytboncdlihgpepaa
open Go.RowKit Go.BigFrame
/-- behind an append to what was just made all old memory stands -/
theorem grownE {w X Y : World} {e : TypeId} {v : Value} {n base : Nat} {g : Nat → Value} (hE : Ext w X) (hO : OwnB base e v n g X) (hb : w.heap.size ≤ base) (hg : X.grownBy Y v.ownBlock) : Ext w Y :=
  Below.trans hE (below_grown (Below.size hE) hg fun k hk => Nat.le_trans hb (hO.lt k hk).1)
set_option maxRecDepth 20000 in
theorem clone_any (v : Value) (l : Nat) (b : Nat → BitVec 8) (w : World) (h : BV v l b w) (hl : l ≤ 140737488355328) :
    Calls Try.prog 42 #[v] w fun e w' => ∃ v', e = .returned v' ∧ OwnB w.heap.size 5 v' l (yv b) w' ∧ Ext w w' := by
  rcases h with ⟨rfl, rfl⟩ | ⟨a, cap, rfl, h2, h3⟩
  · have hq := fun X : World => Go.Lib.run_eql_slice_nil_nil (P := Try.prog) X 0 0 Try.underlying22
    go_enter Try.func42, Try.ntmps42
    go_wp2
    go_ret
    exact ⟨_, rfl, own_nil _ _ _ _, Ext.refl _⟩
  · have hE : Ext w (w.alloc (.cells #[] 5)) := (Below.refl _ _).alloc (Nat.le_refl _) _
    have hO := own_empty w w.heap.size 5 (yv b) (Nat.le_refl _)
    have hB : BV (.slice (some a) l cap) l b (w.alloc (.cells #[] 5)) := .inr ⟨a, cap, rfl, h2, h3.carry hE⟩
    replace hE := hideit hE
    replace hO := hideit hO
    replace hB := hideit hB
    clear h3
    have hq := fun X : World => Go.Lib.run_eql_slice_some_nil (P := Try.prog) X a l cap Try.underlying22
    go_enter Try.func42, Try.ntmps42
    go_upto_region 3 with (fail)
    refine wp_region_lit ?_
    refine wpList_to rfl (.slice (some ⟨w.heap.size, 0, none⟩) 0 0) (w.alloc (.cells #[] 5)) (by simp [go_sem]) ?_
    simp only [Act.put, List.setIfInBounds_toArray, List.set_cons_zero, List.set_cons_succ]
    refine wpList_run rfl (.slice (some a) l cap) (by simp [go_sem]) ?_
    simp only [Act.put, List.setIfInBounds_toArray, List.set_cons_zero, List.set_cons_succ]
    refine wpList_growV (n := 0) (base := w.heap.size) elem22 rfl (.tmp 5) (.tmp 6) rfl rfl hO.out (.slice (some a) l cap) l b (yv b) rfl hB.out (fun _ _ => rfl) (fun j hj => by rw [Nat.zero_add]) (by omega) (Below.size hE.out) ?_
    intro v1 w1 hO1 hg1
    rw [Nat.zero_add] at hO1
    have hE1 := hideit (grownE hE.out hO.out (Nat.le_refl _) hg1)
    replace hO1 := hideit hO1
    obtain ⟨o1, c1, rfl⟩ := hO1.out.bv.form
    simp only [Act.put, List.setIfInBounds_toArray, List.set_cons_zero, List.set_cons_succ]
    clear hE hO hg1 hB
    go_wp2
    go_ret
    exact ⟨_, rfl, hO1.out, hE1.out⟩
def iswB (n : Int) : Bool := n == 1 || n == 2 || n == 4 || n == 8
theorem isw_any (n : Int) (w : World) : Calls Try.prog 43 #[.int .i64 n] w fun e w' => e = .returned (.bool (iswB n)) ∧ w' = w := by
  go_enter Try.func43, Try.ntmps43
  go_wp2
  all_goals
    go_ret
    exact ⟨by simp [iswB, *], rfl⟩
def rdv (v : Value) (bad : Bool) : Nat → Value := fun j => if j = 0 then v else .bool bad
def RdAt (c : Nat) (v : Value) (bad : Bool) (w : World) : Prop := RowAt c 2 (rdv v bad) w
theorem RdAt.bytes {c : Nat} {v : Value} {bad : Bool} {w : World} (h : RdAt c v bad w) : w.cell? ⟨c, 0, none⟩ = some v := h.1 0 (by decide)
theorem RdAt.bad {c : Nat} {v : Value} {bad : Bool} {w : World} (h : RdAt c v bad w) : w.cell? ⟨c, 1, none⟩ = some (.bool bad) := h.1 1 (by decide)
theorem RdAt.setBad {c : Nat} {v : Value} {bad : Bool} {w : World} (h : RdAt c v bad w) (b : Bool) : RdAt c v b (w.setCell ⟨c, 1, none⟩ (.bool b)) :=
  (RowAt.set h 1 (.bool b)).congr fun j hj => by
    rcases (by omega : j = 0 ∨ j = 1) with rfl | rfl <;> rfl
theorem RdAt.setBytes {c : Nat} {v : Value} {bad : Bool} {w : World} (h : RdAt c v bad w) (u : Value) : RdAt c u bad (w.setCell ⟨c, 0, none⟩ u) :=
  (RowAt.set h 0 u).congr fun j hj => by
    rcases (by omega : j = 0 ∨ j = 1) with rfl | rfl <;> rfl
theorem has_ok (c : Nat) (oa : Option Addr) (l cp : Nat) (bad : Bool) (n : Nat) (w : World) (h : RdAt c (.slice oa l cp) bad w) (hn : n ≤ l) :
    Calls Try.prog 44 #[.pointer (some ⟨c, 0, none⟩), .int .i64 n] w fun e w' => e = .returned (.bool (!bad)) ∧ w' = w := by
  have e0 := h.bytes
  have e1 := h.bad
  have n0 : (0 : Int) ≤ (n : Int) := by omega
  have n1 : ¬ (l : Int) < (n : Int) := by omega
  clear h
  go_enter Try.func44, Try.ntmps44
  go_wp2
  go_ret
  exact ⟨rfl, rfl⟩
theorem has_no (c : Nat) (oa : Option Addr) (l cp : Nat) (bad : Bool) (n : Int) (w : World) (h : RdAt c (.slice oa l cp) bad w) (hn : n < 0 ∨ (l : Int) < n) :
    Calls Try.prog 44 #[.pointer (some ⟨c, 0, none⟩), .int .i64 n] w fun e w' => e = .returned (.bool false) ∧ RdAt c (.slice oa l cp) true w' ∧ But c w w' := by
  have e0 := h.bytes
  have e1 := h.bad
  have g1 := h.2.1 1 (by decide)
  have hs := hideit (h.setBad true)
  clear h
  by_cases n0 : n < 0
  · go_enter Try.func44, Try.ntmps44
    go_wp2
    go_ret
    exact ⟨rfl, hs.out, but_setCell _ _ _ _⟩
  · have n1 : (l : Int) < n := by omega
    go_enter Try.func44, Try.ntmps44
    go_wp2
    go_ret
    exact ⟨rfl, hs.out, but_setCell _ _ _ _⟩
end Go.Proofs.Ytboncdlihgpepaa
