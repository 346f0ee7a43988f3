/-
  The places of a leaf: what the function that is ranged over hands out.
-/
import Derived.Test.YtapmheocllicnaaDoorPth
import Derived.Test.YtapmheocllicnaaDoorRnd
import Derived.RangeFuncBound
import Derived.Shelf.Abstract
import Derived.OwnWalkIn
import Derived.TacticsInMore
import Derived.LoopNIn
import Derived.LoopIn
namespace Go.Proofs.YtapmheocllicnaaDoor
open Go.RowKit Go.BigFrame Go.Shelf
attribute [local go_sem] Oper.semAt_some
theorem places_any (x k : Int) (w : World) : Calls Tryd.prog 34 #[.int .i64 x, .int .i64 k] w fun e w' => e = .returned (.func (.func 45) #[] #[.pointer (some ⟨w.heap.size, 0, none⟩), .pointer (some ⟨w.heap.size + 1, 0, none⟩)]) ∧ w' = (w.alloc (.cells #[.int .i64 x] 3)).alloc (.cells #[.int .i64 k] 3) := by
  go_enter Tryd.func34, Tryd.ntmps34
  go_wp2
  go_ret
  exact ⟨rfl, rfl⟩
/-- a level of a path -/
abbrev Lev (k : Nat) := { j : Nat // j < k }
def plc (x j : Nat) : Nat := x / 16 ^ j % 16
abbrev encP (x k : Nat) (j : Lev k) : Array Value := #[.int .i64 (j.1 : Int), .int .i64 (plc x j.1 : Int)]
def upL {k : Nat} (l : List (Lev k)) : List Nat := l.map (·.1)
set_option maxRecDepth 20000 in
set_option maxHeartbeats 2000000 in
theorem places_stops (n : Nat) (hn : 1 ≤ n) (x k b0 b1 : Nat) (w : World) (h0 : w.cell? ⟨b0, 0, none⟩ = some (.int .i64 (x : Int))) (h1 : w.cell? ⟨b1, 0, none⟩ = some (.int .i64 (k : Int))) (l0 : b0 < w.heap.size) (l1 : b1 < w.heap.size) (hk : k ≤ 100) (hx : x ≤ 4096) :
    SeqStopsK Fence.wide n Tryd.prog 45 #[.pointer (some ⟨b0, 0, none⟩), .pointer (some ⟨b1, 0, none⟩)] (encP x k) KeepsWalks (fun xs => upL xs = List.range k) (fun pre => upL pre <+: List.range k) k w := fun l J Jx W hW hJ hJx hY hJ0 => by
  refine callsIn_of_wp Tryd.func45 rfl trivial ?_ rfl
  simp only [Tryd.ntmps45, List.size_toArray, List.length_cons, List.length_nil, Nat.reduceAdd, Nat.reduceSub, Array.replicate_succ, Array.replicate_zero, List.push_toArray, List.append_toArray, List.nil_append, List.cons_append]
  have c0 : W.cell? ⟨b0, 0, none⟩ = some (.int .i64 (x : Int)) := (Below.cell hW (p := ⟨b0, 0, none⟩) l0).trans h0
  have c1 : W.cell? ⟨b1, 0, none⟩ = some (.int .i64 (k : Int)) := (Below.cell hW (p := ⟨b1, 0, none⟩) l1).trans h1
  replace hY := hideit hY
  clear h0 h1 hJ hJx hW
  gi_wp2
  gi_loopw [8, 4] (fun iv cv wr => ∃ (pre : List (Lev k)) (q : Nat), upL pre = List.range pre.length ∧ pre.length ≤ k ∧ iv = .int .i64 (pre.length : Int) ∧ cv = .int .i64 (q : Int) ∧ q = x / 16 ^ pre.length ∧ J pre wr) (fun iv _ _ => k - (intOf iv).toNat)
  case atStart => exact ⟨[], x, rfl, Nat.zero_le _, rfl, rfl, by simp, hJ0⟩
  case round =>
    obtain ⟨pre, q, hp1, hp2, rfl, rfl, hq, hJs⟩ := hrel
    obtain ⟨m, hm⟩ : ∃ m, m = pre.length := ⟨_, rfl⟩
    rw [← hm] at hp1 hp2 hq ⊢
    replace hp1 := hideit hp1
    have hq9 : q ≤ 4096 := by rw [hq]; exact Nat.le_trans (Nat.div_le_self _ _) hx
    replace hq := hideit hq
    clear hJ0
    by_cases hlt : m < k
    · obtain ⟨fn, tmps, assign, body, hy, hR⟩ := hY.out pre ⟨m, hlt⟩ wr hJs (by rw [← hm]; exact hlt)
      dsimp only [encP] at hy
      rw [show plc x m = q % 16 by rw [hq.out]; rfl] at hy
      have i1 : (m : Int) < (k : Int) := by omega
      rw [show (((q % 16 : Nat)) : Int) = (q : Int) % 16 by omega] at hy
      replace hm := hideit hm
      gi_wp2
      refine hR.mono ?_
      rintro e W3 (⟨rfl, hJ3, -⟩ | ⟨rfl, hJx3⟩)
      · have hup : upL (pre ++ [(⟨m, hlt⟩ : Lev k)]) = List.range (pre ++ [(⟨m, hlt⟩ : Lev k)]).length := by
          have e1 := hp1.out
          unfold upL at e1 ⊢
          rw [List.map_append, e1, List.length_append, ← hm.out]
          simp [List.range_succ]
        have hq' : q / 16 = x / 16 ^ (pre ++ [(⟨m, hlt⟩ : Lev k)]).length := by
          rw [hq.out, List.length_append, ← hm.out, List.length_singleton, Nat.pow_succ, Nat.div_div_eq_div_mul]
        have hl' : (pre ++ [(⟨m, hlt⟩ : Lev k)]).length = m + 1 := by rw [List.length_append, ← hm.out]; rfl
        replace hup := hideit hup
        replace hq' := hideit hq'
        replace hl' := hideit hl'
        clear hy hR hJs
        gi_wp2
        exact ⟨⟨pre ++ [⟨m, hlt⟩], q / 16, hup.out, by rw [hl'.out]; omega, by rw [hl'.out]; go_num, by go_num, hq'.out, hJ3⟩, by simp [intOf]; omega⟩
      · gi_wp2
        refine bodyPost_ret (results_none rfl _ _ _) rfl ?_
        refine ⟨⟨_, rfl⟩, .inr ⟨pre ++ [⟨m, hlt⟩], ?_, hJx3⟩⟩
        have e1 := hp1.out
        unfold upL at e1 ⊢
        rw [List.map_append, e1]
        show List.range m ++ [m] <+: List.range k
        rw [← List.range_succ]
        have e2 := List.take_prefix (m + 1) (List.range k)
        rwa [List.take_range, Nat.min_eq_left (by omega)] at e2
    · have i1 : ¬ (m : Int) < (k : Int) := by omega
      obtain rfl : m = k := by omega
      replace hm := hideit hm
      gi_wp2
      go_end0
      exact ⟨⟨_, rfl⟩, .inl ⟨pre, hp1.out, hJs⟩⟩
end Go.Proofs.YtapmheocllicnaaDoor
