/-
  Parse of the longest lists. Parse by its code; lists of blocks that are changed.
-/
import Derived.Test.YtedgopionpdfeaaDoorQ41
import Derived.Test.YtedgopionpdfeaaDoorQ38
namespace Go.Proofs.YtedgopionpdfeaaDoor
open Go.RowKit Go.BigFrame
set_option linter.unusedVariables false
set_option maxRecDepth 20000 in
set_option maxHeartbeats 4000000 in
theorem parse_noneB (x : BitVec 64) (vb : Value) (m : Nat) (us : Nat → Value) (ls : Nat → Nat) (fs : Nat → Nat → BitVec 8) (w : World) (hP : PL vb m us ls fs w) (h0 : 0 < m → BV (us 0) (ls 0) (fs 0) w) (hls : ∀ i, i < m → ls i ≤ 140737488355328) (hm : m ≤ 5900000000000) (hno : ¬ hasP x m ls fs) : Calls Tryd.prog 12 #[.int .u64 (x.toNat : Int), vb] w fun e w' => e = .returned (.tuple #[.slice none 0 0, .int .i64 0, .int .i64 110]) ∧ Ext w w' := by
  obtain ⟨o, cap, rfl⟩ := hP.form
  by_cases hm0 : 0 < m
  · have m0 : ¬ (m : Int) = 0 := by omega
    have mz : ¬ m = 0 := by omega
    obtain ⟨a, rfl, eb⟩ := hP.at 0 hm0
    have ha0 : a.add 0 = a := by unfold Addr.add; simp
    rw [ha0] at eb
    clear ha0
    have kp := hideit (planIn_any (us 0) (ls 0) (fs 0) w (h0 hm0) (hls 0 hm0))
    clear hP h0 hls
    go_enter Tryd.func12, Tryd.ntmps12
    go_upto_region 3 with (fail)
    refine wp_region_lit ?_
    refine wpList_run rfl (.slice (some a) m cap) (by simp [go_sem]) ?_
    simp only [Act.put, List.setIfInBounds_toArray, List.set_cons_zero, List.set_cons_succ]
    refine wpList_run rfl (.pointer (some a)) (by simp [go_sem, mz]) ?_
    simp only [Act.put, List.setIfInBounds_toArray, List.set_cons_zero, List.set_cons_succ]
    refine wpList_run rfl (us 0) (by simp [go_sem, eb]) ?_
    simp only [Act.put, List.setIfInBounds_toArray, List.set_cons_zero, List.set_cons_succ]
    refine wpList_call rfl (by simp [go_sem]) ((kp.out).mono ?_)
    rintro e w1 ⟨pa, ok, rfl, hE1, hq⟩
    refine ⟨_, rfl, ?_⟩
    simp only [Act.put, List.setIfInBounds_toArray, List.set_cons_zero, List.set_cons_succ]
    clear kp eb
    rcases hq with ⟨rfl, hyes, v, rfl, hO⟩ | ⟨rfl, hnp, rfl⟩
    · obtain ⟨vo, vc, rfl⟩ := own_form3 hO
      have hpr : RowAt w1.heap.size 3 (plV 0#64 0#64 (.slice none 0 0)) (w1.alloc (.cells #[.int .u64 0, .int .u64 0, .slice none 0 0] 47)) := RowAt.newOf w1 3 _ 47 _ fun j hj => by rcases (by omega : j = 0 ∨ j = 1 ∨ j = 2) with rfl | rfl | rfl <;> rfl
      have hX2 : Ext w1 ((w1.alloc (.cells #[.int .u64 0, .int .u64 0, .slice none 0 0] 47)).setCells w1.heap.size 0 (row 3 (plV (nP (fs 0)) (tP (fs 0)) (.slice vo (cP (fs 0)) vc)))) := below_setCells w1.heap.size (Nat.le_refl _) _ 0 _ ((Below.refl _ _).alloc (Nat.le_refl _) _)
      have hR2 : RowAt w1.heap.size 3 (plV (nP (fs 0)) (tP (fs 0)) (.slice vo (cP (fs 0)) vc)) ((w1.alloc (.cells #[.int .u64 0, .int .u64 0, .slice none 0 0] 47)).setCells w1.heap.size 0 (row 3 (plV (nP (fs 0)) (tP (fs 0)) (.slice vo (cP (fs 0)) vc)))) := hpr.cells
      rw [plA_row]
      refine wpList_run rfl (.tuple #[.agg (row 3 (plV (nP (fs 0)) (tP (fs 0)) (.slice vo (cP (fs 0)) vc))).toArray, .bool true]) (by simp [go_sem]) ?_
      simp only [Act.put, List.setIfInBounds_toArray, List.set_cons_zero, List.set_cons_succ]
      refine wpList_run rfl (.agg (row 3 (plV (nP (fs 0)) (tP (fs 0)) (.slice vo (cP (fs 0)) vc))).toArray) (by simp [go_sem]) ?_
      simp only [Act.put, List.setIfInBounds_toArray, List.set_cons_zero, List.set_cons_succ]
      refine wpList_run rfl (.bool true) (by simp [go_sem]) ?_
      simp only [Act.put, List.setIfInBounds_toArray, List.set_cons_zero, List.set_cons_succ]
      refine wpList_to rfl (.pointer (some ⟨w1.heap.size, 0, none⟩)) (w1.alloc (.cells #[.int .u64 0, .int .u64 0, .slice none 0 0] 47)) (alloc47 rfl) ?_
      simp only [Act.put, List.setIfInBounds_toArray, List.set_cons_zero, List.set_cons_succ]
      refine wpList_store_mid rfl 47 (.tmp 7) (.tmp 21) rfl w1.heap.size 0 (row 3 (plV (nP (fs 0)) (tP (fs 0)) (.slice vo (cP (fs 0)) vc))).toArray rfl rfl (by rw [row_size]; exact hpr.there) (by rw [row_size]; exact info47) (row_one (plV_one rfl)) ?_
      rw [show (row 3 (plV (nP (fs 0)) (tP (fs 0)) (.slice vo (cP (fs 0)) vc))).toArray.toList = (row 3 (plV (nP (fs 0)) (tP (fs 0)) (.slice vo (cP (fs 0)) vc))) from rfl]
      generalize (w1.alloc (.cells #[.int .u64 0, .int .u64 0, .slice none 0 0] 47)).setCells w1.heap.size 0 (row 3 (plV (nP (fs 0)) (tP (fs 0)) (.slice vo (cP (fs 0)) vc))) = w2 at *
      generalize w1.heap.size = p at *
      simp only [Act.put]
      refine wpList_run rfl (.bool true) (by simp [go_sem]) ?_
      simp only [Act.put, List.setIfInBounds_toArray, List.set_cons_zero, List.set_cons_succ]
      have hE2 := hideit (Ext.trans hE1 hX2)
      have c0 : w2.cell? ⟨p, 0, none⟩ = some (.int .u64 ((nP (fs 0)).toNat : Int)) := hR2.1 0 (by decide)
      have c2 : w2.cell? ⟨p, 2, none⟩ = some (.slice vo (cP (fs 0)) vc) := hR2.1 2 (by decide)
      have hcn : cP (fs 0) ≤ 65535 := by
        have := leN_nat (shF (fs 0) 12) 2 (by decide)
        unfold cP
        omega
      have hw2 : IntKind.i64.wrap ((cP (fs 0) : Int) + 2) = ((cP (fs 0) + 2 : Nat) : Int) := by rw [IntKind.wrap_i64]; omega
      have hc : nP (fs 0) ≠ x ∨ ¬ cP (fs 0) + 2 ≤ m := by
        by_cases h1 : nP (fs 0) = x
        · exact .inr fun h2 => hno ⟨hm0, hyes, h1, h2⟩
        · exact .inl h1
      clear hO hX2 hpr hE1 hR2 hyes hno
      generalize nP (fs 0) = nx at *
      generalize tP (fs 0) = tx at *
      generalize cP (fs 0) = n at *
      go_upto_region 4 with (fail)
      refine wp_region_lit ?_
      refine wpList_run rfl (.pointer (some ⟨p, 2, none⟩)) (by simp [go_sem]) ?_
      simp only [Act.put, List.setIfInBounds_toArray, List.set_cons_zero, List.set_cons_succ]
      refine wpList_run rfl (.slice vo n vc) (by simp [go_sem, c2]) ?_
      simp only [Act.put, List.setIfInBounds_toArray, List.set_cons_zero, List.set_cons_succ]
      refine wpList_run rfl (.int .i64 (n : Int)) (by simp [go_sem]) ?_
      simp only [Act.put, List.setIfInBounds_toArray, List.set_cons_zero, List.set_cons_succ]
      refine wpList_run rfl (.int .i64 ((n + 2 : Nat) : Int)) (by simp [go_sem, hw2]) ?_
      simp only [Act.put, List.setIfInBounds_toArray, List.set_cons_zero, List.set_cons_succ]
      refine wpList_run rfl (.int .i64 ((n + 2 : Nat) : Int)) (by simp [go_sem]) ?_
      simp only [Act.put, List.setIfInBounds_toArray, List.set_cons_zero, List.set_cons_succ]
      clear c2 hw2
      generalize hn2 : n + 2 = n2 at *
      by_cases h1 : nx = x
      · subst h1
        have g1 : (m : Int) < (n2 : Int) := by
          rcases hc with hc | hc
          · exact absurd rfl hc
          · omega
        clear hc
        go_upto_region 5 with (fail)
        refine wp_region_lit ?_
        refine wpList_run rfl (.bool true) (by simp [go_sem]) ?_
        simp only [Act.put, List.setIfInBounds_toArray, List.set_cons_zero, List.set_cons_succ]
        refine wpList_run rfl (.bool false) (by simp [go_sem]) ?_
        simp only [Act.put, List.setIfInBounds_toArray, List.set_cons_zero, List.set_cons_succ]
        refine wpList_run rfl (.bool false) (by simp [go_sem]) ?_
        simp only [Act.put, List.setIfInBounds_toArray, List.set_cons_zero, List.set_cons_succ]
        refine wpList_runW rfl (.pointer (some ⟨p, 0, none⟩)) (by simp [go_sem]) ?_
        simp only [Act.put, List.setIfInBounds_toArray, List.set_cons_zero, List.set_cons_succ]
        refine wpList_runW rfl (.int .u64 (nx.toNat : Int)) (by simp [go_sem, c0]) ?_
        simp only [Act.put, List.setIfInBounds_toArray, List.set_cons_zero, List.set_cons_succ]
        refine wpList_runW rfl (.int .u64 (nx.toNat : Int)) (by simp [go_sem]) ?_
        simp only [Act.put, List.setIfInBounds_toArray, List.set_cons_zero, List.set_cons_succ]
        refine wpList_runW rfl (.bool false) (by simp [go_sem]) ?_
        simp only [Act.put, List.setIfInBounds_toArray, List.set_cons_zero, List.set_cons_succ]
        refine wpList_run rfl (.bool false) (by simp [go_sem]) ?_
        simp only [Act.put, List.setIfInBounds_toArray, List.set_cons_zero, List.set_cons_succ]
        refine wpList_run rfl (.bool false) (by simp [go_sem]) ?_
        simp only [Act.put, List.setIfInBounds_toArray, List.set_cons_zero, List.set_cons_succ]
        refine wpList_runW rfl (.int .i64 (n2 : Int)) (by simp [go_sem]) ?_
        simp only [Act.put, List.setIfInBounds_toArray, List.set_cons_zero, List.set_cons_succ]
        refine wpList_runW rfl (.slice (some a) m cap) (by simp [go_sem]) ?_
        simp only [Act.put, List.setIfInBounds_toArray, List.set_cons_zero, List.set_cons_succ]
        refine wpList_runW rfl (.int .i64 (m : Int)) (by simp [go_sem]) ?_
        simp only [Act.put, List.setIfInBounds_toArray, List.set_cons_zero, List.set_cons_succ]
        refine wpList_runW rfl (.bool true) (by simp [go_sem, g1]) ?_
        simp only [Act.put, List.setIfInBounds_toArray, List.set_cons_zero, List.set_cons_succ]
        refine wpList_run rfl (.bool true) (by simp [go_sem]) ?_
        simp only [Act.put, List.setIfInBounds_toArray, List.set_cons_zero, List.set_cons_succ]
        clear c0 g1
        go_wp2
        refine bodyPost_ret (results_tmp3 rfl _ _ _) rfl ?_
        exact ⟨rfl, hE2.out⟩
      · have g1 : ¬ (nx.toNat : Int) = (x.toNat : Int) := fun h => h1 (BitVec.eq_of_toNat_eq (by omega))
        clear hc
        go_upto_region 5 with (fail)
        refine wp_region_lit ?_
        refine wpList_run rfl (.bool true) (by simp [go_sem]) ?_
        simp only [Act.put, List.setIfInBounds_toArray, List.set_cons_zero, List.set_cons_succ]
        refine wpList_run rfl (.bool false) (by simp [go_sem]) ?_
        simp only [Act.put, List.setIfInBounds_toArray, List.set_cons_zero, List.set_cons_succ]
        refine wpList_run rfl (.bool false) (by simp [go_sem]) ?_
        simp only [Act.put, List.setIfInBounds_toArray, List.set_cons_zero, List.set_cons_succ]
        refine wpList_runW rfl (.pointer (some ⟨p, 0, none⟩)) (by simp [go_sem]) ?_
        simp only [Act.put, List.setIfInBounds_toArray, List.set_cons_zero, List.set_cons_succ]
        refine wpList_runW rfl (.int .u64 (nx.toNat : Int)) (by simp [go_sem, c0]) ?_
        simp only [Act.put, List.setIfInBounds_toArray, List.set_cons_zero, List.set_cons_succ]
        refine wpList_runW rfl (.int .u64 (x.toNat : Int)) (by simp [go_sem]) ?_
        simp only [Act.put, List.setIfInBounds_toArray, List.set_cons_zero, List.set_cons_succ]
        refine wpList_runW rfl (.bool true) (by simp [go_sem, g1]) ?_
        simp only [Act.put, List.setIfInBounds_toArray, List.set_cons_zero, List.set_cons_succ]
        refine wpList_run rfl (.bool true) (by simp [go_sem]) ?_
        simp only [Act.put, List.setIfInBounds_toArray, List.set_cons_zero, List.set_cons_succ]
        refine wpList_run rfl (.bool true) (by simp [go_sem]) ?_
        simp only [Act.put, List.setIfInBounds_toArray, List.set_cons_zero, List.set_cons_succ]
        refine wpList_skip rfl ?_
        simp only [Act.put, List.setIfInBounds_toArray, List.set_cons_zero, List.set_cons_succ]
        refine wpList_skip rfl ?_
        simp only [Act.put, List.setIfInBounds_toArray, List.set_cons_zero, List.set_cons_succ]
        refine wpList_skip rfl ?_
        simp only [Act.put, List.setIfInBounds_toArray, List.set_cons_zero, List.set_cons_succ]
        refine wpList_skip rfl ?_
        simp only [Act.put, List.setIfInBounds_toArray, List.set_cons_zero, List.set_cons_succ]
        refine wpList_run rfl (.bool true) (by simp [go_sem]) ?_
        simp only [Act.put, List.setIfInBounds_toArray, List.set_cons_zero, List.set_cons_succ]
        clear c0 g1
        go_wp2
        refine bodyPost_ret (results_tmp3 rfl _ _ _) rfl ?_
        exact ⟨rfl, hE2.out⟩
    · have hpr : RowAt w1.heap.size 3 (plV 0#64 0#64 (.slice none 0 0)) (w1.alloc (.cells #[.int .u64 0, .int .u64 0, .slice none 0 0] 47)) := RowAt.newOf w1 3 _ 47 _ fun j hj => by rcases (by omega : j = 0 ∨ j = 1 ∨ j = 2) with rfl | rfl | rfl <;> rfl
      have hX2 : Ext w1 ((w1.alloc (.cells #[.int .u64 0, .int .u64 0, .slice none 0 0] 47)).setCells w1.heap.size 0 (row 3 (plV 0#64 0#64 (.slice none 0 0)))) := below_setCells w1.heap.size (Nat.le_refl _) _ 0 _ ((Below.refl _ _).alloc (Nat.le_refl _) _)
      have hR2 : RowAt w1.heap.size 3 (plV 0#64 0#64 (.slice none 0 0)) ((w1.alloc (.cells #[.int .u64 0, .int .u64 0, .slice none 0 0] 47)).setCells w1.heap.size 0 (row 3 (plV 0#64 0#64 (.slice none 0 0)))) := hpr.cells
      rw [plA_row]
      refine wpList_run rfl (.tuple #[.agg (row 3 (plV 0#64 0#64 (.slice none 0 0))).toArray, .bool false]) (by simp [go_sem]) ?_
      simp only [Act.put, List.setIfInBounds_toArray, List.set_cons_zero, List.set_cons_succ]
      refine wpList_run rfl (.agg (row 3 (plV 0#64 0#64 (.slice none 0 0))).toArray) (by simp [go_sem]) ?_
      simp only [Act.put, List.setIfInBounds_toArray, List.set_cons_zero, List.set_cons_succ]
      refine wpList_run rfl (.bool false) (by simp [go_sem]) ?_
      simp only [Act.put, List.setIfInBounds_toArray, List.set_cons_zero, List.set_cons_succ]
      refine wpList_to rfl (.pointer (some ⟨w1.heap.size, 0, none⟩)) (w1.alloc (.cells #[.int .u64 0, .int .u64 0, .slice none 0 0] 47)) (alloc47 rfl) ?_
      simp only [Act.put, List.setIfInBounds_toArray, List.set_cons_zero, List.set_cons_succ]
      refine wpList_store_mid rfl 47 (.tmp 7) (.tmp 21) rfl w1.heap.size 0 (row 3 (plV 0#64 0#64 (.slice none 0 0))).toArray rfl rfl (by rw [row_size]; exact hpr.there) (by rw [row_size]; exact info47) (row_one (plV_one rfl)) ?_
      rw [show (row 3 (plV 0#64 0#64 (.slice none 0 0))).toArray.toList = (row 3 (plV 0#64 0#64 (.slice none 0 0))) from rfl]
      generalize (w1.alloc (.cells #[.int .u64 0, .int .u64 0, .slice none 0 0] 47)).setCells w1.heap.size 0 (row 3 (plV 0#64 0#64 (.slice none 0 0))) = w2 at *
      generalize w1.heap.size = p at *
      simp only [Act.put]
      refine wpList_run rfl (.bool false) (by simp [go_sem]) ?_
      simp only [Act.put, List.setIfInBounds_toArray, List.set_cons_zero, List.set_cons_succ]
      have hE2 := hideit (Ext.trans hE1 hX2)
      have c2 : w2.cell? ⟨p, 2, none⟩ = some (.slice none 0 0) := hR2.1 2 (by decide)
      clear hX2 hpr hE1 hR2 hnp hno
      have hw0 : IntKind.i64.wrap 2 = 2 := by decide
      go_upto_region 4 with (fail)
      refine wp_region_lit ?_
      refine wpList_run rfl (.pointer (some ⟨p, 2, none⟩)) (by simp [go_sem]) ?_
      simp only [Act.put, List.setIfInBounds_toArray, List.set_cons_zero, List.set_cons_succ]
      refine wpList_run rfl (.slice none 0 0) (by simp [go_sem, c2]) ?_
      simp only [Act.put, List.setIfInBounds_toArray, List.set_cons_zero, List.set_cons_succ]
      refine wpList_run rfl (.int .i64 0) (by simp [go_sem]) ?_
      simp only [Act.put, List.setIfInBounds_toArray, List.set_cons_zero, List.set_cons_succ]
      refine wpList_run rfl (.int .i64 2) (by simp [go_sem, hw0]) ?_
      simp only [Act.put, List.setIfInBounds_toArray, List.set_cons_zero, List.set_cons_succ]
      refine wpList_run rfl (.int .i64 2) (by simp [go_sem]) ?_
      simp only [Act.put, List.setIfInBounds_toArray, List.set_cons_zero, List.set_cons_succ]
      clear c2 hw0
      go_upto_region 5 with (fail)
      refine wp_region_lit ?_
      refine wpList_run rfl (.bool false) (by simp [go_sem]) ?_
      simp only [Act.put, List.setIfInBounds_toArray, List.set_cons_zero, List.set_cons_succ]
      refine wpList_run rfl (.bool true) (by simp [go_sem]) ?_
      simp only [Act.put, List.setIfInBounds_toArray, List.set_cons_zero, List.set_cons_succ]
      refine wpList_run rfl (.bool true) (by simp [go_sem]) ?_
      simp only [Act.put, List.setIfInBounds_toArray, List.set_cons_zero, List.set_cons_succ]
      refine wpList_skip rfl ?_
      simp only [Act.put, List.setIfInBounds_toArray, List.set_cons_zero, List.set_cons_succ]
      refine wpList_skip rfl ?_
      simp only [Act.put, List.setIfInBounds_toArray, List.set_cons_zero, List.set_cons_succ]
      refine wpList_skip rfl ?_
      simp only [Act.put, List.setIfInBounds_toArray, List.set_cons_zero, List.set_cons_succ]
      refine wpList_skip rfl ?_
      simp only [Act.put, List.setIfInBounds_toArray, List.set_cons_zero, List.set_cons_succ]
      refine wpList_run rfl (.bool true) (by simp [go_sem]) ?_
      simp only [Act.put, List.setIfInBounds_toArray, List.set_cons_zero, List.set_cons_succ]
      refine wpList_run rfl (.bool true) (by simp [go_sem]) ?_
      simp only [Act.put, List.setIfInBounds_toArray, List.set_cons_zero, List.set_cons_succ]
      refine wpList_skip rfl ?_
      simp only [Act.put, List.setIfInBounds_toArray, List.set_cons_zero, List.set_cons_succ]
      refine wpList_skip rfl ?_
      simp only [Act.put, List.setIfInBounds_toArray, List.set_cons_zero, List.set_cons_succ]
      refine wpList_skip rfl ?_
      simp only [Act.put, List.setIfInBounds_toArray, List.set_cons_zero, List.set_cons_succ]
      refine wpList_skip rfl ?_
      simp only [Act.put, List.setIfInBounds_toArray, List.set_cons_zero, List.set_cons_succ]
      refine wpList_run rfl (.bool true) (by simp [go_sem]) ?_
      simp only [Act.put, List.setIfInBounds_toArray, List.set_cons_zero, List.set_cons_succ]
      go_wp2
      refine bodyPost_ret (results_tmp3 rfl _ _ _) rfl ?_
      exact ⟨rfl, hE2.out⟩
  · obtain rfl : m = 0 := by omega
    clear hP h0 hls hno
    have hE2 := hideit (Ext.refl w)
    go_enter Tryd.func12, Tryd.ntmps12
    go_wp2
    refine bodyPost_ret (results_tmp3 rfl _ _ _) rfl ?_
    exact ⟨rfl, hE2.out⟩
set_option maxRecDepth 20000 in
set_option maxHeartbeats 4000000 in
theorem parse_someB (x : BitVec 64) (vb : Value) (m : Nat) (us : Nat → Value) (ls : Nat → Nat) (fs : Nat → Nat → BitVec 8) (w : World) (hT : TabC w) (hP : PL vb m us ls fs w) (h0 : 0 < m → BV (us 0) (ls 0) (fs 0) w) (hls : ∀ i, i < m → ls i ≤ 140737488355328) (hm : m ≤ 5900000000000) (hh : hasP x m ls fs) : Calls Tryd.prog 12 #[.int .u64 (x.toNat : Int), vb] w (PaQ x ls fs w) := by
  obtain ⟨o, cap, rfl⟩ := hP.form
  obtain ⟨hm0, hpl, hnx, hcm⟩ := hh
  have m0 : ¬ (m : Int) = 0 := by omega
  have mz : ¬ m = 0 := by omega
  have hn64 : 1 ≤ cP (fs 0) ∧ cP (fs 0) ≤ 64 := ⟨hpl.2.2.2.2.2.1, hpl.2.2.2.2.2.2.1⟩
  obtain ⟨a, rfl, eb⟩ := hP.at 0 hm0
  have ha0 : a.add 0 = a := by unfold Addr.add; simp
  rw [ha0] at eb
  clear ha0
  obtain ⟨hmc, hpre⟩ := hP.pre hcm
  have kp := hideit (planIn_any (us 0) (ls 0) (fs 0) w (h0 hm0) (hls 0 hm0))
  replace hP := hideit hP
  replace hpre := hideit hpre
  replace hT := hideit hT
  clear h0
  go_enter Tryd.func12, Tryd.ntmps12
  go_upto_region 3 with (fail)
  refine wp_region_lit ?_
  refine wpList_run rfl (.slice (some a) m cap) (by simp [go_sem]) ?_
  simp only [Act.put, List.setIfInBounds_toArray, List.set_cons_zero, List.set_cons_succ]
  refine wpList_run rfl (.pointer (some a)) (by simp [go_sem, mz]) ?_
  simp only [Act.put, List.setIfInBounds_toArray, List.set_cons_zero, List.set_cons_succ]
  refine wpList_run rfl (us 0) (by simp [go_sem, eb]) ?_
  simp only [Act.put, List.setIfInBounds_toArray, List.set_cons_zero, List.set_cons_succ]
  refine wpList_call rfl (by simp [go_sem]) ((kp.out).mono ?_)
  rintro e w1 ⟨pa, ok, rfl, hE1, hq⟩
  refine ⟨_, rfl, ?_⟩
  simp only [Act.put, List.setIfInBounds_toArray, List.set_cons_zero, List.set_cons_succ]
  clear kp eb
  rcases hq with ⟨rfl, hyes, v, rfl, hO⟩ | ⟨rfl, hnp, rfl⟩
  · obtain ⟨vo, vc, rfl⟩ := own_form3 hO
    have hpr : RowAt w1.heap.size 3 (plV 0#64 0#64 (.slice none 0 0)) (w1.alloc (.cells #[.int .u64 0, .int .u64 0, .slice none 0 0] 47)) := RowAt.newOf w1 3 _ 47 _ fun j hj => by rcases (by omega : j = 0 ∨ j = 1 ∨ j = 2) with rfl | rfl | rfl <;> rfl
    have hX2 : Ext w1 ((w1.alloc (.cells #[.int .u64 0, .int .u64 0, .slice none 0 0] 47)).setCells w1.heap.size 0 (row 3 (plV (nP (fs 0)) (tP (fs 0)) (.slice vo (cP (fs 0)) vc)))) := below_setCells w1.heap.size (Nat.le_refl _) _ 0 _ ((Below.refl _ _).alloc (Nat.le_refl _) _)
    have hR2 : RowAt w1.heap.size 3 (plV (nP (fs 0)) (tP (fs 0)) (.slice vo (cP (fs 0)) vc)) ((w1.alloc (.cells #[.int .u64 0, .int .u64 0, .slice none 0 0] 47)).setCells w1.heap.size 0 (row 3 (plV (nP (fs 0)) (tP (fs 0)) (.slice vo (cP (fs 0)) vc)))) := hpr.cells
    rw [plA_row]
    refine wpList_run rfl (.tuple #[.agg (row 3 (plV (nP (fs 0)) (tP (fs 0)) (.slice vo (cP (fs 0)) vc))).toArray, .bool true]) (by simp [go_sem]) ?_
    simp only [Act.put, List.setIfInBounds_toArray, List.set_cons_zero, List.set_cons_succ]
    refine wpList_run rfl (.agg (row 3 (plV (nP (fs 0)) (tP (fs 0)) (.slice vo (cP (fs 0)) vc))).toArray) (by simp [go_sem]) ?_
    simp only [Act.put, List.setIfInBounds_toArray, List.set_cons_zero, List.set_cons_succ]
    refine wpList_run rfl (.bool true) (by simp [go_sem]) ?_
    simp only [Act.put, List.setIfInBounds_toArray, List.set_cons_zero, List.set_cons_succ]
    refine wpList_to rfl (.pointer (some ⟨w1.heap.size, 0, none⟩)) (w1.alloc (.cells #[.int .u64 0, .int .u64 0, .slice none 0 0] 47)) (alloc47 rfl) ?_
    simp only [Act.put, List.setIfInBounds_toArray, List.set_cons_zero, List.set_cons_succ]
    refine wpList_store_mid rfl 47 (.tmp 7) (.tmp 21) rfl w1.heap.size 0 (row 3 (plV (nP (fs 0)) (tP (fs 0)) (.slice vo (cP (fs 0)) vc))).toArray rfl rfl (by rw [row_size]; exact hpr.there) (by rw [row_size]; exact info47) (row_one (plV_one rfl)) ?_
    rw [show (row 3 (plV (nP (fs 0)) (tP (fs 0)) (.slice vo (cP (fs 0)) vc))).toArray.toList = (row 3 (plV (nP (fs 0)) (tP (fs 0)) (.slice vo (cP (fs 0)) vc))) from rfl]
    generalize (w1.alloc (.cells #[.int .u64 0, .int .u64 0, .slice none 0 0] 47)).setCells w1.heap.size 0 (row 3 (plV (nP (fs 0)) (tP (fs 0)) (.slice vo (cP (fs 0)) vc))) = w2 at *
    generalize w1.heap.size = p at *
    simp only [Act.put]
    refine wpList_run rfl (.bool true) (by simp [go_sem]) ?_
    simp only [Act.put, List.setIfInBounds_toArray, List.set_cons_zero, List.set_cons_succ]
    have hE2 := hideit (Ext.trans hE1 hX2)
    have c0 : w2.cell? ⟨p, 0, none⟩ = some (.int .u64 ((nP (fs 0)).toNat : Int)) := hR2.1 0 (by decide)
    have c2 : w2.cell? ⟨p, 2, none⟩ = some (.slice vo (cP (fs 0)) vc) := hR2.1 2 (by decide)
    rw [hnx] at c0
    have hw2 : IntKind.i64.wrap ((cP (fs 0) : Int) + 2) = ((cP (fs 0) + 2 : Nat) : Int) := by rw [IntKind.wrap_i64]; omega
    have hO2 := hideit (hO.ext hX2)
    replace hR2 := hideit hR2
    clear hO hX2 hpr hE1 hyes hpl
    go_upto_region 4 with (fail)
    refine wp_region_lit ?_
    refine wpList_run rfl (.pointer (some ⟨p, 2, none⟩)) (by simp [go_sem]) ?_
    simp only [Act.put, List.setIfInBounds_toArray, List.set_cons_zero, List.set_cons_succ]
    refine wpList_run rfl (.slice vo (cP (fs 0)) vc) (by simp [go_sem, c2]) ?_
    simp only [Act.put, List.setIfInBounds_toArray, List.set_cons_zero, List.set_cons_succ]
    refine wpList_run rfl (.int .i64 (cP (fs 0) : Int)) (by simp [go_sem]) ?_
    simp only [Act.put, List.setIfInBounds_toArray, List.set_cons_zero, List.set_cons_succ]
    refine wpList_run rfl (.int .i64 ((cP (fs 0) + 2 : Nat) : Int)) (by simp [go_sem, hw2]) ?_
    simp only [Act.put, List.setIfInBounds_toArray, List.set_cons_zero, List.set_cons_succ]
    refine wpList_run rfl (.int .i64 ((cP (fs 0) + 2 : Nat) : Int)) (by simp [go_sem]) ?_
    simp only [Act.put, List.setIfInBounds_toArray, List.set_cons_zero, List.set_cons_succ]
    clear c2 hw2
    obtain ⟨n2, hn2⟩ : ∃ n2, n2 = cP (fs 0) + 2 := ⟨_, rfl⟩
    rw [← hn2] at hcm hpre ⊢
    have g1 : ¬ (m : Int) < (n2 : Int) := by omega
    go_upto_region 5 with (fail)
    refine wp_region_lit ?_
    refine wpList_run rfl (.bool true) (by simp [go_sem]) ?_
    simp only [Act.put, List.setIfInBounds_toArray, List.set_cons_zero, List.set_cons_succ]
    refine wpList_run rfl (.bool false) (by simp [go_sem]) ?_
    simp only [Act.put, List.setIfInBounds_toArray, List.set_cons_zero, List.set_cons_succ]
    refine wpList_run rfl (.bool false) (by simp [go_sem]) ?_
    simp only [Act.put, List.setIfInBounds_toArray, List.set_cons_zero, List.set_cons_succ]
    refine wpList_runW rfl (.pointer (some ⟨p, 0, none⟩)) (by simp [go_sem]) ?_
    simp only [Act.put, List.setIfInBounds_toArray, List.set_cons_zero, List.set_cons_succ]
    refine wpList_runW rfl (.int .u64 (x.toNat : Int)) (by simp [go_sem, c0]) ?_
    simp only [Act.put, List.setIfInBounds_toArray, List.set_cons_zero, List.set_cons_succ]
    refine wpList_runW rfl (.int .u64 (x.toNat : Int)) (by simp [go_sem]) ?_
    simp only [Act.put, List.setIfInBounds_toArray, List.set_cons_zero, List.set_cons_succ]
    refine wpList_runW rfl (.bool false) (by simp [go_sem]) ?_
    simp only [Act.put, List.setIfInBounds_toArray, List.set_cons_zero, List.set_cons_succ]
    refine wpList_run rfl (.bool false) (by simp [go_sem]) ?_
    simp only [Act.put, List.setIfInBounds_toArray, List.set_cons_zero, List.set_cons_succ]
    refine wpList_run rfl (.bool false) (by simp [go_sem]) ?_
    simp only [Act.put, List.setIfInBounds_toArray, List.set_cons_zero, List.set_cons_succ]
    refine wpList_runW rfl (.int .i64 (n2 : Int)) (by simp [go_sem]) ?_
    simp only [Act.put, List.setIfInBounds_toArray, List.set_cons_zero, List.set_cons_succ]
    refine wpList_runW rfl (.slice (some a) m cap) (by simp [go_sem]) ?_
    simp only [Act.put, List.setIfInBounds_toArray, List.set_cons_zero, List.set_cons_succ]
    refine wpList_runW rfl (.int .i64 (m : Int)) (by simp [go_sem]) ?_
    simp only [Act.put, List.setIfInBounds_toArray, List.set_cons_zero, List.set_cons_succ]
    refine wpList_runW rfl (.bool false) (by simp [go_sem, g1]) ?_
    simp only [Act.put, List.setIfInBounds_toArray, List.set_cons_zero, List.set_cons_succ]
    refine wpList_run rfl (.bool false) (by simp [go_sem]) ?_
    simp only [Act.put, List.setIfInBounds_toArray, List.set_cons_zero, List.set_cons_succ]
    clear c0 g1
    have sub1 : IntKind.i64.wrap ((n2 : Int) - 1) = ((cP (fs 0) + 1 : Nat) : Int) := by rw [IntKind.wrap_i64]; omega
    have hIL := (hO2.out.ext (Ext.refl w2).draw).il (fun j _ => bP_ok (fs 0) j)
    have hPD := hideit (hP.out.ext hE2.out)
    have kr := hideit (redos_any (nP (fs 0)) (tP (fs 0)) (.slice vo (cP (fs 0)) vc) (.slice (some (a.add 1)) (cP (fs 0)) (cap - 1)) (cP (fs 0)) (bP (fs 0)) _ _ _ w2.drew hIL ((PL.sub1 hPD.out (by omega) (by omega)).ext (Ext.refl w2).draw) (fun i hi => hls (i + 1) (by omega)) hn64.2)
    rw [plA_row] at kr
    have s1 : (0 : Int) ≤ (cP (fs 0) : Int) + 1 ∧ (cP (fs 0) : Int) + 1 ≤ (cap : Int) := by omega
    have s2 : (1 : Int) ≤ (cP (fs 0) : Int) + 1 := by omega
    have s3 : ¬ cap = 1 := by omega
    clear hIL
    go_upto_region 7 with (fail)
    refine wp_region_lad (fun X => Ext w2.drew X) [(false, 0), (false, 1), (false, 2), (false, 3), (false, 4), (true, 5), (false, 6)] (by kernel_rfl) (by kernel_rfl) (by decide +kernel) (by decide +kernel) (by decide +kernel) (by decide +kernel) (Ext.refl _) ?_
    refine wpX_f _ (.agg (row 3 (plV (nP (fs 0)) (tP (fs 0)) (.slice vo (cP (fs 0)) vc))).toArray) rfl rfl (fun X hX => exec_loadR 47 (.tmp 7) rfl p 0 3 _ rfl (hR2.out.drew.carry hX).range Tryd.underlying47 rfl info47) ?_
    simp only [List.getElem_toArray, List.getElem_cons_zero, Act.put, List.setIfInBounds_toArray, List.set_cons_zero, List.set_cons_succ]
    refine wpX_f _ (.slice (some a) m cap) rfl rfl (fun X _ => by simp [go_sem]) ?_
    simp only [List.getElem_toArray, List.getElem_cons_zero, List.getElem_cons_succ, Act.put, List.setIfInBounds_toArray, List.set_cons_zero, List.set_cons_succ]
    refine wpX_f _ (.int .i64 (n2 : Int)) rfl rfl (fun X _ => by simp [go_sem]) ?_
    simp only [List.getElem_toArray, List.getElem_cons_zero, List.getElem_cons_succ, Act.put, List.setIfInBounds_toArray, List.set_cons_zero, List.set_cons_succ]
    refine wpX_f _ (.int .i64 ((cP (fs 0) + 1 : Nat) : Int)) rfl rfl (fun X _ => by simp [go_sem, sub1]) ?_
    simp only [List.getElem_toArray, List.getElem_cons_zero, List.getElem_cons_succ, Act.put, List.setIfInBounds_toArray, List.set_cons_zero, List.set_cons_succ]
    refine wpX_f _ (.slice (some (a.add 1)) (cP (fs 0)) (cap - 1)) rfl rfl (fun X _ => by simp [go_sem, s1, s2, s3, Addr.add]) ?_
    simp only [List.getElem_toArray, List.getElem_cons_zero, List.getElem_cons_succ, Act.put, List.setIfInBounds_toArray, List.set_cons_zero, List.set_cons_succ]
    refine wpX_call _ rfl rfl (by simp [go_sem]) ((kr.out).mono ?_)
    rintro e w7 ⟨v7, us7, rfl, hD7, hX7⟩
    refine ⟨_, rfl, fun X => Ext w7 X, fun X hX => Ext.trans hX7 hX, Ext.refl _, ?_⟩
    obtain ⟨v7o, v7c, rfl⟩ := hD7.form
    simp only [List.getElem_toArray, List.getElem_cons_zero, List.getElem_cons_succ, Act.put, List.setIfInBounds_toArray, List.set_cons_zero, List.set_cons_succ]
    refine wpX_f _ (.slice v7o (cP (fs 0)) v7c) rfl rfl (fun X _ => by simp [go_sem]) ?_
    simp only [List.getElem_toArray, List.getElem_cons_zero, List.getElem_cons_succ, Act.put, List.setIfInBounds_toArray, List.set_cons_zero, List.set_cons_succ]
    refine wpX_nil ?_
    have hE7 := hideit (Ext.trans hE2.out (Ext.trans (Ext.refl w2).draw hX7))
    have hRL := hideit (hD7.rls (by omega) (fun i hi => hls (i + 1) (by omega)))
    replace hD7 : Hid (RDs w.heap.size (.slice v7o (cP (fs 0)) v7c) (cP (fs 0)) (bP (fs 0)) us7 (fun i => ls (i + 1)) (unL ls fs) w7) := ⟨hD7.own.down2 (Below.size hE2.out.draw), fun i hi => ⟨(hD7.byt i hi).1.down (Below.size hE2.out.draw), (hD7.byt i hi).2⟩⟩
    clear kr sub1 s1 s2 s3 hO2 hR2 hPD hX7 hE2
    by_cases hok : okT x (cP (fs 0)) (bP (fs 0)) (fun i => ls (i + 1)) (unL ls fs)
    · have kb := hideit (blocks_ok x (.slice v7o (cP (fs 0)) v7c) (cP (fs 0)) (bP (fs 0)) us7 (fun i => ls (i + 1)) (unL ls fs) w7 hRL.out (fun i _ => bP_ok (fs 0) i) (by omega) (hT.out.ext hE7.out) hok)
      replace hok := hideit hok
      go_upto_region 8 with (fail)
      refine wp_region_lit ?_
      refine wpList_run rfl (.int .u64 (x.toNat : Int)) (by simp [go_sem]) ?_
      simp only [Act.put, List.setIfInBounds_toArray, List.set_cons_zero, List.set_cons_succ]
      refine wpList_run rfl (.slice v7o (cP (fs 0)) v7c) (by simp [go_sem]) ?_
      simp only [Act.put, List.setIfInBounds_toArray, List.set_cons_zero, List.set_cons_succ]
      refine wpList_call rfl (by simp [go_sem]) ((kb.out).mono ?_)
      rintro e w8 ⟨v8, us8, rfl, hB8, hX8⟩
      refine ⟨_, rfl, ?_⟩
      simp only [Act.put, List.setIfInBounds_toArray, List.set_cons_zero, List.set_cons_succ]
      obtain ⟨v8o, v8c, rfl⟩ := hB8.form
      have hE8 := hideit (Ext.trans hE7.out hX8)
      replace hD7 := hideit (hD7.out.ext hX8)
      have ke := hideit (eqf_any (.slice v8o (cP (fs 0) + 2) v8c) (.slice (some a) n2 cap) (cP (fs 0) + 2) n2 us8 us (fun _ => 512) ls _ fs w8 hB8.pl (hpre.out.ext hE8.out) (by omega) (by omega))
      clear kb hRL hB8 hX8 hE7 hT hP hpre
      refine wpList_run rfl (.tuple #[.slice v8o (cP (fs 0) + 2) v8c, .int .i64 0]) (by simp [go_sem]) ?_
      simp only [Act.put, List.setIfInBounds_toArray, List.set_cons_zero, List.set_cons_succ]
      refine wpList_run rfl (.slice v8o (cP (fs 0) + 2) v8c) (by simp [go_sem]) ?_
      simp only [Act.put, List.setIfInBounds_toArray, List.set_cons_zero, List.set_cons_succ]
      refine wpList_run rfl (.int .i64 0) (by simp [go_sem]) ?_
      simp only [Act.put, List.setIfInBounds_toArray, List.set_cons_zero, List.set_cons_succ]
      refine wpList_run rfl (.slice v8o (cP (fs 0) + 2) v8c) (by simp [go_sem]) ?_
      simp only [Act.put, List.setIfInBounds_toArray, List.set_cons_zero, List.set_cons_succ]
      refine wpList_run rfl (.int .i64 0) (by simp [go_sem]) ?_
      simp only [Act.put, List.setIfInBounds_toArray, List.set_cons_zero, List.set_cons_succ]
      have s2 : (n2 : Int) ≤ (cap : Int) := by omega
      have s3 : n2 ≤ cap := by omega
      go_upto_region 9 with (fail)
      refine wp_region_lit ?_
      refine wpList_run rfl (.int .i64 0) (by simp [go_sem]) ?_
      simp only [Act.put, List.setIfInBounds_toArray, List.set_cons_zero, List.set_cons_succ]
      refine wpList_run rfl (.bool false) (by simp [go_sem]) ?_
      simp only [Act.put, List.setIfInBounds_toArray, List.set_cons_zero, List.set_cons_succ]
      refine wpList_run rfl (.bool false) (by simp [go_sem]) ?_
      simp only [Act.put, List.setIfInBounds_toArray, List.set_cons_zero, List.set_cons_succ]
      refine wpList_runW rfl (.slice v8o (cP (fs 0) + 2) v8c) (by simp [go_sem]) ?_
      simp only [Act.put, List.setIfInBounds_toArray, List.set_cons_zero, List.set_cons_succ]
      refine wpList_runW rfl (.slice (some a) m cap) (by simp [go_sem]) ?_
      simp only [Act.put, List.setIfInBounds_toArray, List.set_cons_zero, List.set_cons_succ]
      refine wpList_runW rfl (.int .i64 (n2 : Int)) (by simp [go_sem]) ?_
      simp only [Act.put, List.setIfInBounds_toArray, List.set_cons_zero, List.set_cons_succ]
      refine wpList_runW rfl (.slice (some a) n2 cap) (by simp [go_sem, s2]) ?_
      simp only [Act.put, List.setIfInBounds_toArray, List.set_cons_zero, List.set_cons_succ]
      refine wpList_callW rfl (by simp [go_sem]) ((ke.out).mono ?_)
      rintro e w9 ⟨r, rfl, hr, hX9⟩
      refine ⟨_, rfl, ?_⟩
      simp only [Act.put, List.setIfInBounds_toArray, List.set_cons_zero, List.set_cons_succ]
      have hE9 := hideit (Ext.trans hE8.out hX9)
      replace hD7 := hideit (hD7.out.ext hX9)
      clear ke hX9 hE8 s2 s3
      cases r with
      | true =>
        have htx : Hid (isTx x ls fs) := ⟨hok.out, by rw [← hn2]; rw [← hn2] at hr; exact hr.1 rfl⟩
        clear hr hok
        refine wpList_runW rfl (.bool false) (by simp [go_sem]) ?_
        simp only [Act.put, List.setIfInBounds_toArray, List.set_cons_zero, List.set_cons_succ]
        refine wpList_run rfl (.bool false) (by simp [go_sem]) ?_
        simp only [Act.put, List.setIfInBounds_toArray, List.set_cons_zero, List.set_cons_succ]
        go_wp2
        refine bodyPost_ret (results_tmp3 rfl _ _ _) rfl ?_
        exact paq_yes hE9.out htx.out _ us7 (by rw [← hn2]; rfl) hD7.out
      | false =>
        have htx : Hid (¬ isTx x ls fs) := fun h => by
          have q := h.2
          rw [← hn2] at q hr
          have := hr.2 q
          cases this
        clear hr hok
        refine wpList_runW rfl (.bool true) (by simp [go_sem]) ?_
        simp only [Act.put, List.setIfInBounds_toArray, List.set_cons_zero, List.set_cons_succ]
        refine wpList_run rfl (.bool true) (by simp [go_sem]) ?_
        simp only [Act.put, List.setIfInBounds_toArray, List.set_cons_zero, List.set_cons_succ]
        go_wp2
        refine bodyPost_ret (results_tmp3 rfl _ _ _) rfl ?_
        exact paq_no hE9.out htx.out rfl
    · have kb := hideit (blocks_no x (.slice v7o (cP (fs 0)) v7c) (cP (fs 0)) (bP (fs 0)) us7 (fun i => ls (i + 1)) (unL ls fs) w7 hRL.out (fun i _ => bP_ok (fs 0) i) (by omega) hok)
      have htx : Hid (¬ isTx x ls fs) := fun h => hok h.1
      clear hok hT hP hpre
      go_upto_region 8 with (fail)
      refine wp_region_lit ?_
      refine wpList_run rfl (.int .u64 (x.toNat : Int)) (by simp [go_sem]) ?_
      simp only [Act.put, List.setIfInBounds_toArray, List.set_cons_zero, List.set_cons_succ]
      refine wpList_run rfl (.slice v7o (cP (fs 0)) v7c) (by simp [go_sem]) ?_
      simp only [Act.put, List.setIfInBounds_toArray, List.set_cons_zero, List.set_cons_succ]
      refine wpList_call rfl (by simp [go_sem]) ((kb.out).mono ?_)
      rintro e w8 ⟨rfl, hX8⟩
      refine ⟨_, rfl, ?_⟩
      simp only [Act.put, List.setIfInBounds_toArray, List.set_cons_zero, List.set_cons_succ]
      have hE8 := hideit (Ext.trans hE7.out hX8)
      clear kb hRL hX8 hE7 hD7
      refine wpList_run rfl (.tuple #[.slice none 0 0, .int .i64 1]) (by simp [go_sem]) ?_
      simp only [Act.put, List.setIfInBounds_toArray, List.set_cons_zero, List.set_cons_succ]
      refine wpList_run rfl (.slice none 0 0) (by simp [go_sem]) ?_
      simp only [Act.put, List.setIfInBounds_toArray, List.set_cons_zero, List.set_cons_succ]
      refine wpList_run rfl (.int .i64 1) (by simp [go_sem]) ?_
      simp only [Act.put, List.setIfInBounds_toArray, List.set_cons_zero, List.set_cons_succ]
      refine wpList_run rfl (.slice none 0 0) (by simp [go_sem]) ?_
      simp only [Act.put, List.setIfInBounds_toArray, List.set_cons_zero, List.set_cons_succ]
      refine wpList_run rfl (.int .i64 1) (by simp [go_sem]) ?_
      simp only [Act.put, List.setIfInBounds_toArray, List.set_cons_zero, List.set_cons_succ]
      go_upto_region 9 with (fail)
      refine wp_region_lit ?_
      refine wpList_run rfl (.int .i64 1) (by simp [go_sem]) ?_
      simp only [Act.put, List.setIfInBounds_toArray, List.set_cons_zero, List.set_cons_succ]
      refine wpList_run rfl (.bool true) (by simp [go_sem]) ?_
      simp only [Act.put, List.setIfInBounds_toArray, List.set_cons_zero, List.set_cons_succ]
      refine wpList_run rfl (.bool true) (by simp [go_sem]) ?_
      simp only [Act.put, List.setIfInBounds_toArray, List.set_cons_zero, List.set_cons_succ]
      refine wpList_skip rfl ?_
      simp only [Act.put, List.setIfInBounds_toArray, List.set_cons_zero, List.set_cons_succ]
      refine wpList_skip rfl ?_
      simp only [Act.put, List.setIfInBounds_toArray, List.set_cons_zero, List.set_cons_succ]
      refine wpList_skip rfl ?_
      simp only [Act.put, List.setIfInBounds_toArray, List.set_cons_zero, List.set_cons_succ]
      refine wpList_skip rfl ?_
      simp only [Act.put, List.setIfInBounds_toArray, List.set_cons_zero, List.set_cons_succ]
      refine wpList_skip rfl ?_
      simp only [Act.put, List.setIfInBounds_toArray, List.set_cons_zero, List.set_cons_succ]
      refine wpList_skip rfl ?_
      simp only [Act.put, List.setIfInBounds_toArray, List.set_cons_zero, List.set_cons_succ]
      refine wpList_run rfl (.bool true) (by simp [go_sem]) ?_
      simp only [Act.put, List.setIfInBounds_toArray, List.set_cons_zero, List.set_cons_succ]
      go_wp2
      refine bodyPost_ret (results_tmp3 rfl _ _ _) rfl ?_
      exact paq_no hE8.out htx.out rfl
  · exact absurd hpl hnp
theorem parse_yesB (x : BitVec 64) (vb : Value) (m : Nat) (us : Nat → Value) (ls : Nat → Nat) (fs : Nat → Nat → BitVec 8) (w : World) (hT : TabC w) (hP : PL vb m us ls fs w) (h0 : 0 < m → BV (us 0) (ls 0) (fs 0) w) (hls : ∀ i, i < m → ls i ≤ 140737488355328) (hm : m ≤ 5900000000000) (hh : hasP x m ls fs) (ht : isTx x ls fs) : Calls Tryd.prog 12 #[.int .u64 (x.toNat : Int), vb] w fun e w' => ∃ v us', e = .returned (.tuple #[v, .int .i64 ((cP (fs 0) + 2 : Nat) : Int), .int .i64 0]) ∧ RDs w.heap.size v (cP (fs 0)) (bP (fs 0)) us' (fun i => ls (i + 1)) (unL ls fs) w' ∧ Ext w w' := by
  refine (parse_someB x vb m us ls fs w hT hP h0 hls hm hh).mono fun e w' ⟨hX, h⟩ => ?_
  rcases h with ⟨_, v, us', he, hD⟩ | ⟨h, _⟩
  · exact ⟨v, us', he, hD, hX⟩
  · exact absurd ht h
theorem parse_notB (x : BitVec 64) (vb : Value) (m : Nat) (us : Nat → Value) (ls : Nat → Nat) (fs : Nat → Nat → BitVec 8) (w : World) (hT : TabC w) (hP : PL vb m us ls fs w) (h0 : 0 < m → BV (us 0) (ls 0) (fs 0) w) (hls : ∀ i, i < m → ls i ≤ 140737488355328) (hm : m ≤ 5900000000000) (hh : ¬ (hasP x m ls fs ∧ isTx x ls fs)) : Calls Tryd.prog 12 #[.int .u64 (x.toNat : Int), vb] w fun e w' => e = .returned (.tuple #[.slice none 0 0, .int .i64 0, .int .i64 110]) ∧ Ext w w' := by
  by_cases h1 : hasP x m ls fs
  · refine (parse_someB x vb m us ls fs w hT hP h0 hls hm h1).mono fun e w' ⟨hX, h⟩ => ?_
    rcases h with ⟨h, _⟩ | ⟨_, he⟩
    · exact absurd ⟨h1, h⟩ hh
    · exact ⟨he, hX⟩
  · exact parse_noneB x vb m us ls fs w hP h0 hls hm h1
end Go.Proofs.YtedgopionpdfeaaDoor
namespace Go.Proofs.YtedgopionpdfeaaDoor
open Go.RowKit Go.BigFrame
set_option linter.unusedVariables false
theorem parse_yes (x : BitVec 64) (vb : Value) (m : Nat) (us : Nat → Value) (ls : Nat → Nat) (fs : Nat → Nat → BitVec 8) (w : World) (hT : TabC w) (hP : PL vb m us ls fs w) (h0 : 0 < m → BV (us 0) (ls 0) (fs 0) w) (hls : ∀ i, i < m → ls i ≤ 140737488355328) (hm : m ≤ 4398046511104) (hh : hasP x m ls fs) (ht : isTx x ls fs) : Calls Tryd.prog 12 #[.int .u64 (x.toNat : Int), vb] w fun e w' => ∃ v us', e = .returned (.tuple #[v, .int .i64 ((cP (fs 0) + 2 : Nat) : Int), .int .i64 0]) ∧ RDs w.heap.size v (cP (fs 0)) (bP (fs 0)) us' (fun i => ls (i + 1)) (unL ls fs) w' ∧ Ext w w' := by
  refine (parse_some x vb m us ls fs w hT hP h0 hls hm hh).mono fun e w' ⟨hX, h⟩ => ?_
  rcases h with ⟨_, v, us', he, hD⟩ | ⟨h, _⟩
  · exact ⟨v, us', he, hD, hX⟩
  · exact absurd ht h
theorem parse_not (x : BitVec 64) (vb : Value) (m : Nat) (us : Nat → Value) (ls : Nat → Nat) (fs : Nat → Nat → BitVec 8) (w : World) (hT : TabC w) (hP : PL vb m us ls fs w) (h0 : 0 < m → BV (us 0) (ls 0) (fs 0) w) (hls : ∀ i, i < m → ls i ≤ 140737488355328) (hm : m ≤ 4398046511104) (hh : ¬ (hasP x m ls fs ∧ isTx x ls fs)) : Calls Tryd.prog 12 #[.int .u64 (x.toNat : Int), vb] w fun e w' => e = .returned (.tuple #[.slice none 0 0, .int .i64 0, .int .i64 110]) ∧ Ext w w' := by
  by_cases h1 : hasP x m ls fs
  · refine (parse_some x vb m us ls fs w hT hP h0 hls hm h1).mono fun e w' ⟨hX, h⟩ => ?_
    rcases h with ⟨h, _⟩ | ⟨_, he⟩
    · exact absurd ⟨h1, h⟩ hh
    · exact ⟨he, hX⟩
  · exact parse_none x vb m us ls fs w hP h0 hls hm h1
/-- Parse tells OK or ErrFormat -/
theorem parse_code (x : BitVec 64) (vb : Value) (m : Nat) (us : Nat → Value) (ls : Nat → Nat) (fs : Nat → Nat → BitVec 8) (w : World) (hT : TabC w) (hP : PL vb m us ls fs w) (h0 : 0 < m → BV (us 0) (ls 0) (fs 0) w) (hls : ∀ i, i < m → ls i ≤ 140737488355328) (hm : m ≤ 4398046511104) : Calls Tryd.prog 12 #[.int .u64 (x.toNat : Int), vb] w fun e w' => ∃ v c r, e = .returned (.tuple #[v, c, .int .i64 r]) ∧ (((hasP x m ls fs ∧ isTx x ls fs) ∧ r = 0) ∨ (¬ (hasP x m ls fs ∧ isTx x ls fs) ∧ r = 110)) ∧ Ext w w' := by
  by_cases h : hasP x m ls fs ∧ isTx x ls fs
  · exact (parse_yes x vb m us ls fs w hT hP h0 hls hm h.1 h.2).mono fun e w' ⟨v, us', he, _, hX⟩ => ⟨_, _, _, he, .inl ⟨h, rfl⟩, hX⟩
  · exact (parse_not x vb m us ls fs w hT hP h0 hls hm h).mono fun e w' ⟨he, hX⟩ => ⟨_, _, _, he, .inr ⟨h, rfl⟩, hX⟩
/-- another seal: no transaction -/
theorem tx_no {x : BitVec 64} {n m : Nat} {bs : Nat → Int} {ls ls' : Nat → Nat} {fs fs' : Nat → Nat → BitVec 8} (hok : okT x n bs ls fs) (hl : ∀ i, i < n + 2 → ls' i = 512) (hf : ∀ i, i < n + 1 → fs' i = trF x (tmK ls fs n) n bs fs i) (j : Nat) (hj : j < 512) (hd : fs' (n + 1) j ≠ trF x (tmK ls fs n) n bs fs (n + 1) j) : ¬ (hasP x m ls' fs' ∧ isTx x ls' fs') := by
  rintro ⟨_, _, _, hs⟩
  have hmay := hok.1
  have hn := hmay.2.2.1
  have hlen : ∀ i, i < n → ls i = 512 := fun i hi => Classical.byContradiction fun h => hok.2 ⟨i, hi, h⟩
  have h0 : fs' 0 = planF x (tmK ls fs n) n bs := by
    rw [hf 0 (by omega)]
    unfold trF bkF
    rw [if_neg (by omega), if_pos rfl]
  have hc : cP (fs' 0) = n := by rw [h0, cP_plan _ _ _ _ hn]
  have hb : ∀ i, i < n → bP (fs' 0) i = bs i := fun i hi => by rw [h0, bP_plan _ _ _ _ i hi (hmay.2.2.2.2 i hi).1]
  have hu : ∀ i, i < n → unL ls' fs' i = fs i := fun i hi => by
    unfold unL
    have e1 : fs' (i + 1) = stF 512 (fs i) := by
      rw [hf (i + 1) (by omega)]
      unfold trF bkF
      rw [if_neg (by omega), if_neg (by omega), Nat.add_sub_cancel]
    rw [h0, tP_plan, hl (i + 1) (by omega), e1]
    exact unF_stF _ _ _ (by rw [tnB_tmK ls fs n hn i hi, hlen i hi])
  have htm : tmK (fun i => ls' (i + 1)) (unL ls' fs') n = tmK ls fs n := tmK_congr n fun i hi => by
    rw [hu i hi, hlen i hi]
    show like (ls' (i + 1)) _ = _
    rw [hl (i + 1) (by omega)]
  rw [hc, htm] at hs
  have := (of_decide_eq_true (hs (n + 1) (by omega))).2 j hj
  rw [trF_congr (fun i hi => hb i hi) (fun i hi => hu i hi) (n + 1) (by omega)] at this
  exact hd this.symm
theorem has_num {x y : BitVec 64} {n m : Nat} {bs : Nat → Int} {ls ls' : Nat → Nat} {fs fs' : Nat → Nat → BitVec 8} (h0 : fs' 0 = trF x (tmK ls fs n) n bs fs 0) (hh : hasP y m ls' fs') : y = x := by
  have e : fs' 0 = planF x (tmK ls fs n) n bs := by
    rw [h0]
    unfold trF bkF
    rw [if_neg (by omega), if_pos rfl]
  have := hh.2.2.1
  rw [e, nP_plan] at this
  exact this.symm
theorem x8_fact (a c : BitVec 8) : bits .xor .u8 (a.toNat : Int) (c.toNat : Int) = ((a ^^^ c).toNat : Int) := by
  rw [u8_xor_nat _ _ a.isLt c.isLt, BitVec.toNat_xor]
theorem lies_pl {B : Nat} {a : Addr} {m c : Nat} {us : Nat → Value} {fs : Nat → Nat → BitVec 8} {X : World} (h : BLs B (.slice (some a) m c) m us fs X) : LieAt a m us X := by
  rcases h.parts.1 with ⟨h1, _⟩ | ⟨a', c', h1, _, h3⟩
  · cases h1
  · injection h1 with h1
    injection h1 with h1
    subst h1
    exact h3
/-- a block's bytes, wherever they lie -/
def RowB (z : Nat) (f : Nat → BitVec 8) (X : World) : Prop := LieAt ⟨z, 0, none⟩ 512 (yv f) X
theorem RowB.other {z : Nat} {f : Nat → BitVec 8} {X : World} (h : RowB z f X) (p : Addr) (v : Value) (hp : p.block ≠ z) : RowB z f (X.setCell p v) := by
  refine ⟨fun j hj => ?_, by rw [World.size_setCell]; exact h.2⟩
  rw [World.cell?_setCell_other _ _ _ _ (fun e => hp (by rw [e, add_block]))]
  exact h.1 j hj
theorem RowB.bv {z cp : Nat} {f : Nat → BitVec 8} {X : World} (h : RowB z f X) (hc : 512 ≤ cp) : BV (.slice (some ⟨z, 0, none⟩) 512 cp) 512 f X := .inr ⟨_, cp, rfl, hc, h⟩
theorem rowb_of {B : Nat} {v : Value} {m j z cp : Nat} {us : Nat → Value} {fs : Nat → Nat → BitVec 8} {X : World} (h : BLs B v m us fs X) (hj : j < m) (he : us j = .slice (some ⟨z, 0, none⟩) 512 cp) : RowB z (fs j) X := by
  obtain ⟨z', cp', h1, _, h3, _⟩ := h.byt j hj
  rw [h1] at he
  injection he with he
  injection he with he
  injection he with he
  subst he
  exact h3
theorem tabc_set {X : World} (h : TabC X) (p : Addr) (v : Value) (hp : p.block ≠ 0) : TabC (X.setCell p v) := by
  refine ⟨fun j hj => ?_, by rw [World.size_setCell]; exact h.2⟩
  rw [World.cell?_setCell_other _ _ _ _ (fun e => hp (by rw [e]))]
  exact h.1 j hj
theorem add0 (g k : Nat) : (⟨g, 0, none⟩ : Addr).add k = ⟨g, k, none⟩ := by
  unfold Addr.add
  split
  · rename_i h0
    rw [h0]
  · simp
/-- a list's blocks, in memory below B, none of them g -/
def AllB (B g i : Nat) (us : Nat → Value) (F : Nat → Nat → BitVec 8) (X : World) : Prop := ∀ j, j < i → ∃ z cp, us j = .slice (some ⟨z, 0, none⟩) 512 cp ∧ 512 ≤ cp ∧ RowB z (F j) X ∧ z < B ∧ z ≠ g
theorem AllB.ext {B g i : Nat} {us : Nat → Value} {F : Nat → Nat → BitVec 8} {X Y : World} (h : AllB B g i us F X) (k : Ext X Y) : AllB B g i us F Y := fun j hj => by
  obtain ⟨z, cp, h1, h2, h3, h4⟩ := h j hj
  exact ⟨z, cp, h1, h2, h3.carry k, h4⟩
theorem AllB.set {B g i : Nat} {us : Nat → Value} {F : Nat → Nat → BitVec 8} {X : World} (h : AllB B g i us F X) (p : Addr) (v : Value) (hp : p.block = g ∨ B ≤ p.block) : AllB B g i us F (X.setCell p v) := fun j hj => by
  obtain ⟨z, cp, h1, h2, h3, h4, h5⟩ := h j hj
  exact ⟨z, cp, h1, h2, h3.other p v (by omega), h4, h5⟩
theorem all_pl {B g i k d dc gc : Nat} {us : Nat → Value} {F : Nat → Nat → BitVec 8} {f : Nat → BitVec 8} {X : World} (h : AllB B g i us F X) (hc : i ≤ gc) (hR : RowAt g i (fun j => if j = k then .slice (some ⟨d, 0, none⟩) 512 dc else us j) X) (hD : RowAt d 512 (yv f) X) (hdc : 512 ≤ dc) :
    PL (.slice (some ⟨g, 0, none⟩) i gc) i (fun j => if j = k then .slice (some ⟨d, 0, none⟩) 512 dc else us j) (fun _ => 512) (fun j => if j = k then f else F j) X ∧ ∀ j, j < i → BV (if j = k then .slice (some ⟨d, 0, none⟩) 512 dc else us j) 512 (if j = k then f else F j) X := by
  have key : ∀ j, j < i → BV (if j = k then .slice (some ⟨d, 0, none⟩) 512 dc else us j) 512 (if j = k then f else F j) X := fun j hj => by
    by_cases e : j = k
    · rw [if_pos e, if_pos e]
      exact .inr ⟨_, dc, rfl, hdc, RowAt.lie hD 512 (Nat.le_refl _)⟩
    · rw [if_neg e, if_neg e]
      obtain ⟨z, cp, h1, h2, h3, _⟩ := h j hj
      rw [h1]
      exact h3.bv h2
  exact ⟨⟨.inr ⟨_, gc, rfl, hc, fun j hj => by rw [add0]; exact hR.1 j hj⟩, fun j hj => (key j hj).pv⟩, key⟩
theorem xor_ne (a c : BitVec 8) (h : c ≠ 0#8) : a ^^^ c ≠ a := fun e => h (by
  have : a ^^^ (a ^^^ c) = a ^^^ a := by rw [e]
  rwa [← BitVec.xor_assoc, BitVec.xor_self, BitVec.zero_xor] at this)
theorem bit8 (r : Nat) (h : r < 8) : ∃ c : BitVec 8, c ≠ 0#8 ∧ IntKind.u8.wrap (2 ^ min r 8) = (c.toNat : Int) ∧ IntKind.u8.wrap (2 ^ r) = (c.toNat : Int) := by
  refine ⟨BitVec.ofNat 8 (2 ^ r), ?_, ?_, ?_⟩ <;> (rcases (by omega : r = 0 ∨ r = 1 ∨ r = 2 ∨ r = 3 ∨ r = 4 ∨ r = 5 ∨ r = 6 ∨ r = 7) with rfl | rfl | rfl | rfl | rfl | rfl | rfl | rfl <;> decide)
/-- a copy of a list of blocks -/
theorem wpList_gl {ops : Array Oper} {rest : List Oper} {o : Oper} {a : Act} {Q : Exit → Act → World → Prop} {X : World} (hgd : o.guard = none) (s x : Operand)
    (ho : o.op = .call { callee := .builtin .append, args := #[s, x], argTypes := #[24, 24] }) (hs : a.eval s = .slice (some ⟨X.heap.size, 0, none⟩) 0 0) (ad : Addr) (m c : Nat) (us : Nat → Value) (hx : a.eval x = .slice (some ad) m c) (hl : LieAt ad m us (X.alloc (.cells #[] 34))) (h1 : ∀ j, j < m → (us j).oneCell' = true) (hm0 : 0 < m) (hm : m ≤ 1000000)
    (h : ∀ g cap Y, RowAt g m us Y → X.heap.size ≤ g → m ≤ cap → Ext X Y → wpList Tryd.prog ops Q rest (a.put o.dst (.slice (some ⟨g, 0, none⟩) m cap)) Y) : wpList Tryd.prog ops Q (o :: rest) a (X.alloc (.cells #[] 34)) := by
  have hX1 : Ext X (X.alloc (.cells #[] 34)) := (Below.refl _ _).alloc (Nat.le_refl _) _
  refine wpList_growE (n := 0) (base := X.heap.size) elem24 hgd s x ho hs (own_empty X X.heap.size 34 us (Nat.le_refl _)) ad m c us us hx hl h1 (fun j hj => rfl) (fun j hj => by rw [Nat.zero_add]) (by omega) (by omega) (Below.size hX1) ?_
  intro v' Y hO hg
  rw [Nat.zero_add] at hO
  obtain ⟨g, cap, rfl, hgb, hc, _, hR⟩ := hO.lies hm0
  exact h g cap Y hR hgb hc (Below.trans hX1 (below_grown (Below.size hX1) hg fun k hk => ((own_empty X X.heap.size 34 us (Nat.le_refl _)).lt k hk).1))
end Go.Proofs.YtedgopionpdfeaaDoor
