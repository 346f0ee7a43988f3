/-
  A block made of some bytes, again and again. A sort of at most one element.
-/
import Derived.Test.YtfaeieaelfjlpaaQ16
namespace Go.Proofs.Ytfaeieaelfjlpaa
open Go.RowKit Go.BigFrame Go.Maps
set_option maxRecDepth 20000 in
set_option maxHeartbeats 4000000 in
theorem block_zero (ov : Option Addr) (cap : Nat) (f : Nat → BitVec 8) (w : World) : Calls Try.prog 12 #[.slice ov 0 cap] w fun e w' => ∃ v', e = .returned v' ∧ OwnB w.heap.size 5 v' 512 (yv (blkF 0 f)) w' ∧ Ext w w' := by
  go_enter Try.func12, Try.ntmps12
  go_upto_region 1 with (fail)
  refine wp_region_lit ?_
  refine wpList_made w Try.underlying31 info5 rfl (.const (.int .i64 512)) (.const (.int .i64 512)) rfl 512 rfl rfl (by decide) ?_
  intro w1 hO1 hX1
  simp only [Act.put, List.setIfInBounds_toArray, List.set_cons_zero, List.set_cons_succ]
  refine wpList_run rfl (.slice (some ⟨w.heap.size, 0, none⟩) 512 512) (by simp [go_sem]) ?_
  simp only [Act.put, List.setIfInBounds_toArray, List.set_cons_zero, List.set_cons_succ]
  have hO2 : Hid (OwnB w.heap.size 5 (.slice (some ⟨w.heap.size, 0, none⟩) 512 512) 512 (yv (blkF 0 f)) w1) := hO1.congr fun j hj => by unfold yv blkF; rw [if_pos rfl]
  replace hX1 := hideit hX1
  clear hO1
  go_wp2
  refine wp_loop_rounds 1 ?_
  rw [rounds_succ]
  go_wp2
  go_ret
  exact ⟨_, rfl, hO2.out, hX1.out⟩
set_option maxRecDepth 20000 in
set_option maxHeartbeats 4000000 in
theorem block_pos (v : Value) (l : Nat) (f : Nat → BitVec 8) (w : World) (hb : BV v l f w) (hl0' : 0 < l) (hl : l ≤ maxLen) : Calls Try.prog 12 #[v] w fun e w' => ∃ v', e = .returned v' ∧ OwnB w.heap.size 5 v' 512 (yv (blkF l f)) w' ∧ Ext w w' := by
  obtain ⟨ov, cap, rfl⟩ := hb.form
  replace hb := hideit hb
  have hl9 : l ≤ 9223372036854775807 := by unfold maxLen at hl; exact hl
  clear hl
  go_enter Try.func12, Try.ntmps12
  go_upto_region 1 with (fail)
  refine wp_region_lit ?_
  refine wpList_made w Try.underlying31 info5 rfl (.const (.int .i64 512)) (.const (.int .i64 512)) rfl 512 rfl rfl (by decide) ?_
  intro w1 hO1 hX1
  simp only [Act.put, List.setIfInBounds_toArray, List.set_cons_zero, List.set_cons_succ]
  refine wpList_run rfl (.slice (some ⟨w.heap.size, 0, none⟩) 512 512) (by simp [go_sem]) ?_
  simp only [Act.put, List.setIfInBounds_toArray, List.set_cons_zero, List.set_cons_succ]
  by_cases hl0 : l = 0
  · exact absurd hl0 (by omega)
  · have hO2 : OwnB w.heap.size 5 (.slice (some ⟨w.heap.size, 0, none⟩) 512 512) 512 (yv (blkK l f 0)) w1 := hO1.congr fun j hj => by unfold yv blkK; rw [if_neg (by omega)]
    obtain ⟨a, rfl, hlie⟩ : ∃ a, ov = some a ∧ LieAt a l (yv f) w := by
      rcases hb.out with ⟨h1, h0⟩ | ⟨a, cap', h1, _, h3⟩
      · omega
      · injection h1 with e1 e2 e3
        exact ⟨a, e1, h3⟩
    have l0 : (0 : Int) < (l : Int) := by omega
    replace hX1 := hideit hX1
    replace hO2 := hideit hO2
    replace hlie := hideit hlie
    clear hO1 hb
    go_wp2
    go_loopw [4] (fun iv X => ∃ i : Nat, i ≤ 512 ∧ iv = .int .i64 (i : Int) ∧ OwnB w.heap.size 5 (.slice (some ⟨w.heap.size, 0, none⟩) 512 512) 512 (yv (blkK l f i)) X ∧ Ext w X) (fun iv _ => 512 - (intOf iv).toNat)
    case atStart => exact ⟨0, Nat.zero_le _, rfl, hO2.out, hX1.out⟩
    case round =>
      obtain ⟨i, hi, rfl, hO, hE⟩ := hrel
      by_cases hlt : i < 512
      · have i0 : (0 : Int) ≤ (i : Int) := by omega
        have i1 : (i : Int) < 512 := by omega
        obtain ⟨q, hq⟩ : ∃ q, q = i % l := ⟨_, rfl⟩
        have hql : q < l := by rw [hq]; exact Nat.mod_lt _ (by omega)
        have q1 : (q : Int) < (l : Int) := by omega
        have hrem : Int.tmod (i : Int) (l : Int) = (q : Int) := by rw [hq, Int.tmod_eq_emod_of_nonneg (by omega)]; exact (Int.natCast_emod i l).symm
        have es := (hlie.out.carry hE).1 q hql
        rw [show yv f q = .int .u8 ((f q).toNat : Int) from rfl] at es
        obtain ⟨_, _, hv1, _, _, _, hR⟩ := hO.lies (by decide)
        injection hv1 with e1 e2 e3
        injection e1 with e1
        injection e1 with e1
        subst e1
        have e4 := hR.1 i hlt
        have z4 := hR.2.1 i hlt
        have hO3 : Hid (OwnB w.heap.size 5 (.slice (some ⟨w.heap.size, 0, none⟩) 512 512) 512 (yv (blkK l f (i + 1))) (wr.setCell ⟨w.heap.size, i, none⟩ (.int .u8 ((f q).toNat : Int)))) := (hO.set rfl i hlt (.int .u8 ((f q).toNat : Int))).congr fun j hj => by
          unfold yv blkK
          by_cases e : j = i
          · subst e
            rw [if_pos rfl, if_pos (by omega)]
            unfold blkF
            rw [if_neg hl0, hq]
          · rw [if_neg e]
            by_cases h2 : j < i
            · rw [if_pos h2, if_pos (by omega)]
            · rw [if_neg h2, if_neg (by omega)]
        have hE3 : Hid (Ext w (wr.setCell ⟨w.heap.size, i, none⟩ (.int .u8 ((f q).toNat : Int)))) := Below.setCell hE (Nat.le_refl _) _
        have l9 : ¬ l = 0 := hl0
        replace hq := hideit hq
        clear hO hE hR
        go_upto_region 5 with (fail)
        refine wp_region_lit ?_
        refine wpList_run rfl (.slice (some ⟨w.heap.size, 0, none⟩) 512 512) (by simp [go_sem]) ?_
        simp only [Act.put, List.setIfInBounds_toArray, List.set_cons_zero, List.set_cons_succ]
        refine wpList_run rfl (.int .i64 (i : Int)) (by simp [go_sem]) ?_
        simp only [Act.put, List.setIfInBounds_toArray, List.set_cons_zero, List.set_cons_succ]
        refine wpList_run rfl (.slice (some a) l cap) (by simp [go_sem]) ?_
        simp only [Act.put, List.setIfInBounds_toArray, List.set_cons_zero, List.set_cons_succ]
        refine wpList_run rfl (.int .i64 (i : Int)) (by simp [go_sem]) ?_
        simp only [Act.put, List.setIfInBounds_toArray, List.set_cons_zero, List.set_cons_succ]
        refine wpList_run rfl (.slice (some a) l cap) (by simp [go_sem]) ?_
        simp only [Act.put, List.setIfInBounds_toArray, List.set_cons_zero, List.set_cons_succ]
        refine wpList_run rfl (.int .i64 (l : Int)) (by simp [go_sem]) ?_
        simp only [Act.put, List.setIfInBounds_toArray, List.set_cons_zero, List.set_cons_succ]
        refine wpList_run rfl (.int .i64 (q : Int)) (by simp [go_sem, l9, hrem]) ?_
        simp only [Act.put, List.setIfInBounds_toArray, List.set_cons_zero, List.set_cons_succ]
        refine wpList_run rfl (.pointer (some (a.add q))) (by simp [go_sem, q1]) ?_
        simp only [Act.put, List.setIfInBounds_toArray, List.set_cons_zero, List.set_cons_succ]
        refine wpList_run rfl (.int .u8 ((f q).toNat : Int)) (by simp [go_sem, es]) ?_
        simp only [Act.put, List.setIfInBounds_toArray, List.set_cons_zero, List.set_cons_succ]
        refine wpList_run rfl (.pointer (some ⟨w.heap.size, i, none⟩)) (by simp [go_sem, i1]) ?_
        simp only [Act.put, List.setIfInBounds_toArray, List.set_cons_zero, List.set_cons_succ]
        go_wp2
        exact ⟨⟨i + 1, by omega, by go_num, hO3.out, hE3.out⟩, by simp [intOf]; omega⟩
      · obtain rfl : i = 512 := by omega
        have hO3 : Hid (OwnB w.heap.size 5 (.slice (some ⟨w.heap.size, 0, none⟩) 512 512) 512 (yv (blkF l f)) wr) := hO.congr fun j hj => by unfold yv blkK; rw [if_pos hj]
        replace hE := hideit hE
        clear hO
        go_wp2
        go_ret
        exact ⟨_, rfl, hO3.out, hE.out⟩
theorem block_any (v : Value) (l : Nat) (f : Nat → BitVec 8) (w : World) (hb : BV v l f w) (hl : l ≤ maxLen) : Calls Try.prog 12 #[v] w fun e w' => ∃ v', e = .returned v' ∧ OwnB w.heap.size 5 v' 512 (yv (blkF l f)) w' ∧ Ext w w' := by
  rcases Nat.eq_zero_or_pos l with h0 | h0
  · subst h0
    obtain ⟨o, cap, rfl⟩ := hb.form
    exact block_zero o cap f w
  · exact block_pos v l f w hb h0 hl
end Go.Proofs.Ytfaeieaelfjlpaa
namespace Go.Proofs.Ytfaeieaelfjlpaa
open Go.RowKit Go.BigFrame Go.Maps
set_option maxRecDepth 20000 in
theorem len64_0 (w : World) : Calls Try.prog 62 #[.int .u64 0] w fun e w' => ∃ z, e = .returned (.int .i64 z) ∧ w' = w := by
  go_enter Try.func62, Try.ntmps62
  go_wp2
  go_ret
  exact ⟨_, rfl, rfl⟩
set_option maxRecDepth 20000 in
theorem len64_1 (w : World) : Calls Try.prog 62 #[.int .u64 1] w fun e w' => ∃ z, e = .returned (.int .i64 z) ∧ w' = w := by
  go_enter Try.func62, Try.ntmps62
  go_wp2
  go_ret
  exact ⟨_, rfl, rfl⟩
theorem len_tiny (n : Nat) (hn : n ≤ 1) (w : World) : Calls Try.prog 49 #[.int .u64 (n : Int)] w fun e w' => ∃ z, e = .returned (.int .i64 z) ∧ w' = w := by
  rcases (by omega : n = 0 ∨ n = 1) with rfl | rfl
  · have k := hideit (len64_0 w)
    go_enter Try.func49, Try.ntmps49
    go_wp2_with (go_at_call 62; refine k.out.mono ?_; rintro e w9 ⟨z, rfl, hw9⟩; rw [hw9]; clear hw9)
    go_ret
    exact ⟨_, rfl, rfl⟩
  · have k := hideit (len64_1 w)
    go_enter Try.func49, Try.ntmps49
    go_wp2_with (go_at_call 62; refine k.out.mono ?_; rintro e w9 ⟨z, rfl, hw9⟩; rw [hw9]; clear hw9)
    go_ret
    exact ⟨_, rfl, rfl⟩
theorem ins_tiny (o : Option Addr) (n cap : Nat) (hn : n ≤ 1) (fv : Value) (w : World) : Calls Try.prog 53 #[.slice o n cap, .int .i64 0, .int .i64 (n : Int), fv] w fun e w' => e = .returned (.tuple #[]) ∧ w' = w := by
  have h1 : ¬ (1 : Int) < (n : Int) := by omega
  go_enter Try.func53, Try.ntmps53
  go_wp2
  refine wp_loop_rounds 1 ?_
  rw [rounds_succ]
  go_wp2
  exact bodyPost_end (v := .tuple #[]) (by simp [results, Try.results53]) rfl ⟨rfl, rfl⟩
theorem pdq_tiny (o : Option Addr) (n cap : Nat) (hn : n ≤ 1) (z : Int) (fv : Value) (w : World) : Calls Try.prog 48 #[.slice o n cap, .int .i64 0, .int .i64 (n : Int), .int .i64 z, fv] w fun e w' => e = .returned (.tuple #[]) ∧ w' = w := by
  have h1 : (n : Int) ≤ 12 := by omega
  have hs : IntKind.i64.wrap (n : Int) = (n : Int) := by rw [IntKind.wrap_i64]; omega
  have k := hideit (ins_tiny o n cap hn fv w)
  go_enter Try.func48, Try.ntmps48
  go_wp2
  refine wp_loop_rounds 1 ?_
  rw [rounds_succ]
  go_wp2_with (go_at_call 53; refine k.out.mono ?_; rintro e w9 ⟨rfl, hw9⟩; rw [hw9]; clear hw9)
  exact bodyPost_ret (v := .tuple #[]) (by simp [results, Try.results48]) rfl ⟨rfl, rfl⟩
theorem sort_tiny (o : Option Addr) (n cap : Nat) (hn : n ≤ 1) (fv : Value) (w : World) : Calls Try.prog 39 #[.slice o n cap, fv] w fun e w' => e = .returned (.tuple #[]) ∧ w' = w := by
  have k := hideit (len_tiny n hn w)
  have k2 := hideit fun z => pdq_tiny o n cap hn z fv w
  have hw : IntKind.u64.wrap (n : Int) = (n : Int) := by rw [IntKind.wrap_u64]; omega
  go_enter Try.func39, Try.ntmps39
  go_wp2_with (first | (go_at_call 49; refine k.out.mono ?_; rintro e w9 ⟨z, rfl, hw9⟩; rw [hw9]; clear hw9) | (go_at_call 48; refine (k2.out _).mono ?_; rintro e w9 ⟨rfl, hw9⟩; rw [hw9]; clear hw9))
  exact bodyPost_end (v := .tuple #[]) (by simp [results, Try.results39]) rfl ⟨rfl, rfl⟩
end Go.Proofs.Ytfaeieaelfjlpaa
