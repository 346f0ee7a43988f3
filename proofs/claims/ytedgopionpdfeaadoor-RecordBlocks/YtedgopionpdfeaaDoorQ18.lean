/-
  A number's bytes in the document. The number that bytes are, in the document.
-/
import Derived.Test.YtedgopionpdfeaaDoorQ17
namespace Go.Proofs.YtedgopionpdfeaaDoor
set_option maxRecDepth 20000
open Go.RowKit Go.BigFrame
set_option maxRecDepth 20000 in
set_option maxHeartbeats 2000000 in
theorem number_any (n : Nat) (x : BitVec 64) (w : World) (hn : n ≤ 8) : Calls Tryd.prog 45 #[.int .i64 (n : Int), .int .u64 (x.toNat : Int)] w fun e w' => ∃ v, e = .returned v ∧ OwnB w.heap.size 5 v n (yv (byB x)) w' ∧ Ext w w' := by
  go_enter Tryd.func45, Tryd.ntmps45
  go_wp2
  go_loopw [5, 6] (fun b i X => ∃ k : Nat, k ≤ n ∧ i = .int .i64 k ∧ OwnB w.heap.size 5 b k (yv (byB x)) X ∧ Ext w X) (fun _ i _ => n - (intOf i).toNat)
  case atStart => exact ⟨0, Nat.zero_le _, rfl, own_nil _ _ _ _, Ext.refl _⟩
  case round =>
    obtain ⟨k, hk, rfl, hO, hE⟩ := hrel
    replace hO := hideit hO
    replace hE := hideit hE
    by_cases hlt : k < n
    · have k0 : (0 : Int) ≤ (k : Int) := by omega
      have k1 : (k : Int) < (n : Int) := by omega
      have k8 : k < 8 := by omega
      have hm : IntKind.i64.wrap (8 * (k : Int)) = 8 * (k : Int) := by rw [IntKind.wrap_i64]; omega
      obtain ⟨q, hq⟩ : ∃ q, q = x.toNat / 2 ^ (8 * k) := ⟨_, rfl⟩
      have hq8 : IntKind.u8.wrap (q : Int) = ((byB x k).toNat : Int) := by
        unfold byB
        rw [IntKind.wrap_u8, BitVec.toNat_setWidth, BitVec.toNat_ushiftRight, Nat.shiftRight_eq_div_pow, ← hq]
        omega
      have hsh : (x.toNat : Int) / 2 ^ (8 * (k : Int)).toNat = (q : Int) := by
        rw [show (8 * (k : Int)).toNat = 8 * k by omega, hq, Int.natCast_ediv, Int.natCast_pow]
        rfl
      clear hq
      go_upto_region 5 with (fail)
      obtain ⟨ov, cv, rfl⟩ := hO.out.bv.form
      have hX : Ext wr (wr.alloc (.cells #[.int .u8 ((byB x k).toNat : Int)] 5)) := (Below.refl _ _).alloc (Nat.le_refl _) _
      have hN := newB wr #[.int .u8 ((byB x k).toNat : Int)] 1 (fun _ => byB x k) (fun j hj => by
        obtain rfl : j = 0 := by omega
        rfl)
      have hO2 := hideit (hO.out.ext hX)
      have hN2 := hideit hN.1
      have hE2 := hideit (Ext.trans hE.out hX)
      clear hO hN hX hE
      refine wp_region_lit ?_
      refine wpList_run rfl (.slice ov k cv) (by simp [go_sem]) ?_
      simp only [Act.put, List.setIfInBounds_toArray, List.set_cons_zero, List.set_cons_succ]
      refine wpList_run rfl (.int .u64 (x.toNat : Int)) (by simp [go_sem]) ?_
      simp only [Act.put, List.setIfInBounds_toArray, List.set_cons_zero, List.set_cons_succ]
      refine wpList_run rfl (.int .i64 (k : Int)) (by simp [go_sem]) ?_
      simp only [Act.put, List.setIfInBounds_toArray, List.set_cons_zero, List.set_cons_succ]
      refine wpList_run rfl (.int .i64 (8 * (k : Int))) (by simp [go_sem, hm]) ?_
      simp only [Act.put, List.setIfInBounds_toArray, List.set_cons_zero, List.set_cons_succ]
      refine wpList_run rfl (.int .u64 (q : Int)) (by simp [go_sem, hsh]) ?_
      simp only [Act.put, List.setIfInBounds_toArray, List.set_cons_zero, List.set_cons_succ]
      refine wpList_run rfl (.int .u8 ((byB x k).toNat : Int)) (by simp [go_sem, hq8]) ?_
      simp only [Act.put, List.setIfInBounds_toArray, List.set_cons_zero, List.set_cons_succ]
      refine wpList_to rfl (.slice (some ⟨wr.heap.size, 0, none⟩) 1 1) (wr.alloc (.cells #[.int .u8 ((byB x k).toNat : Int)] 5)) (by simp [go_sem]) ?_
      simp only [Act.put, List.setIfInBounds_toArray, List.set_cons_zero, List.set_cons_succ]
      refine wpList_growV (n := k) (base := w.heap.size) elem22 rfl (.tmp 12) (.tmp 18) rfl rfl hO2.out (.slice (some ⟨wr.heap.size, 0, none⟩) 1 1) 1 (fun _ => byB x k) (yv (byB x)) rfl hN2.out (fun j hj => rfl) (fun j hj => by simp only [yv]; rw [show k + j = k by omega]) (by omega) (Below.size hE2.out) ?_
      intro v' Y hO' hg'
      have hE3 := hideit (grownE hE2.out hO2.out (Nat.le_refl _) hg')
      replace hO' := hideit hO'
      clear hO2 hN2 hE2 hg'
      simp only [Act.put, List.setIfInBounds_toArray, List.set_cons_zero, List.set_cons_succ]
      go_wp2
      exact ⟨⟨k + 1, by omega, by go_num, hO'.out, hE3.out⟩, by simp [intOf]; omega⟩
    · obtain rfl : k = n := by omega
      go_wp2
      go_ret
      exact ⟨_, rfl, hO.out, hE.out⟩
end Go.Proofs.YtedgopionpdfeaaDoor
namespace Go.Proofs.YtedgopionpdfeaaDoor
set_option maxRecDepth 20000
open Go.RowKit Go.BigFrame
set_option maxRecDepth 20000 in
set_option maxHeartbeats 2000000 in
theorem value_any (v : Value) (n : Nat) (f : Nat → BitVec 8) (w : World) (h : BV v n f w) (hn8 : n ≤ 8) : Calls Tryd.prog 41 #[v] w fun e w' => e = .returned (.int .u64 ((leN f n).toNat : Int)) ∧ w' = w := by
  obtain ⟨oa, cp, rfl⟩ := h.form
  have hcell : Hid (∀ j, j < n → ∃ ad, oa = some ad ∧ w.cell? (ad.add j) = some (.int .u8 ((f j).toNat : Int))) := by
    intro j hj
    rcases h with ⟨_, h0⟩ | ⟨a, cap, h1, h2, h3⟩
    · omega
    · injection h1 with h1 _ _
      exact ⟨a, h1, h3.1 j hj⟩
  clear h
  go_enter Tryd.func41, Tryd.ntmps41
  go_wp2
  go_loop [3, 4] (fun x i => ∃ k : Nat, k ≤ n ∧ i = .int .i64 k ∧ x = .int .u64 ((leN f k).toNat : Int)) (fun _ i => n - (intOf i).toNat)
  case atStart => exact ⟨0, Nat.zero_le _, rfl, rfl⟩
  case round =>
    obtain ⟨k, hk, rfl, rfl⟩ := hrel
    by_cases hlt : k < n
    · obtain ⟨ad, rfl, hc⟩ := hcell.out k hlt
      have k0 : (0 : Int) ≤ (k : Int) := by omega
      have k1 : (k : Int) < (n : Int) := by omega
      have k2 : (k : Int) < 8 := by omega
      go_wp2
      go_round
      case rel =>
        refine ⟨k + 1, by omega, by go_num, ?_⟩
        rw [or_wrap]
        rfl
      case measure => simp [intOf]; omega
    · obtain rfl : k = n := by omega
      go_wp2
      go_ret
      exact ⟨rfl, rfl⟩
end Go.Proofs.YtedgopionpdfeaaDoor
