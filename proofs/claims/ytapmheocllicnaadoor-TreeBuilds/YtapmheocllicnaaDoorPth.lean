/-
  A child's digest written into a node; whether a path may be.
-/
import Derived.Test.YtapmheocllicnaaDoorChl
namespace Go.Proofs.YtapmheocllicnaaDoor
open Go.RowKit Go.BigFrame
/-- a node with another child at a place -/
def putF (b : Nat → BitVec 8) (p : Nat) (d : Nat → BitVec 8) (j : Nat) : BitVec 8 := if 32 * p ≤ j ∧ j < 32 * p + 32 then d (j - 32 * p) else b j
set_option maxRecDepth 20000 in
set_option maxHeartbeats 2000000 in
theorem set_any (nb cap p : Nat) (b d : Nat → BitVec 8) (w : World) (hp : p < 16) (hcap : 512 ≤ cap) (hb : RowAt nb 512 (yv b) w) :
    Calls Tryd.prog 38 #[.slice (some ⟨nb, 0, none⟩) 512 cap, .int .i64 (p : Int), .agg (row 32 (yv d)).toArray] w fun e w' => e = .returned (.tuple #[]) ∧ RowAt nb 512 (yv (putF b p d)) w' ∧ But nb w w' := by
  have HD0 := hideit (RowAt.new w 32 (yv d) 25)
  have HE0 : Ext w (w.alloc (.cells (row 32 (yv d)).toArray 25)) := (Below.refl _ _).alloc (Nat.le_refl _) _
  have hb1 := hideit (hb.carry HE0)
  have hsz : nb < w.heap.size := hb.2.2
  replace HE0 := hideit HE0
  have e7 : IntKind.i64.wrap ((p : Int) * 32) = 32 * (p : Int) := by rw [IntKind.wrap_i64]; omega
  have hadd : (⟨nb, 0, none⟩ : Addr).add (32 * p) = ⟨nb, 32 * p, none⟩ := by unfold Addr.add; split <;> simp_all
  have hcut := cutN ⟨nb, 0, none⟩ cap p hp hcap
  rw [hadd] at hcut
  clear hadd hb
  go_enter Tryd.func38, Tryd.ntmps38
  go_upto_region 1 with (fail)
  generalize w.alloc (.cells (row 32 (yv d)).toArray 25) = w1 at *
  refine wp_region_lad (fun X => True) [(false, 0), (false, 1), (false, 2), (false, 3), (false, 4), (true, 5)] (by kernel_rfl) (by kernel_rfl) (by decide +kernel) (by decide +kernel) (by decide +kernel) (by decide +kernel) trivial ?_
  refine wpX_f _ (.slice (some ⟨nb, 0, none⟩) 512 cap) rfl rfl (fun X _ => by simp [go_sem]) ?_
  simp only [List.getElem_toArray, List.getElem_cons_zero, Act.put, List.setIfInBounds_toArray, List.set_cons_zero, List.set_cons_succ]
  refine wpX_f _ (.int .i64 (p : Int)) rfl rfl (fun X _ => by simp [go_sem]) ?_
  simp only [List.getElem_toArray, List.getElem_cons_zero, List.getElem_cons_succ, Act.put, List.setIfInBounds_toArray, List.set_cons_zero, List.set_cons_succ]
  refine wpX_f _ (.int .i64 (32 * (p : Int))) rfl rfl (fun X _ => by simp [go_sem, e7]) ?_
  simp only [List.getElem_toArray, List.getElem_cons_zero, List.getElem_cons_succ, Act.put, List.setIfInBounds_toArray, List.set_cons_zero, List.set_cons_succ]
  refine wpX_f _ (.slice (some ⟨nb, 32 * p, none⟩) (512 - 32 * p) (cap - 32 * p)) rfl rfl (fun X _ => by simp [go_sem, hcut]) ?_
  simp only [List.getElem_toArray, List.getElem_cons_zero, List.getElem_cons_succ, Act.put, List.setIfInBounds_toArray, List.set_cons_zero, List.set_cons_succ]
  refine wpX_f _ (.slice (some ⟨w.heap.size, 0, none⟩) 32 32) rfl rfl (fun X _ => by simp [go_sem, cutR25]) ?_
  simp only [List.getElem_toArray, List.getElem_cons_zero, List.getElem_cons_succ, Act.put, List.setIfInBounds_toArray, List.set_cons_zero, List.set_cons_succ]
  have hsrc := (HD0.out.lie 32 (Nat.le_refl _)).1
  refine wpX_to _ (goInt 32) _ rfl rfl (exec_copy (.tmp 9) (.tmp 10) 23 23 rfl 5 Tryd.underlying23 info5 nb 512 (yv b) (w := w1.drew) hb1.out.drew (32 * p) (512 - 32 * p) (cap - 32 * p) ⟨w.heap.size, 0, none⟩ 32 32 rfl rfl 32 (yv d) (by show 32 = min 32 (512 - 32 * p); omega) hsrc (by omega) (fun _ _ => rfl)) (fun _ => True) (fun _ _ => trivial) trivial ?_
  simp only [List.getElem_toArray, List.getElem_cons_zero, List.getElem_cons_succ, Act.put, List.setIfInBounds_toArray, List.set_cons_zero, List.set_cons_succ]
  refine wpX_nil ?_
  have hR := hideit ((hb1.out.drew.part (32 * p) 32 (yv d) (by omega)).congr (g' := yv (putF b p d)) fun j hj => by
    show _ = Value.int .u8 ((putF b p d j).toNat : Int)
    unfold putF
    by_cases h : 32 * p ≤ j ∧ j < 32 * p + 32
    · rw [if_pos h, if_pos h]; rfl
    · rw [if_neg h, if_neg h]; rfl)
  have hB := hideit (But.sets (c := nb) (row 32 (yv d)) (32 * p) w1.drew ((But.of_ext HE0.out).drew))
  generalize w1.drew.setCells nb (32 * p) (row 32 (yv d)) = w3 at *
  clear hsrc hcut
  go_wp2
  go_end0
  exact ⟨rfl, hR.out, hB.out⟩
/-- may it be a path? -/
def isP (n : Int) (k : Nat) (ls : Nat → Nat) : Bool := decide (1 ≤ n ∧ n ≤ 4096 ∧ k = lvN n.toNat ∧ ∀ i, i < k → ls i = 512)
set_option maxRecDepth 20000 in
set_option maxHeartbeats 2000000 in
theorem path_out (n : Int) (hn : n < 1 ∨ 4096 < n) (v : Value) (w : World) : Calls Tryd.prog 33 #[.int .i64 n, v] w fun e w' => e = .returned (.bool false) ∧ Ext w w' := by
  have k := hideit (levels_no n hn w)
  clear hn
  go_enter Tryd.func33, Tryd.ntmps33
  go_wp2_with (go_at_call 17; refine k.out.mono ?_; rintro e w9 ⟨rfl, hw9⟩; rw [hw9]; clear hw9)
  go_ret
  exact ⟨rfl, Ext.refl _⟩
set_option maxRecDepth 20000 in
set_option maxHeartbeats 2000000 in
theorem path_in (n : Nat) (h1 : 1 ≤ n) (h2 : n ≤ 4096) (v : Value) (k : Nat) (us : Nat → Value) (ls : Nat → Nat) (bs : Nat → Nat → BitVec 8) (w : World) (hP : Parts v k us ls bs w) (hk : k ≤ 140737488355328) :
    Calls Tryd.prog 33 #[.int .i64 (n : Int), v] w fun e w' => e = .returned (.bool (decide (k = lvN n ∧ ∀ i, i < k → ls i = 512))) ∧ Ext w w' := by
  obtain ⟨ov, cap, rfl⟩ := hP.form
  have kl := hideit (levels_any n w h1 h2)
  have hN := (lvN_pos n)
  obtain ⟨N, hNN⟩ : ∃ N, N = lvN n := ⟨_, rfl⟩
  rw [← hNN] at kl hN ⊢
  obtain ⟨r, hr⟩ : ∃ r, r = decide (k = N ∧ ∀ i, i < k → ls i = 512) := ⟨_, rfl⟩
  rw [← hr]
  replace hr := hideit hr
  replace hP := hideit hP
  clear hNN h1 h2
  go_enter Tryd.func33, Tryd.ntmps33
  go_upto_region 1 with (fail)
  refine wp_region_lit ?_
  refine wpList_run rfl (.int .i64 (n : Int)) (by simp [go_sem]) ?_
  simp only [Act.put, List.setIfInBounds_toArray, List.set_cons_zero, List.set_cons_succ]
  refine wpList_call rfl (by simp [go_sem]) (kl.out.mono ?_)
  rintro e w1 ⟨v1, rfl, hO, hE⟩
  refine ⟨_, rfl, ?_⟩
  simp only [Act.put, List.setIfInBounds_toArray, List.set_cons_zero, List.set_cons_succ]
  obtain ⟨b1, c1, rfl, -, -, -, -⟩ := hO.lies (by omega)
  replace hE := hideit hE
  clear hO kl
  by_cases hkN : k = N
  · subst hkN
    have n0 : ¬ ((k : Nat) : Int) = 0 := by omega
    go_upto_region 4 with (fail)
    go_wp2
    go_loopw [19] (fun iv X => ∃ i : Nat, i ≤ k ∧ iv = .int .i64 (i : Int) ∧ (∀ j, j < i → ls j = 512) ∧ X = w1) (fun iv _ => k - (intOf iv).toNat)
    case atStart => exact ⟨0, by omega, rfl, fun j hj => absurd hj (by omega), rfl⟩
    case round =>
      obtain ⟨i, hi, rfl, hall, rfl⟩ := hrel
      replace hall := hideit hall
      by_cases hlt : i < k
      · have i0 : (0 : Int) ≤ (i : Int) := by omega
        have i1 : (i : Int) < (k : Int) := by omega
        obtain ⟨oi, ci, hui⟩ := (hP.out.2 i hlt).form
        obtain ⟨a, rfl, hcell⟩ : ∃ a, ov = some a ∧ wr.cell? (a.add i) = some (us i) := by
          rcases hP.out.1 with ⟨h, h0⟩ | ⟨a, cap', h, _, h3⟩
          · omega
          · injection h with e1 e2 e3
            exact ⟨a, e1, (h3.carry hE.out).1 i hlt⟩
        rw [hui] at hcell
        clear hui
        by_cases h5 : ls i = 512
        · have i5 : ((ls i : Nat) : Int) = 512 := by omega
          replace h5 := hideit h5
          go_wp2
          exact ⟨⟨i + 1, by omega, by go_num, fun j hj => by
            rcases (by omega : j < i ∨ j = i) with h | rfl
            · exact hall.out j h
            · exact h5.out, by first | rfl | trivial⟩, by simp [intOf]; omega⟩
        · have i5 : ¬ ((ls i : Nat) : Int) = 512 := by omega
          replace h5 := hideit h5
          go_wp2
          go_ret
          refine ⟨ret_bool ?_, hE.out⟩
          rw [hr.out]
          symm
          exact decide_eq_false fun h => h5.out (h.2 i hlt)
      · obtain rfl : i = k := by omega
        have i1 : ¬ (i : Int) < (i : Int) := by omega
        go_wp2
        go_ret
        refine ⟨ret_bool ?_, hE.out⟩
        rw [hr.out]
        symm
        exact decide_eq_true ⟨by first | rfl | trivial, hall.out⟩
  · have n0 : ¬ ((N : Nat) : Int) = 0 := by omega
    have n1 : (((k : Nat) : Int) != (N : Int)) = true := by simp; omega
    have n2 : (((N : Nat) : Int) == 0) = false := by simp; omega
    replace hkN := hideit hkN
    go_wp2
    go_ret
    refine ⟨ret_bool ?_, hE.out⟩
    rw [hr.out]
    symm
    exact decide_eq_false fun h => hkN.out h.1
theorem path_any (n : Int) (v : Value) (k : Nat) (us : Nat → Value) (ls : Nat → Nat) (bs : Nat → Nat → BitVec 8) (w : World) (hP : Parts v k us ls bs w) (hk : k ≤ 140737488355328) :
    Calls Tryd.prog 33 #[.int .i64 n, v] w fun e w' => e = .returned (.bool (isP n k ls)) ∧ Ext w w' := by
  by_cases hn : n < 1 ∨ 4096 < n
  · refine (path_out n hn v w).mono fun e w' h => ⟨?_, h.2⟩
    rw [h.1]
    refine ret_bool ?_
    symm
    exact decide_eq_false fun h => by omega
  · obtain ⟨m, rfl⟩ : ∃ m : Nat, n = (m : Int) := ⟨n.toNat, by omega⟩
    refine (path_in m (by omega) (by omega) v k us ls bs w hP hk).mono fun e w' h => ⟨?_, h.2⟩
    rw [h.1]
    refine ret_bool ?_
    unfold isP
    rw [Int.toNat_natCast]
    refine decide_eq_decide.2 ⟨fun h => ⟨by omega, by omega, h.1, h.2⟩, fun h => ⟨h.2.2.1, h.2.2.2⟩⟩
end Go.Proofs.YtapmheocllicnaaDoor
