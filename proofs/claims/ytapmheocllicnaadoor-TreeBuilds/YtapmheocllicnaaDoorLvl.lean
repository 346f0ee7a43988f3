/-
  How many nodes each level has.
-/
import Derived.Test.YtapmheocllicnaaDoorNod
namespace Go.Proofs.YtapmheocllicnaaDoor
open Go.RowKit Go.BigFrame
theorem grownE {w X Y : World} {e : TypeId} {v : Value} {n base : Nat} {g : Nat → Value} (hE : Ext w X) (hO : OwnB base e v n g X) (hb : w.heap.size ≤ base) (hg : X.grownBy Y v.ownBlock) : Ext w Y :=
  Below.trans hE (below_grown (Below.size hE) hg fun k hk => Nat.le_trans hb (hO.lt k hk).1)
theorem own_one (w : World) (base : Nat) (e : TypeId) (u : Value) (hb : base ≤ w.heap.size) : OwnB base e (.slice (some ⟨w.heap.size, 0, none⟩) 1 1) 1 (fun _ => u) (w.alloc (.cells #[u] e)) :=
  ⟨by rw [row_length], .inr ⟨w.heap.size, 1, #[u], rfl, hb, by
    show (w.heap.push (.cells #[u] e))[w.heap.size]? = _
    simp, Nat.le_refl _, by unfold maxLen; decide, rfl, rfl⟩⟩
theorem elem34 : ElemB Tryd.prog 34 3 8 := elem_b Tryd.underlying34 (by kernel_rfl) (by kernel_rfl) (by kernel_rfl)
/-- how many levels -/
def lvN (n : Nat) : Nat := if n ≤ 16 then 1 else if n ≤ 256 then 2 else 3
/-- how many nodes a level has -/
def lc (n : Nat) : Nat → Nat
  | 0 => (n + 15) / 16
  | j + 1 => (lc n j + 15) / 16
def lcV (n : Nat) : Nat → Value := fun j => .int .i64 (lc n j : Int)
theorem lv_cases {n c : Nat} (h1 : 1 ≤ n) (h2 : n ≤ 4096) (c1 : 1 ≤ c) (c2 : c ≤ lvN n) : (1 < lc n (c - 1) ↔ c < lvN n) ∧ 1 ≤ lc n (c - 1) ∧ lc n (c - 1) ≤ 256 := by
  unfold lvN at *
  rcases (by split at c2 <;> (try split at c2) <;> omega : c = 1 ∨ c = 2 ∨ c = 3) with rfl | rfl | rfl
  · simp only [Nat.sub_self, lc]; split <;> (try split) <;> omega
  · simp only [lc]; split at c2 <;> (try split at c2) <;> (try split) <;> (try split) <;> omega
  · simp only [lc]; split at c2 <;> (try split at c2) <;> (try split) <;> (try split) <;> omega
theorem lvN_pos (n : Nat) : 1 ≤ lvN n ∧ lvN n ≤ 3 := by
  unfold lvN
  split <;> (try split) <;> omega
theorem parents_any (c : Nat) (h : c ≤ 4096) (w : World) : Calls Tryd.prog 32 #[.int .i64 (c : Int)] w fun e w' => e = .returned (.int .i64 (((c + 15) / 16 : Nat) : Int)) ∧ w' = w := by
  go_enter Tryd.func32, Tryd.ntmps32
  go_wp2
  go_ret
  refine ⟨ret_int ?_, rfl⟩
  go_num
set_option maxRecDepth 20000 in
set_option maxHeartbeats 2000000 in
theorem levels_no (n : Int) (hn : n < 1 ∨ 4096 < n) (w : World) : Calls Tryd.prog 17 #[.int .i64 n] w fun e w' => e = .returned (.slice none 0 0) ∧ w' = w := by
  by_cases h : n < 1
  · go_enter Tryd.func17, Tryd.ntmps17
    go_wp2
    go_ret
    exact ⟨rfl, rfl⟩
  · have h4 : 4096 < n := by omega
    go_enter Tryd.func17, Tryd.ntmps17
    go_wp2
    go_ret
    exact ⟨rfl, rfl⟩
set_option maxRecDepth 20000 in
set_option maxHeartbeats 2000000 in
theorem levels_any (n : Nat) (w : World) (h1 : 1 ≤ n) (h2 : n ≤ 4096) : Calls Tryd.prog 17 #[.int .i64 (n : Int)] w fun e w' => ∃ v, e = .returned v ∧ OwnB w.heap.size 3 v (lvN n) (lcV n) w' ∧ Ext w w' := by
  obtain ⟨N, hN⟩ : ∃ N, N = lvN n := ⟨_, rfl⟩
  have hc := fun c c1 c2 => @lv_cases n c h1 h2 c1 c2
  have hN1 := lvN_pos n
  rw [← hN] at hc hN1 ⊢
  replace hN := hideit hN
  replace hc := hideit hc
  have k := hideit (parents_any n h2 w)
  obtain ⟨m, hm⟩ : ∃ m, m = (n + 15) / 16 := ⟨_, rfl⟩
  have hm0 : m = lc n 0 := hm
  rw [← hm] at k
  have i1 : ¬ (n : Int) < 1 := by omega
  have i2 : ¬ (4096 : Int) < (n : Int) := by omega
  clear hm
  have O1 := hideit ((own_one w w.heap.size 3 (.int .i64 (m : Int)) (Nat.le_refl _)).congr (g' := lcV n) fun j hj => by
    obtain rfl : j = 0 := by omega
    unfold lcV
    rw [hm0])
  replace hm0 := hideit hm0
  have hE1 := hideit ((Below.refl w.heap.size w).alloc (Nat.le_refl _) (.cells #[.int .i64 (m : Int)] 3))
  clear h1
  go_enter Tryd.func17, Tryd.ntmps17
  go_upto_region 4 with (go_at_call 32; refine k.out.mono ?_; rintro e w9 ⟨rfl, hw9⟩; rw [hw9]; clear hw9)
  clear k
  refine wp_region_lit ?_
  refine wpList_run rfl (.int .i64 (m : Int)) (by simp [go_sem]) ?_
  simp only [Act.put, List.setIfInBounds_toArray, List.set_cons_zero, List.set_cons_succ]
  refine wpList_to rfl (.slice (some ⟨w.heap.size, 0, none⟩) 1 1) (w.alloc (.cells #[.int .i64 (m : Int)] 3)) (by simp [go_sem]) ?_
  simp only [Act.put, List.setIfInBounds_toArray, List.set_cons_zero, List.set_cons_succ]
  go_wp2
  generalize w.alloc (.cells #[.int .i64 (m : Int)] 3) = w1 at *
  go_loopw [3, 4] (fun b l X => ∃ q c : Nat, b = .int .i64 (q : Int) ∧ 1 ≤ c ∧ c ≤ N ∧ q = lc n (c - 1) ∧ OwnB w.heap.size 3 l c (lcV n) X ∧ Ext w X) (fun b _ _ => (intOf b).toNat)
  case atStart => exact ⟨m, 1, rfl, Nat.le_refl _, hN1.1, hm0.out, O1.out, hE1.out⟩
  case round =>
    obtain ⟨q, c, rfl, c1, c2, hq, hO, hE⟩ := hrel
    replace hO := hideit hO
    replace hE := hideit hE
    clear O1 hE1 hm0
    obtain ⟨g1, g2, g3⟩ := hc.out c c1 c2
    rw [← hq] at g1 g2 g3
    by_cases hlt : 1 < q
    · have q1 : (1 : Int) < (q : Int) := by omega
      have hcN : c < N := g1.1 hlt
      have k := parents_any q (by omega) wr
      obtain ⟨p, hp⟩ : ∃ p, p = (q + 15) / 16 := ⟨_, rfl⟩
      rw [← hp] at k
      have hpc : p = lc n c := by
        rw [hp, hq]
        obtain ⟨d, rfl⟩ : ∃ d, c = d + 1 := ⟨c - 1, by omega⟩
        rfl
      have hpq : p < q := by omega
      replace k := hideit k
      replace hpc := hideit hpc
      replace hq := hideit hq
      clear hp g1
      go_upto_region 7 with (go_at_call 32; refine k.out.mono ?_; rintro e w9 ⟨rfl, hw9⟩; rw [hw9]; clear hw9)
      clear k
      have hN' : LieAt ⟨wr.heap.size, 0, none⟩ 1 (fun _ => .int .i64 (p : Int)) (wr.alloc (.cells #[.int .i64 (p : Int)] 3)) := lie_us wr 1 _ _ (fun j hj => by
        have : j = 0 := by omega
        subst this
        rfl) 3
      have hX : Ext wr (wr.alloc (.cells #[.int .i64 (p : Int)] 3)) := (Below.refl _ _).alloc (Nat.le_refl _) _
      have hO2 := hideit (hO.out.ext hX)
      have hE2 := hideit (Ext.trans hE.out hX)
      replace hN' := hideit hN'
      clear hO hE hX
      refine wp_region_lit ?_
      refine wpList_run rfl (u4) (by simp [go_sem]) ?_
      simp only [Act.put, List.setIfInBounds_toArray, List.set_cons_zero, List.set_cons_succ]
      refine wpList_run rfl (.int .i64 (p : Int)) (by simp [go_sem]) ?_
      simp only [Act.put, List.setIfInBounds_toArray, List.set_cons_zero, List.set_cons_succ]
      refine wpList_to rfl (.slice (some ⟨wr.heap.size, 0, none⟩) 1 1) (wr.alloc (.cells #[.int .i64 (p : Int)] 3)) (by simp [go_sem]) ?_
      simp only [Act.put, List.setIfInBounds_toArray, List.set_cons_zero, List.set_cons_succ]
      refine wpList_growE (n := c) (base := w.heap.size) elem34 rfl (.tmp 19) (.tmp 21) rfl rfl hO2.out ⟨wr.heap.size, 0, none⟩ 1 1 (fun _ => .int .i64 (p : Int)) (lcV n) rfl hN'.out (fun _ _ => rfl) (fun _ _ => rfl) (fun j hj => by rw [show j = 0 by omega]; unfold lcV; rw [hpc.out]; rfl) (by omega) (by omega) (Below.size hE2.out) ?_
      intro v' Y hO' hg'
      have hE3 := hideit (grownE hE2.out hO2.out (Nat.le_refl _) hg')
      replace hO' := hideit hO'
      clear hO2 hN' hE2 hg'
      simp only [Act.put, List.setIfInBounds_toArray, List.set_cons_zero, List.set_cons_succ]
      go_wp2
      exact ⟨⟨p, c + 1, rfl, by omega, by omega, hpc.out, hO'.out, hE3.out⟩, by simp [intOf]; omega⟩
    · have q1 : ¬ (1 : Int) < (q : Int) := by omega
      have hcN : c = N := by omega
      subst hcN
      clear hq g1 hN hc
      go_wp2
      go_ret
      exact ⟨_, rfl, hO.out, hE.out⟩
end Go.Proofs.YtapmheocllicnaaDoor
