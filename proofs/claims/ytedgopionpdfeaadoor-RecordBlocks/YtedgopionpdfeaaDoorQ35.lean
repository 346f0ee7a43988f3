/-
  The document's fill and its mark. The document's mark.
-/
import Derived.Test.YtedgopionpdfeaaDoorQ34
import Derived.Test.YtedgopionpdfeaaDoorQ18
import Derived.ArgAppend
namespace Go.Proofs.YtedgopionpdfeaaDoor
open Go.RowKit Go.BigFrame
theorem ty5 : ∃ i, Tryd.prog.info? 5 = some i ∧ i.zero = some (.int .u8 0) ∧ i.size = 1 ∧ i.bytes = 1 := by
  have h : (Tryd.prog.info? 5).map (fun i => (i.zero, i.size, i.bytes)) = some (some (.int .u8 0), 1, 1) := by kernel_rfl
  cases hi : Tryd.prog.info? 5 with
  | none => rw [hi] at h; cases h
  | some i =>
    rw [hi] at h
    simp only [Option.map_some, Option.some.injEq, Prod.mk.injEq] at h
    exact ⟨i, rfl, h.1, h.2.1, h.2.2⟩
set_option maxRecDepth 20000 in
set_option maxHeartbeats 2000000 in
theorem rfill_any (base n : Nat) (v : Value) (f : Nat → BitVec 8) (w : World) (h : OwnB base 5 v n (yv f) w) (h0 : 0 < n) (hn : n < 512) (hb : base ≤ w.heap.size) :
    Calls Tryd.prog 47 #[v] w fun e w' => ∃ u, e = .returned u ∧ OwnB base 5 u 512 (yv (padF f n)) w' ∧ Below base w w' := by
  obtain ⟨g, cap, rfl, hg, hc, _, hR⟩ := h.lies h0
  clear hR
  replace h := hideit h
  have hsub : IntKind.i64.wrap ((512 : Int) - (n : Int)) = ((512 - n : Nat) : Int) := by rw [IntKind.wrap_i64]; omega
  go_enter Tryd.func47, Tryd.ntmps47
  go_upto_region 1 with (fail)
  refine wp_region_lit ?_
  refine wpList_run rfl (.slice (some ⟨g, 0, none⟩) n cap) (by simp [go_sem]) ?_
  simp only [Act.put, List.setIfInBounds_toArray, List.set_cons_zero, List.set_cons_succ]
  refine wpList_run rfl (.slice (some ⟨g, 0, none⟩) n cap) (by simp [go_sem]) ?_
  simp only [Act.put, List.setIfInBounds_toArray, List.set_cons_zero, List.set_cons_succ]
  refine wpList_run rfl (.int .i64 (n : Int)) (by simp [go_sem]) ?_
  simp only [Act.put, List.setIfInBounds_toArray, List.set_cons_zero, List.set_cons_succ]
  refine wpList_run rfl (.int .i64 ((512 - n : Nat) : Int)) (by simp [go_sem, hsub]) ?_
  simp only [Act.put, List.setIfInBounds_toArray, List.set_cons_zero, List.set_cons_succ]
  obtain ⟨i5, hi5⟩ := ty5
  refine wpList_zeros w (n := n) (base := base) (f := yv (padF f n)) (.int .u8 0) i5 (.int .u8 0) Tryd.underlying34 Tryd.underlying3 hi5.1 hi5.2.1 hi5.2.2.1 hi5.2.2.2 rfl rfl rfl (.tmp 3) (.tmp 6) rfl rfl h.out h0 (512 - n) (by omega) rfl (fun j hj => by simp only [yv]; unfold padF; rw [if_pos hj]) (fun j hj => by simp only [yv]; unfold padF; rw [if_neg (by omega)]; rfl) (by omega) hb ?_
  intro u X hO hgr
  rw [show n + (512 - n) = 512 by omega] at hO
  have hB := hideit (below_grown hb hgr fun q hq => (h.out.lt q hq).1)
  obtain ⟨g9, cap9, rfl, _⟩ := hO.lies (by decide)
  replace hO := hideit hO
  clear h hgr hi5
  simp only [Act.put, List.setIfInBounds_toArray, List.set_cons_zero, List.set_cons_succ]
  go_wp2
  go_ret
  exact ⟨_, rfl, hO.out, hB.out⟩
theorem rmark_no (w : World) : Calls Tryd.prog 20 #[.int .u64 ((0#64).toNat : Int)] w fun e w' => e = .returned (.tuple #[.slice none 0 0, .int .i64 1]) ∧ w' = w := by
  go_enter Tryd.func20, Tryd.ntmps20
  go_wp2
  go_ret2
  exact ⟨rfl, rfl⟩
end Go.Proofs.YtedgopionpdfeaaDoor
namespace Go.Proofs.YtedgopionpdfeaaDoor
open Go.RowKit Go.BigFrame
set_option maxRecDepth 20000 in
/-- an append to bytes that have no room: a list of one's own comes of it -/
theorem wpList_growC {ops : Array Oper} {rest : List Oper} {o : Oper} {a : Act} {Q : Exit → Act → World → Prop} {w : World} (hg : o.guard = none) (s x : Operand) (ho : o.op = .call { callee := .builtin .append, args := #[s, x], argTypes := #[34, 34] })
    (ad0 : Addr) (n : Nat) (f : Nat → BitVec 8) (hs : a.eval s = .slice (some ad0) n n) (hf : LieAt ad0 n (yv f) w) (ad : Addr) (m c : Nat) (b : Nat → BitVec 8) (hx : a.eval x = .slice (some ad) m c) (hb : LieAt ad m (yv b) w) (hm : 0 < m) (hnm : n + m ≤ 1000000)
    (h : ∀ v' w', OwnB w.heap.size 5 v' (n + m) (yv (catF f n b)) w' → Ext w w' → wpList Tryd.prog ops Q rest (a.put o.dst v') w') : wpList Tryd.prog ops Q (o :: rest) a w := by
  obtain ⟨i, z, e1, e2, e3, e4, e5⟩ := elem22.info
  refine wpList_append_grows w hg s x 34 ho 5 i z 1 1 elem22.slice e1 e2 e3 e4 e5 (by decide) (some ad0) n n (row n (yv f)) hs (fun h => by cases h) (by rw [row_length, Nat.mul_one]) (fun b0 hb0 j u hj => ?_) ad m c (row m (yv b)) hx (by rw [row_length, Nat.mul_one]) (fun j u hj => ?_) (fun u hu => ?_) (by omega) (by unfold maxLen; omega) (by omega) ?_
  · injection hb0 with hb0
    subst hb0
    obtain ⟨hj', rfl⟩ := row_some hj
    exact hf.1 j hj'
  · obtain ⟨hj', rfl⟩ := row_some hj
    exact hb.1 j hj'
  · obtain ⟨j, _, rfl⟩ := List.mem_map.1 hu
    rfl
  · intro v' w' h1 h2
    refine h v' w' ?_ ⟨h2.os, h2.tape, h2.output, h2.size, fun k hk => h2.block k hk (by simp)⟩
    unfold OwnB
    rw [row_append n m (yv f) (yv b) (yv (catF f n b)) (fun j hj => by simp only [yv]; unfold catF; rw [if_pos hj]) (fun j hj => by simp only [yv]; unfold catF; rw [if_neg (by omega), Nat.add_sub_cancel_left])] at h1
    exact h1
set_option maxRecDepth 20000 in
set_option maxHeartbeats 4000000 in
theorem rmark_any (x : BitVec 64) (hx : x ≠ 0#64) (w : World) : Calls Tryd.prog 20 #[.int .u64 (x.toNat : Int)] w fun e w' => ∃ v, e = .returned (.tuple #[v, .int .i64 0]) ∧ BV v 512 (markF x) w' ∧ Ext w w' := by
  have hx0 : ¬ x.toNat = 0 := fun h => hx (u0.1 h)
  obtain ⟨w1, hcv, hB1, hX1⟩ := constB w #[.int .u8 77, .int .u8 65, .int .u8 82, .int .u8 75] 4 (labF sMK) (fun j hj => by rcases (by omega : j = 0 ∨ j = 1 ∨ j = 2 ∨ j = 3) with rfl | rfl | rfl | rfl <;> rfl)
  have hL1 : LieAt ⟨w.heap.size, 0, none⟩ 4 (yv (labF sMK)) w1 := by
    rcases hB1 with ⟨h, _⟩ | ⟨a, c, h, _, hl⟩
    · cases h
    · injection h with h
      injection h with h
      subst h
      exact hl
  clear hB1
  go_enter Tryd.func20, Tryd.ntmps20
  go_upto_region 3 with (fail)
  refine wp_region_lit ?_
  refine wpList_to rfl (.slice (some ⟨w.heap.size, 0, none⟩) 4 4) (w.alloc (.cells #[.int .u8 77, .int .u8 65, .int .u8 82, .int .u8 75] 5)) (by simp [go_sem]) ?_
  simp only [Act.put, List.setIfInBounds_toArray, List.set_cons_zero, List.set_cons_succ]
  refine wpList_to rfl (.slice (some ⟨w.heap.size, 0, none⟩) 4 4) w1 (by simp [go_sem, hcv]) ?_
  simp only [Act.put, List.setIfInBounds_toArray, List.set_cons_zero, List.set_cons_succ]
  have kn := hideit (number_any 8 x w1 (by decide))
  clear hcv
  refine wpList_run rfl (.int .u64 (x.toNat : Int)) (by simp [go_sem]) ?_
  simp only [Act.put, List.setIfInBounds_toArray, List.set_cons_zero, List.set_cons_succ]
  refine wpList_call rfl (by simp [go_sem]) ((kn.out).mono ?_)
  rintro e w2 ⟨v2, rfl, hv2, hX2⟩
  refine ⟨_, rfl, ?_⟩
  simp only [Act.put, List.setIfInBounds_toArray, List.set_cons_zero, List.set_cons_succ]
  have hE2 := Ext.trans hX1 hX2
  obtain ⟨b2, c2, rfl, _, _, _, hR2⟩ := hv2.lies (by decide)
  have hq0 : w.heap.size ≤ w2.heap.size := Below.size hE2
  refine wpList_growC rfl (.tmp 9) (.tmp 11) rfl ⟨w.heap.size, 0, none⟩ 4 (labF sMK) rfl (hL1.carry hX2) ⟨b2, 0, none⟩ 8 c2 (byB x) rfl (RowAt.lie hR2 8 (Nat.le_refl _)) (by decide) (by decide) ?_
  intro v3 w3 hO3 hX3
  replace hO3 : OwnB w2.heap.size 5 v3 12 (yv (begF sMK x)) w3 := hO3
  obtain ⟨q0, hq⟩ : ∃ q, q = w2.heap.size := ⟨_, rfl⟩
  rw [← hq] at hO3 hq0
  have hE3 : Ext w w3 := Ext.trans hE2 hX3
  have hq3 : q0 ≤ w3.heap.size := by rw [hq]; exact Below.size hX3
  obtain ⟨b3, c3, rfl, _⟩ := hO3.lies (by decide)
  simp only [Act.put, List.setIfInBounds_toArray, List.set_cons_zero, List.set_cons_succ]
  refine wpList_run rfl (.slice (some ⟨b3, 0, none⟩) 12 c3) (by simp [go_sem]) ?_
  simp only [Act.put, List.setIfInBounds_toArray, List.set_cons_zero, List.set_cons_succ]
  clear kn hL1 hX1 hX2 hv2 hE2 hX3 hR2 hq
  have ks := hideit (rsumV _ 12 (begF sMK x) w3 hO3.bv (by decide))
  replace hO3 := hideit hO3
  replace hE3 := hideit hE3
  go_upto_region 4 with (fail)
  refine wp_region_lit ?_
  refine wpList_run rfl (.slice (some ⟨b3, 0, none⟩) 12 c3) (by simp [go_sem]) ?_
  simp only [Act.put, List.setIfInBounds_toArray, List.set_cons_zero, List.set_cons_succ]
  refine wpList_call rfl (by simp [go_sem]) ((ks.out).mono ?_)
  rintro e w4 ⟨rfl, hX4⟩
  refine ⟨_, rfl, ?_⟩
  simp only [Act.put, List.setIfInBounds_toArray, List.set_cons_zero, List.set_cons_succ]
  have D1 := RowAt.new w4 32 (yv fun _ => 0#8) 74
  have D2 := D1.cells (g' := yv (shaF (begF sMK x) 12))
  have hX5 : Ext w4 ((w4.alloc (.cells (row 32 (yv fun _ => 0#8)).toArray 74)).setCells w4.heap.size 0 (row 32 (yv (shaF (begF sMK x) 12)))) := below_setCells w4.heap.size (Nat.le_refl _) _ 0 _ ((Below.refl _ _).alloc (Nat.le_refl _) _)
  have hO5 := hO3.out.ext (Ext.trans hX4 hX5)
  have hE5 := Ext.trans hE3.out (Ext.trans hX4 hX5)
  have hz5 := Nat.le_trans hq3 (Below.size (Ext.trans hX4 hX5))
  refine wpList_to rfl (.pointer (some ⟨w4.heap.size, 0, none⟩)) (w4.alloc (.cells (row 32 (yv fun _ => 0#8)).toArray 74)) (exec_alloc74 rfl) ?_
  simp only [Act.put, List.setIfInBounds_toArray, List.set_cons_zero, List.set_cons_succ]
  refine wpList_store_mid rfl 74 (.tmp 5) (.tmp 14) rfl w4.heap.size 0 (row 32 (yv (shaF (begF sMK x) 12))).toArray rfl rfl (by rw [row_size]; exact D1.there) (by rw [row_size]; exact info74) (row_one fun j _ => rfl) ?_
  rw [show (row 32 (yv (shaF (begF sMK x) 12))).toArray.toList = row 32 (yv (shaF (begF sMK x) 12)) from rfl]
  generalize (w4.alloc (.cells (row 32 (yv fun _ => 0#8)).toArray 74)).setCells w4.heap.size 0 (row 32 (yv (shaF (begF sMK x) 12))) = w5 at *
  have hb3 : b3 ≠ w4.heap.size := by
    have := (hO3.out.lt b3 rfl).2
    have := Below.size hX4
    omega
  generalize w4.heap.size = g at *
  clear ks D1 hX4 hX5 hO3 hE3
  have hcut := cut74 g w5
  simp only [Act.put]
  go_upto_region 5 with (fail)
  refine wp_region_lit ?_
  refine wpList_run rfl (.slice (some ⟨b3, 0, none⟩) 12 c3) (by simp [go_sem]) ?_
  simp only [Act.put, List.setIfInBounds_toArray, List.set_cons_zero, List.set_cons_succ]
  refine wpList_run rfl (.slice (some ⟨g, 0, none⟩) 32 32) (by simp [go_sem, hcut]) ?_
  simp only [Act.put, List.setIfInBounds_toArray, List.set_cons_zero, List.set_cons_succ]
  refine wpList_growV (n := 12) (base := q0) elem22 rfl (.tmp 15) (.tmp 16) rfl rfl hO5 (.slice (some ⟨g, 0, none⟩) 32 32) 32 (shaF (begF sMK x) 12) (yv (catF (begF sMK x) 12 (shaF (begF sMK x) 12))) rfl (bv_row D2) (fun j hj => by simp only [catF, yv, if_pos hj]) (fun j hj => by simp only [catF, yv, if_neg (show ¬ 12 + j < 12 by omega), show 12 + j - 12 = j by omega]) (by decide) hz5 ?_
  intro v6 w6 hO6 hg6
  replace hO6 : OwnB q0 5 v6 44 (yv (catF (begF sMK x) 12 (shaF (begF sMK x) 12))) w6 := hO6
  have hE6 : Ext w w6 := Below.trans hE5 (below_grown (Below.size hE5) hg6 fun k hk => by have := (hO5.lt k hk).1; omega)
  have hz6 : q0 ≤ w6.heap.size := Nat.le_trans hz5 hg6.size
  have kf := hideit (rfill_any q0 44 v6 _ w6 hO6 (by decide) (by decide) hz6)
  obtain ⟨b6, c6, rfl, _⟩ := hO6.lies (by decide)
  clear hcut D2 hO5 hE5 hg6 hO6 hb3
  simp only [Act.put, List.setIfInBounds_toArray, List.set_cons_zero, List.set_cons_succ]
  refine wpList_call rfl (by simp [go_sem]) ((kf.out).mono ?_)
  rintro e w7 ⟨u7, rfl, hO7, hX7⟩
  refine ⟨_, rfl, ?_⟩
  simp only [Act.put, List.setIfInBounds_toArray, List.set_cons_zero, List.set_cons_succ]
  have hE7 : Hid (Ext w w7) := by
    exact Below.trans hE6 (Below.mono hX7 hq0)
  obtain ⟨b7, c7, rfl, _⟩ := hO7.lies (by decide)
  have hB7 : Hid (BV (.slice (some ⟨b7, 0, none⟩) 512 c7) 512 (markF x) w7) := hO7.bv
  clear kf hO7 hX7 hE6
  refine wpList_run rfl (.slice (some ⟨b7, 0, none⟩) 512 c7) (by simp [go_sem]) ?_
  simp only [Act.put, List.setIfInBounds_toArray, List.set_cons_zero, List.set_cons_succ]
  refine wpList_run rfl (.int .i64 0) (by simp [go_sem]) ?_
  simp only [Act.put, List.setIfInBounds_toArray, List.set_cons_zero, List.set_cons_succ]
  go_wp2
  go_ret2
  exact ⟨_, rfl, hB7.out, hE7.out⟩
end Go.Proofs.YtedgopionpdfeaaDoor
