/-
  What the tag of keys is of, by the document; the document's block of keys.
-/
import Derived.Test.YtomalmnpojcloaaRk
namespace Go.Proofs.Ytomalmnpojcloaa
open Go.RowKit Go.BigFrame
theorem by_wrap (y : BitVec 64) (k : Nat) : IntKind.u8.wrap ((y.toNat : Int) / ((2 ^ (8 * k) : Nat) : Int)) = ((byB y k).toNat : Int) := by
  rw [IntKind.wrap_u8, byB_nat, ← Int.natCast_ediv]
  omega
theorem se_at (n : Nat) (xs : Nat → Int) (fs : Nat → Nat → BitVec 8) (i j : Nat) (hj : j < 68) : seF n xs fs (5 + 68 * i + j) = oneB (xB xs i) (fs i) j := by
  unfold seF
  rw [if_neg (by omega), if_neg (by omega)]
  unfold manyB
  rw [show (5 + 68 * i + j - 5) / 68 = i by omega, show (5 + 68 * i + j - 5) % 68 = j by omega]
theorem kboxed (u : Value) (t : Nat → BitVec 8) (w : World) : RowAt w.heap.size 33 (kyv u t) (w.alloc (.cells (row 33 (kyv u t)).toArray 37)) ∧ Ext w (w.alloc (.cells (row 33 (kyv u t)).toArray 37)) := ⟨RowAt.new w 33 _ 37, (Below.refl _ _).alloc (Nat.le_refl _) _⟩
set_option maxRecDepth 20000 in
set_option maxHeartbeats 2000000 in
theorem rseal_bad (u : Value) (n : Nat) (xs : Nat → Int) (fs : Nat → Nat → BitVec 8) (t : Nat → BitVec 8) (w : World) (h : EV u n xs fs w) (hw : inW n xs) (hn : n ≤ 9223372036854775807) (hb : ¬ okE n xs) :
    Calls Try.prog 16 #[.agg (row 33 (kyv u t)).toArray] w fun e w' => e = .returned (.tuple #[.slice none 0 0, .int .i64 1]) ∧ Ext w w' := by
  obtain ⟨H0, hE0⟩ := kboxed u t w
  have k := hideit (right_any u n xs fs t _ (h.ext hE0) hw hn false ⟨fun hh => (by cases hh), fun hh => absurd hh hb⟩)
  replace H0 := hideit H0
  replace hE0 := hideit hE0
  clear h hw hb
  go_enter Try.func16, Try.ntmps16
  go_upto_region 1 with (fail)
  generalize w.alloc (.cells (row 33 (kyv u t)).toArray 37) = w1 at *
  refine wp_region_lit ?_
  refine wpList_load_mid rfl 37 (.tmp 1) rfl _ 0 rfl (row 33 (kyv u t)) _ H0.out.range Try.underlying37 rfl (by rw [row_length]; exact info37) ?_
  simp only [Act.put, List.setIfInBounds_toArray, List.set_cons_zero, List.set_cons_succ]
  refine wpList_call rfl (by simp [go_sem]; exact ⟨rfl, rfl⟩) ?_
  refine k.out.mono ?_
  rintro e w2 ⟨rfl, hX⟩
  refine ⟨_, rfl, ?_⟩
  simp only [Act.put, List.setIfInBounds_toArray, List.set_cons_zero, List.set_cons_succ]
  have hE2 := hideit (Ext.trans hE0.out hX)
  clear hX hE0 H0 k
  go_wp2
  go_ret2
  exact ⟨rfl, hE2.out⟩
set_option maxRecDepth 20000 in
set_option maxHeartbeats 2000000 in
theorem rseal_ok (u : Value) (n : Nat) (xs : Nat → Int) (fs : Nat → Nat → BitVec 8) (t : Nat → BitVec 8) (w : World) (h : EV u n xs fs w) (hw : inW n xs) (hb : okE n xs) :
    Calls Try.prog 16 #[.agg (row 33 (kyv u t)).toArray] w fun e w' => ∃ v, e = .returned (.tuple #[v, .int .i64 0]) ∧ OwnB w.heap.size 5 v (5 + 68 * n) (yv (seF n xs fs)) w' ∧ Ext w w' := by
  have hn12 := hb.1
  have hn0' : 0 < n := by omega
  have n2 : n ≤ 2 := by omega
  have n3 : (n : Int) ≤ 2 := by omega
  have n4 : (0 : Int) ≤ (n : Int) := by omega
  obtain ⟨H0, hE0⟩ := kboxed u t w
  have k := hideit (right_any u n xs fs t _ (h.ext hE0) hw (by omega) true ⟨fun _ => hb, fun _ => rfl⟩)
  rcases h with ⟨_, hn0⟩ | ⟨a, o, cap, rfl, hcap, hEp⟩
  · omega
  have P0 := hideit (hEp.ext hE0)
  have haw := hideit (hEp.lt (by omega))
  have hb' := hideit hb
  replace H0 := hideit H0
  replace hE0 := hideit hE0
  clear hw hb hn12 hEp
  go_enter Try.func16, Try.ntmps16
  go_upto_region 1 with (fail)
  generalize w.alloc (.cells (row 33 (kyv (.slice (some ⟨a, o, none⟩) n cap) t)).toArray 37) = w1 at *
  obtain ⟨c, hc⟩ : ∃ c, c = w.heap.size := ⟨_, rfl⟩
  rw [← hc] at H0 ⊢
  clear hc
  refine wp_region_lit ?_
  refine wpList_load_mid rfl 37 (.tmp 1) rfl _ 0 rfl (row 33 (kyv (.slice (some ⟨a, o, none⟩) n cap) t)) _ H0.out.range Try.underlying37 rfl (by rw [row_length]; exact info37) ?_
  simp only [Act.put, List.setIfInBounds_toArray, List.set_cons_zero, List.set_cons_succ]
  refine wpList_call rfl (by simp [go_sem]; exact ⟨rfl, rfl⟩) ?_
  refine k.out.mono ?_
  rintro e w2 ⟨rfl, hX⟩
  refine ⟨_, rfl, ?_⟩
  simp only [Act.put, List.setIfInBounds_toArray, List.set_cons_zero, List.set_cons_succ]
  have H2 := hideit (H0.out.carry hX)
  have P2 := hideit (P0.out.ext hX)
  have hE2 := hideit (Ext.trans hE0.out hX)
  clear hX hE0 H0 P0 k
  go_upto_region 3 with (fail)
  obtain ⟨x3, hcv3, hB3, hX3⟩ := constB w2 #[.int .u8 75, .int .u8 69, .int .u8 89, .int .u8 83] 4 (bT [75, 69, 89, 83]) (fun j hj => by
    rcases (by omega : j = 0 ∨ j = 1 ∨ j = 2 ∨ j = 3) with rfl | rfl | rfl | rfl <;> rfl)
  refine wp_region_lit ?_
  refine wpList_to rfl (.slice (some ⟨w2.heap.size, 0, none⟩) 4 4) (w2.alloc (.cells #[.int .u8 75, .int .u8 69, .int .u8 89, .int .u8 83] 5)) (by simp [go_sem]) ?_
  simp only [Act.put, List.setIfInBounds_toArray, List.set_cons_zero, List.set_cons_succ]
  refine wpList_to rfl (.slice (some ⟨w2.heap.size, 0, none⟩) 4 4) (x3) (by simp [go_sem, hcv3]) ?_
  simp only [Act.put, List.setIfInBounds_toArray, List.set_cons_zero, List.set_cons_succ]
  have H3 := hideit (H2.out.carry hX3)
  have P3 := hideit (P2.out.ext hX3)
  have hE3 := hideit (Ext.trans hE2.out hX3)
  obtain ⟨k0, hk0⟩ : ∃ k0, k0 = w2.heap.size := ⟨_, rfl⟩
  rw [← hk0] at hB3 ⊢
  have hL3 : Hid (LieAt ⟨k0, 0, none⟩ 4 (yv (bT [75, 69, 89, 83])) x3) := hideit (by
    rcases hB3 with ⟨h, _⟩ | ⟨ad, cp, h, _, hl⟩
    · cases h
    · injection h with h _ _
      injection h with h
      subst h
      exact hl)
  clear H2 P2 hE2 hX3 hcv3 hB3 hk0
  have e0 : x3.cell? ⟨c, 0, none⟩ = some (.slice (some ⟨a, o, none⟩) n cap) := H3.out.1 0 (by decide)
  have hnb : IntKind.u8.wrap (n : Int) = ((BitVec.ofNat 8 n).toNat : Int) := by rw [IntKind.wrap_u8, BitVec.toNat_ofNat]; omega
  have hE4 : Ext x3 (x3.alloc (.cells #[.int .u8 ((BitVec.ofNat 8 n).toNat : Int)] 5)) := (Below.refl _ _).alloc (Nat.le_refl _) _
  have hN4 := lie_new x3 1 #[.int .u8 ((BitVec.ofNat 8 n).toNat : Int)] 5 (0, 0) (fun _ => BitVec.ofNat 8 n) (fun j hj => by
    obtain rfl : j = 0 := by omega
    rfl)
  refine wpList_run rfl (.pointer (some ⟨c, 0, none⟩)) (by simp [go_sem]) ?_
  simp only [Act.put, List.setIfInBounds_toArray, List.set_cons_zero, List.set_cons_succ]
  refine wpList_run rfl (.slice (some ⟨a, o, none⟩) n cap) (by simp [go_sem, e0]) ?_
  simp only [Act.put, List.setIfInBounds_toArray, List.set_cons_zero, List.set_cons_succ]
  refine wpList_run rfl (.int .i64 (n : Int)) (by simp [go_sem]) ?_
  simp only [Act.put, List.setIfInBounds_toArray, List.set_cons_zero, List.set_cons_succ]
  refine wpList_run rfl (.int .u8 ((BitVec.ofNat 8 n).toNat : Int)) (by simp [go_sem, hnb]) ?_
  simp only [Act.put, List.setIfInBounds_toArray, List.set_cons_zero, List.set_cons_succ]
  refine wpList_to rfl (.slice (some ⟨x3.heap.size, 0, none⟩) 1 1) (x3.alloc (.cells #[.int .u8 ((BitVec.ofNat 8 n).toNat : Int)] 5)) (by simp [go_sem]) ?_
  simp only [Act.put, List.setIfInBounds_toArray, List.set_cons_zero, List.set_cons_succ]
  have H4 := hideit (H3.out.carry hE4)
  have P4 := hideit (P3.out.ext hE4)
  have hE04 := hideit (Ext.trans hE3.out hE4)
  have hL4 := hideit (hL3.out.carry hE4)
  clear H3 P3 hE3 hL3 hE4 hnb e0
  obtain ⟨w4, hw4⟩ : ∃ w4, w4 = x3.alloc (.cells #[.int .u8 ((BitVec.ofNat 8 n).toNat : Int)] 5) := ⟨_, rfl⟩
  rw [← hw4] at H4 P4 hE04 hL4 hN4 ⊢
  clear hw4
  refine wpList_growC rfl (.tmp 11) (.tmp 16) rfl ⟨k0, 0, none⟩ 4 (bT [75, 69, 89, 83]) rfl hL4.out ⟨x3.heap.size, 0, none⟩ 1 1 (fun _ => BitVec.ofNat 8 n) rfl hN4 (by decide) (by decide) ?_
  intro v5 w5 hO5 hX5
  have H5 := hideit (H4.out.carry hX5)
  have P5 := hideit (P4.out.ext hX5)
  have hE5 := hideit (Ext.trans hE04.out hX5)
  have hcB : Hid (c < w4.heap.size) := hideit H4.out.2.2
  have haB : Hid (a < w4.heap.size) := hideit (P4.out.lt hn0')
  have hwB : Hid (w.heap.size ≤ w4.heap.size) := hideit (Below.size hE04.out)
  have O5 := hideit (hO5.congr (g' := yv (seF n xs fs)) fun j hj => by
    simp only [yv]
    unfold catF seF
    by_cases h : j < 4
    · rw [if_pos h, if_pos h]
    · rw [if_neg h, if_neg h, if_pos (by omega)])
  have hB5 : Hid (w4.heap.size ≤ w5.heap.size) := hideit (Below.size hX5)
  obtain ⟨g5, c5, rfl, _⟩ := hO5.lies (by decide)
  clear hO5 H4 P4 hE04 hL4 hN4 hX5
  obtain ⟨B0, hB0⟩ : ∃ B0, B0 = w4.heap.size := ⟨_, rfl⟩
  rw [← hB0] at O5 hcB haB hwB hB5
  clear hB0
  simp only [Act.put, List.setIfInBounds_toArray, List.set_cons_zero, List.set_cons_succ]
  go_wp2
  go_loopw [4, 5] (fun v iv X => ∃ i : Nat, i ≤ n ∧ iv = .int .i64 (i : Int) ∧ OwnB B0 5 v (5 + 68 * i) (yv (seF n xs fs)) X ∧ RowAt c 33 (kyv (.slice (some ⟨a, o, none⟩) n cap) t) X ∧ EpAt a o n xs fs X ∧ Ext w X ∧ B0 ≤ X.heap.size) (fun _ iv _ => n - (intOf iv).toNat)
  case atStart => exact ⟨0, by omega, rfl, O5.out, H5.out, P5.out, hE5.out, hB5.out⟩
  case round =>
    clear O5 H5 P5 hE5 hB5
    obtain ⟨i, hi, rfl, hO, hH, hP, hE, hB⟩ := hrel
    have e0 : wr.cell? ⟨c, 0, none⟩ = some (.slice (some ⟨a, o, none⟩) n cap) := hH.1 0 (by decide)
    obtain ⟨gv, cv, rfl, _⟩ := hO.lies (by omega)
    have O1 := hideit hO
    have H1 := hideit hH
    have P1 := hideit hP
    have hE1 := hideit hE
    have hB1 := hideit hB
    clear hO hH hP hE hB
    by_cases hlt : i < n
    · have i0 : (0 : Int) ≤ (i : Int) := by omega
      have i1 : (i : Int) < (n : Int) := by omega
      obtain ⟨y, hy⟩ : ∃ y, y = xB xs i := ⟨_, rfl⟩
      obtain ⟨q1, q2⟩ := xB_nat hb'.out i hlt
      have hyx : Hid (xs i = (y.toNat : Int)) := hideit (by rw [hy]; exact q1)
      have hy' := hideit hy
      clear q1 q2 hy
      obtain ⟨M1, hA1, M2, hA2⟩ := made51 wr (xs i) (fs i)
      obtain ⟨s, hs⟩ : ∃ s, s = wr.heap.size := ⟨_, rfl⟩
      rw [← hs] at M1 M2 hA2
      go_upto_region 7 with (fail)
      refine wp_region_lit ?_
      refine wpList_run rfl (.pointer (some ⟨c, 0, none⟩)) (by simp [go_sem]) ?_
      simp only [Act.put, List.setIfInBounds_toArray, List.set_cons_zero, List.set_cons_succ]
      refine wpList_run rfl (.slice (some ⟨a, o, none⟩) n cap) (by simp [go_sem, e0]) ?_
      simp only [Act.put, List.setIfInBounds_toArray, List.set_cons_zero, List.set_cons_succ]
      refine wpList_run rfl (.int .i64 (i : Int)) (by simp [go_sem]) ?_
      simp only [Act.put, List.setIfInBounds_toArray, List.set_cons_zero, List.set_cons_succ]
      refine wpList_run rfl (.pointer (some ⟨a, o + i * 65, none⟩)) (by simp [go_sem, i0, i1]) ?_
      simp only [Act.put, List.setIfInBounds_toArray, List.set_cons_zero, List.set_cons_succ]
      refine wpList_load_mid rfl 51 (.tmp 28) rfl a (o + i * 65) rfl (row 65 (epv (xs i) (fs i))) _ (P1.out.range i hlt) Try.underlying51 rfl (by rw [row_length]; exact info51) ?_
      simp only [Act.put, List.setIfInBounds_toArray, List.set_cons_zero, List.set_cons_succ]
      refine wpList_to rfl (.pointer (some ⟨s, 0, none⟩)) (wr.alloc (.cells zk51 51)) (by rw [hs]; exact alloc51 rfl) ?_
      simp only [Act.put, List.setIfInBounds_toArray, List.set_cons_zero, List.set_cons_succ]
      refine wpList_store_mid rfl 51 (.tmp 6) (.tmp 29) rfl s 0 (row 65 (epv (xs i) (fs i))).toArray rfl rfl (by rw [row_size]; exact M1.there) (by rw [row_size]; exact info51) (row_one (epv_one _ _)) ?_
      rw [show (row 65 (epv (xs i) (fs i))).toArray.toList = row 65 (epv (xs i) (fs i)) from rfl]
      have hsv : Hid ((Value.slice (some ⟨gv, 0, none⟩) (5 + 68 * i) cv).ownBlock ≠ some s) := hideit (fun hh => by have := (O1.out.lt s hh).2; omega)
      have hsB : Hid (B0 ≤ s) := hideit (by rw [hs]; exact hB1.out)
      have O2 := hideit (O1.out.ext hA2)
      have H2 := hideit (H1.out.carry hA2)
      have P2 := hideit (P1.out.ext hA2)
      have S2 := hideit M2
      have hE2 := hideit (Ext.trans hE1.out hA2)
      have hB2 : Hid (B0 ≤ ((wr.alloc (.cells zk51 51)).setCells s 0 (row 65 (epv (xs i) (fs i)))).heap.size) := hideit (Nat.le_trans hB1.out (Below.size hA2))
      clear M1 hA1 M2 hA2 O1 H1 P1 hE1 hB1 e0
      clear hs
      generalize (wr.alloc (.cells zk51 51)).setCells s 0 (row 65 (epv (xs i) (fs i))) = w6 at *
      simp only [Act.put]
      go_upto_region 8 with (fail)
      have e1 : w6.cell? ⟨s, 0, none⟩ = some (.int .i64 (y.toNat : Int)) := by rw [← hyx.out]; exact S2.out.1 0 (by decide)
      have b0 := by_wrap y 0
      have b1 : IntKind.u8.wrap ((y.toNat : Int) / 256) = ((byB y 1).toNat : Int) := by_wrap y 1
      have b2 : IntKind.u8.wrap ((y.toNat : Int) / 65536) = ((byB y 2).toNat : Int) := by_wrap y 2
      have b3 : IntKind.u8.wrap ((y.toNat : Int) / 16777216) = ((byB y 3).toNat : Int) := by_wrap y 3
      simp only [Nat.mul_zero, Nat.pow_zero, Int.natCast_one, Int.ediv_one] at b0
      have hy63 := y.isLt
      refine wp_region_lit ?_
      refine wpList_run rfl (.slice (some ⟨gv, 0, none⟩) (5 + 68 * i) cv) (by simp [go_sem]) ?_
      simp only [Act.put, List.setIfInBounds_toArray, List.set_cons_zero, List.set_cons_succ]
      refine wpList_run rfl (.pointer (some ⟨s, 0, none⟩)) (by simp [go_sem]) ?_
      simp only [Act.put, List.setIfInBounds_toArray, List.set_cons_zero, List.set_cons_succ]
      refine wpList_run rfl (.int .i64 (y.toNat : Int)) (by simp [go_sem, e1]) ?_
      simp only [Act.put, List.setIfInBounds_toArray, List.set_cons_zero, List.set_cons_succ]
      refine wpList_run rfl (.int .u8 ((byB y 0).toNat : Int)) (by simp [go_sem, b0]) ?_
      simp only [Act.put, List.setIfInBounds_toArray, List.set_cons_zero, List.set_cons_succ]
      refine wpList_run rfl (.pointer (some ⟨s, 0, none⟩)) (by simp [go_sem]) ?_
      simp only [Act.put, List.setIfInBounds_toArray, List.set_cons_zero, List.set_cons_succ]
      refine wpList_run rfl (.int .i64 (y.toNat : Int)) (by simp [go_sem, e1]) ?_
      simp only [Act.put, List.setIfInBounds_toArray, List.set_cons_zero, List.set_cons_succ]
      refine wpList_run rfl (.int .i64 ((y.toNat : Int) / ((2 ^ (8 * 1) : Nat) : Int))) (by simp [go_sem]) ?_
      simp only [Act.put, List.setIfInBounds_toArray, List.set_cons_zero, List.set_cons_succ]
      refine wpList_run rfl (.int .u8 ((byB y 1).toNat : Int)) (by simp [go_sem, b1]) ?_
      simp only [Act.put, List.setIfInBounds_toArray, List.set_cons_zero, List.set_cons_succ]
      refine wpList_run rfl (.pointer (some ⟨s, 0, none⟩)) (by simp [go_sem]) ?_
      simp only [Act.put, List.setIfInBounds_toArray, List.set_cons_zero, List.set_cons_succ]
      refine wpList_run rfl (.int .i64 (y.toNat : Int)) (by simp [go_sem, e1]) ?_
      simp only [Act.put, List.setIfInBounds_toArray, List.set_cons_zero, List.set_cons_succ]
      refine wpList_run rfl (.int .i64 ((y.toNat : Int) / ((2 ^ (8 * 2) : Nat) : Int))) (by simp [go_sem]) ?_
      simp only [Act.put, List.setIfInBounds_toArray, List.set_cons_zero, List.set_cons_succ]
      refine wpList_run rfl (.int .u8 ((byB y 2).toNat : Int)) (by simp [go_sem, b2]) ?_
      simp only [Act.put, List.setIfInBounds_toArray, List.set_cons_zero, List.set_cons_succ]
      refine wpList_run rfl (.pointer (some ⟨s, 0, none⟩)) (by simp [go_sem]) ?_
      simp only [Act.put, List.setIfInBounds_toArray, List.set_cons_zero, List.set_cons_succ]
      refine wpList_run rfl (.int .i64 (y.toNat : Int)) (by simp [go_sem, e1]) ?_
      simp only [Act.put, List.setIfInBounds_toArray, List.set_cons_zero, List.set_cons_succ]
      refine wpList_run rfl (.int .i64 ((y.toNat : Int) / ((2 ^ (8 * 3) : Nat) : Int))) (by simp [go_sem]) ?_
      simp only [Act.put, List.setIfInBounds_toArray, List.set_cons_zero, List.set_cons_succ]
      refine wpList_run rfl (.int .u8 ((byB y 3).toNat : Int)) (by simp [go_sem, b3]) ?_
      simp only [Act.put, List.setIfInBounds_toArray, List.set_cons_zero, List.set_cons_succ]
      have hE7 : Ext w6 (w6.alloc (.cells #[.int .u8 ((byB y 0).toNat : Int), .int .u8 ((byB y 1).toNat : Int), .int .u8 ((byB y 2).toNat : Int), .int .u8 ((byB y 3).toNat : Int)] 5)) := (Below.refl _ _).alloc (Nat.le_refl _) _
      have hN7 := newB w6 #[.int .u8 ((byB y 0).toNat : Int), .int .u8 ((byB y 1).toNat : Int), .int .u8 ((byB y 2).toNat : Int), .int .u8 ((byB y 3).toNat : Int)] 4 (byB y) (fun j hj => by
        rcases (by omega : j = 0 ∨ j = 1 ∨ j = 2 ∨ j = 3) with rfl | rfl | rfl | rfl <;> rfl)
      refine wpList_to rfl (.slice (some ⟨w6.heap.size, 0, none⟩) 4 4) (w6.alloc (.cells #[.int .u8 ((byB y 0).toNat : Int), .int .u8 ((byB y 1).toNat : Int), .int .u8 ((byB y 2).toNat : Int), .int .u8 ((byB y 3).toNat : Int)] 5)) (by simp [go_sem]) ?_
      simp only [Act.put, List.setIfInBounds_toArray, List.set_cons_zero, List.set_cons_succ]
      have O7 := hideit (O2.out.ext hE7)
      have H7 := hideit (H2.out.carry hE7)
      have P7 := hideit (P2.out.ext hE7)
      have S7 := hideit (S2.out.carry hE7)
      have hE07 := hideit (Ext.trans hE2.out hE7)
      have hB7 : Hid (B0 ≤ (w6.alloc (.cells #[.int .u8 ((byB y 0).toNat : Int), .int .u8 ((byB y 1).toNat : Int), .int .u8 ((byB y 2).toNat : Int), .int .u8 ((byB y 3).toNat : Int)] 5)).heap.size) := hideit (Nat.le_trans hB2.out (Below.size hE7))
      have hN7' := hideit hN7.1
      clear O2 H2 P2 S2 hE2 hB2 hE7 hN7 e1 b0 b1 b2 b3
      obtain ⟨w7, hw7⟩ : ∃ w7, w7 = w6.alloc (.cells #[.int .u8 ((byB y 0).toNat : Int), .int .u8 ((byB y 1).toNat : Int), .int .u8 ((byB y 2).toNat : Int), .int .u8 ((byB y 3).toNat : Int)] 5) := ⟨_, rfl⟩
      rw [← hw7] at O7 H7 P7 S7 hE07 hB7 hN7' ⊢
      clear hw7
      refine wpList_growV (n := 5 + 68 * i) (base := B0) elem22 rfl (.tmp 30) (.tmp 46) rfl rfl O7.out (.slice (some ⟨w6.heap.size, 0, none⟩) 4 4) 4 (byB y) (yv (seF n xs fs)) rfl hN7'.out (fun j hj => rfl) (fun j hj => by
        simp only [yv]
        rw [se_at n xs fs i j (by omega)]
        unfold oneB
        rw [if_pos hj, ← hy'.out]) (by omega) hB7.out ?_
      intro v8 w8 hO8 hg8
      have hb8 := below_grown hB7.out hg8 fun q hq => (O7.out.lt q hq).1
      have S8 := hideit (S7.out.grown hg8 (fun hh => hsv.out hh.symm))
      have H8 := hideit (RowAt.belowB H7.out hcB.out hb8)
      have P8 := hideit (P7.out.below haB.out hb8)
      have hE8 := hideit (Below.trans hE07.out (Below.mono hb8 hwB.out))
      have hB8 : Hid (B0 ≤ w8.heap.size) := hideit (Nat.le_trans hB7.out (Below.size hb8))
      obtain ⟨g8, c8, rfl, _⟩ := hO8.lies (by omega)
      have O8 := hideit hO8
      clear O7 H7 P7 S7 hE07 hB7 hN7' hO8 hg8 hb8
      simp only [Act.put, List.setIfInBounds_toArray, List.set_cons_zero, List.set_cons_succ]
      go_upto_region 9 with (fail)
      refine wp_region_lit ?_
      refine wpList_run rfl (.slice (some ⟨g8, 0, none⟩) (5 + 68 * i + 4) c8) (by simp [go_sem]) ?_
      simp only [Act.put, List.setIfInBounds_toArray, List.set_cons_zero, List.set_cons_succ]
      refine wpList_run rfl (.pointer (some ⟨s, 1, none⟩)) (by simp [go_sem]) ?_
      simp only [Act.put, List.setIfInBounds_toArray, List.set_cons_zero, List.set_cons_succ]
      refine wpList_run rfl (.slice (some ⟨s, 1, none⟩) 64 64) (by simp [go_sem]) ?_
      simp only [Act.put, List.setIfInBounds_toArray, List.set_cons_zero, List.set_cons_succ]
      refine wpList_growV (n := 5 + 68 * i + 4) (base := B0) elem22 rfl (.tmp 48) (.tmp 50) rfl rfl O8.out (.slice (some ⟨s, 1, none⟩) 64 64) 64 (fs i) (yv (seF n xs fs)) rfl (ep_bytes S8.out) (fun j hj => rfl) (fun j hj => by
        simp only [yv]
        rw [Nat.add_assoc (5 + 68 * i), se_at n xs fs i (4 + j) (by omega)]
        unfold oneB
        rw [if_neg (by omega), Nat.add_sub_cancel_left]) (by omega) hB8.out ?_
      intro v9 w9 hO9 hg9
      have hb9 := below_grown hB8.out hg9 fun q hq => (O8.out.lt q hq).1
      have H9 := hideit (RowAt.belowB H8.out hcB.out hb9)
      have P9 := hideit (P8.out.below haB.out hb9)
      have hE9 := hideit (Below.trans hE8.out (Below.mono hb9 hwB.out))
      have hB9 : Hid (B0 ≤ w9.heap.size) := hideit (Nat.le_trans hB8.out (Below.size hb9))
      rw [show 5 + 68 * i + 4 + 64 = 5 + 68 * (i + 1) by omega] at hO9
      obtain ⟨g9, c9, rfl, _⟩ := hO9.lies (by omega)
      have O9 := hideit hO9
      clear O8 H8 P8 S8 hE8 hB8 hO9 hg9 hb9
      simp only [Act.put, List.setIfInBounds_toArray, List.set_cons_zero, List.set_cons_succ]
      go_wp2
      exact ⟨⟨i + 1, by omega, by go_num, O9.out, H9.out, P9.out, hE9.out, hB9.out⟩, by simp [intOf]; omega⟩
    · obtain rfl : i = n := by omega
      have i1 : ¬ (i : Int) < (i : Int) := by omega
      go_wp2
      go_ret2
      exact ⟨_, rfl, O1.out.weaken hwB.out, hE1.out⟩
set_option maxRecDepth 20000 in
set_option maxHeartbeats 2000000 in
theorem rkeys_bad (u : Value) (n : Nat) (xs : Nat → Int) (fs : Nat → Nat → BitVec 8) (t : Nat → BitVec 8) (w : World) (h : EV u n xs fs w) (hw : inW n xs) (hn : n ≤ 9223372036854775807) (hb : ¬ okE n xs) :
    Calls Try.prog 14 #[.agg (row 33 (kyv u t)).toArray] w fun e w' => e = .returned (.tuple #[.slice none 0 0, .int .i64 1]) ∧ Ext w w' := by
  obtain ⟨H0, hE0⟩ := kboxed u t w
  have k := hideit (rseal_bad u n xs fs t _ (h.ext hE0) hw hn hb)
  replace H0 := hideit H0
  replace hE0 := hideit hE0
  clear h hw hb
  go_enter Try.func14, Try.ntmps14
  go_upto_region 1 with (fail)
  generalize w.alloc (.cells (row 33 (kyv u t)).toArray 37) = w1 at *
  refine wp_region_lit ?_
  refine wpList_load_mid rfl 37 (.tmp 1) rfl _ 0 rfl (row 33 (kyv u t)) _ H0.out.range Try.underlying37 rfl (by rw [row_length]; exact info37) ?_
  simp only [Act.put, List.setIfInBounds_toArray, List.set_cons_zero, List.set_cons_succ]
  refine wpList_call rfl (by simp [go_sem]; exact ⟨rfl, rfl⟩) ?_
  refine k.out.mono ?_
  rintro e w2 ⟨rfl, hX⟩
  refine ⟨_, rfl, ?_⟩
  simp only [Act.put, List.setIfInBounds_toArray, List.set_cons_zero, List.set_cons_succ]
  have hE2 := hideit (Ext.trans hE0.out hX)
  clear hX hE0 H0 k
  go_wp2
  go_ret2
  exact ⟨rfl, hE2.out⟩
set_option maxRecDepth 20000 in
set_option maxHeartbeats 2000000 in
theorem rkeys_ok (u : Value) (n : Nat) (xs : Nat → Int) (fs : Nat → Nat → BitVec 8) (t : Nat → BitVec 8) (w : World) (h : EV u n xs fs w) (hw : inW n xs) (hb : okE n xs) :
    Calls Try.prog 14 #[.agg (row 33 (kyv u t)).toArray] w fun e w' => ∃ v, e = .returned (.tuple #[v, .int .i64 0]) ∧ BV v 512 (keB n xs fs t) w' ∧ Ext w w' := by
  have hn12 := hb.1
  have n2 : n ≤ 2 := by omega
  obtain ⟨H0, hE0⟩ := kboxed u t w
  have k := hideit (rseal_ok u n xs fs t _ (h.ext hE0) hw hb)
  replace H0 := hideit H0
  replace hE0 := hideit hE0
  have hs1 : Hid ((w.alloc (.cells (row 33 (kyv u t)).toArray 37)).heap.size = w.heap.size + 1) := hideit (by simp)
  clear h hw hb
  go_enter Try.func14, Try.ntmps14
  go_upto_region 1 with (fail)
  generalize w.alloc (.cells (row 33 (kyv u t)).toArray 37) = w1 at *
  obtain ⟨c, hc⟩ : ∃ c, c = w.heap.size := ⟨_, rfl⟩
  have hcw : Hid (c < w1.heap.size) := hideit (by have := hs1.out; omega)
  have hww : Hid (w.heap.size ≤ w1.heap.size) := hideit (by have := hs1.out; omega)
  rw [← hc] at H0 ⊢
  clear hc hs1
  refine wp_region_lit ?_
  refine wpList_load_mid rfl 37 (.tmp 1) rfl _ 0 rfl (row 33 (kyv u t)) _ H0.out.range Try.underlying37 rfl (by rw [row_length]; exact info37) ?_
  simp only [Act.put, List.setIfInBounds_toArray, List.set_cons_zero, List.set_cons_succ]
  refine wpList_call rfl (by simp [go_sem]; exact ⟨rfl, rfl⟩) ?_
  refine k.out.mono ?_
  rintro e w2 ⟨v, rfl, hO, hX⟩
  refine ⟨_, rfl, ?_⟩
  simp only [Act.put, List.setIfInBounds_toArray, List.set_cons_zero, List.set_cons_succ]
  have H2 := hideit (H0.out.carry hX)
  have hE2 := hideit (Ext.trans hE0.out hX)
  have hB2 : Hid (w1.heap.size ≤ w2.heap.size) := hideit (Below.size hX)
  obtain ⟨g2, c2, rfl, _⟩ := hO.lies (by omega)
  have O2 := hideit hO
  clear hX hE0 H0 k hO
  obtain ⟨B0, hB0⟩ : ∃ B0, B0 = w1.heap.size := ⟨_, rfl⟩
  rw [← hB0] at O2 hB2 hcw hww
  clear hB0
  go_upto_region 4 with (fail)
  refine wp_region_lit ?_
  refine wpList_run rfl (.slice (some ⟨g2, 0, none⟩) (5 + 68 * n) c2) (by simp [go_sem]) ?_
  simp only [Act.put, List.setIfInBounds_toArray, List.set_cons_zero, List.set_cons_succ]
  refine wpList_run rfl (.pointer (some ⟨c, 1, none⟩)) (by simp [go_sem]) ?_
  simp only [Act.put, List.setIfInBounds_toArray, List.set_cons_zero, List.set_cons_succ]
  refine wpList_run rfl (.slice (some ⟨c, 1, none⟩) 32 32) (by simp [go_sem]) ?_
  simp only [Act.put, List.setIfInBounds_toArray, List.set_cons_zero, List.set_cons_succ]
  refine wpList_growV (n := 5 + 68 * n) (base := B0) elem22 rfl (.tmp 14) (.tmp 16) rfl rfl O2.out (.slice (some ⟨c, 1, none⟩) 32 32) 32 t (yv (keF n xs fs t)) rfl (ky_bytes H2.out) (fun j hj => by simp only [yv]; unfold keF catF; rw [if_pos hj]) (fun j hj => by simp only [yv]; unfold keF catF; rw [if_neg (by omega), Nat.add_sub_cancel_left]) (by omega) hB2.out ?_
  intro v3 w3 hO3 hg3
  have hb3 := below_grown hB2.out hg3 fun q hq => (O2.out.lt q hq).1
  have hE3 := hideit (Below.trans hE2.out (Below.mono hb3 hww.out))
  have hB3 : Hid (B0 ≤ w3.heap.size) := hideit (Nat.le_trans hB2.out (Below.size hb3))
  rw [show 5 + 68 * n + 32 = 37 + 68 * n by omega] at hO3
  have O3 := hideit hO3
  clear O2 H2 hE2 hO3 hg3 hb3
  simp only [Act.put, List.setIfInBounds_toArray, List.set_cons_zero, List.set_cons_succ]
  refine wpList_call rfl (by simp [go_sem]; exact ⟨rfl, rfl⟩) ?_
  refine (rfill_any B0 (37 + 68 * n) v3 (keF n xs fs t) w3 O3.out (by omega) (by omega) hB3.out).mono ?_
  rintro e w4 ⟨v4, rfl, hO4, hb4⟩
  refine ⟨_, rfl, ?_⟩
  have hE4 := hideit (Below.trans hE3.out (Below.mono hb4 hww.out))
  have V4 : Hid (BV v4 512 (keB n xs fs t) w4) := hideit hO4.bv
  obtain ⟨g4, c4, rfl, _⟩ := hO4.lies (by decide)
  clear O3 hE3 hB3 hO4 hb4
  simp only [Act.put, List.setIfInBounds_toArray, List.set_cons_zero, List.set_cons_succ]
  go_wp2
  go_ret2
  exact ⟨_, rfl, V4.out, hE4.out⟩
end Go.Proofs.Ytomalmnpojcloaa
