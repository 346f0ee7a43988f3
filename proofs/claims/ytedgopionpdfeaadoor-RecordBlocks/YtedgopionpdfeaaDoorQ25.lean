/-
  Numbers written into a list; a plan as it is written; a seal; a mark; a redo's bytes as they stand. A plan as it is written; a seal; a mark; a redo's bytes as they stand.
-/
import Derived.Test.YtedgopionpdfeaaDoorQ24
namespace Go.Proofs.YtedgopionpdfeaaDoor
open Go.RowKit Go.BigFrame
theorem wrap_u64 {x : Int} (h0 : 0 ≤ x) (h1 : x < 4294967296) : IntKind.u64.wrap x = ((BitVec.ofNat 64 x.toNat).toNat : Int) := by
  rw [IntKind.wrap_u64, BitVec.toNat_ofNat]
  omega
/-- a number of a block as four bytes -/
def bW (x : Int) : BitVec 64 := BitVec.ofNat 64 x.toNat
theorem bW_small {x : Int} (h : okB x) : (bW x).toNat / 2 ^ (8 * 4) = 0 := by
  unfold bW
  rw [BitVec.toNat_ofNat]
  have := h.1
  have := h.2
  omega
/-- what a list of numbers is as bytes -/
def bsF (bs : Nat → Int) (j : Nat) : BitVec 8 := byB (bW (bs (j / 4))) (j % 4)
set_option maxRecDepth 20000 in
set_option maxHeartbeats 4000000 in
theorem put54 (c size m : Nat) (f : Nat → BitVec 8) (x : Int) (w : World) (h : Wr c size m f false w) (hm : m + 4 ≤ size) (hs : size ≤ 16777216) (hx : okB x) : Calls Tryd.prog 54 #[.pointer (some ⟨c, 0, none⟩), .int .i64 x] w fun e w' => e = .returned (.tuple #[]) ∧ Wr c size (m + 4) (catF f m (byB (bW x))) false w' ∧ Below c w w' := by
  have ku := hideit (wuint_ok c size m 4 f false (bW x) w h hm hs (by decide) (by decide) (bW_small hx))
  have hw : IntKind.u64.wrap x = ((bW x).toNat : Int) := wrap_u64 hx.1 (by have := hx.2; omega)
  generalize bW x = y at *
  clear h
  go_enter Tryd.func54, Tryd.ntmps54
  go_upto_region 0 with (fail)
  refine wp_region_lit ?_
  refine wpList_run rfl (.pointer (some ⟨c, 0, none⟩)) (by simp [go_sem]) ?_
  simp only [Act.put, List.setIfInBounds_toArray, List.set_cons_zero, List.set_cons_succ]
  refine wpList_run rfl (.int .i64 x) (by simp [go_sem]) ?_
  simp only [Act.put, List.setIfInBounds_toArray, List.set_cons_zero, List.set_cons_succ]
  refine wpList_run rfl (.int .u64 (y.toNat : Int)) (by simp [go_sem, hw]) ?_
  simp only [Act.put, List.setIfInBounds_toArray, List.set_cons_zero, List.set_cons_succ]
  refine wpList_call rfl (by simp [go_sem]) ((ku.out).mono ?_)
  rintro e w1 ⟨rfl, h1, h2⟩
  refine ⟨_, rfl, ?_⟩
  simp only [Act.put, List.setIfInBounds_toArray, List.set_cons_zero, List.set_cons_succ]
  replace h1 := hideit h1
  replace h2 := hideit h2
  clear ku
  go_wp2
  exact bodyPost_end (v := .tuple #[]) (by simp [results, Tryd.results54]) rfl ⟨rfl, h1.out, h2.out⟩
theorem put_nil (w : World) : Sem.run Tryd.prog (binOp .eql 81 (.func (.func 54) #[] #[]) .nilFunc) w = .ok (.bool false) w := by kernel_rfl
set_option maxRecDepth 20000 in
set_option maxHeartbeats 4000000 in
theorem put53 (c size m : Nat) (f : Nat → BitVec 8) (v0 : Value) (n : Nat) (bs : Nat → Int) (w0 w : World) (h : Wr c size m f false w) (hL : IL v0 n bs w0) (h0 : Ext w0 w) (hc : w0.heap.size ≤ c) (hm : m + 4 * n ≤ size) (hs : size ≤ 16777216) (hb : ∀ j, j < n → okB (bs j)) : Calls Tryd.prog 53 #[.pointer (some ⟨c, 0, none⟩), v0, .func (.func 54) #[] #[]] w fun e w' => e = .returned (.tuple #[]) ∧ Wr c size (m + 4 * n) (catF f m (bsF bs)) false w' ∧ Ext w0 w' := by
  obtain ⟨o, cap, rfl⟩ := hL.form
  have hpn := put_nil w
  replace h := hideit (h.congr (g := catF f m (bsF bs)) fun j hj => by unfold catF; rw [if_pos hj])
  replace hL := hideit hL
  replace h0 := hideit h0
  replace hb := hideit hb
  have hn : n ≤ 16777216 := by omega
  go_enter Tryd.func53, Tryd.ntmps53
  go_upto_region 0 with (fail)
  refine wp_region_lit ?_
  refine wpList_run rfl (.pointer (some ⟨c, 0, none⟩)) (by simp [go_sem]) ?_
  simp only [Act.put, List.setIfInBounds_toArray, List.set_cons_zero, List.set_cons_succ]
  refine wpList_run rfl (.bool false) (by simp [go_sem]) ?_
  simp only [Act.put, List.setIfInBounds_toArray, List.set_cons_zero, List.set_cons_succ]
  refine wpList_run rfl (.bool false) (by simp [go_sem]) ?_
  simp only [Act.put, List.setIfInBounds_toArray, List.set_cons_zero, List.set_cons_succ]
  refine wpList_runW rfl (.func (.func 54) #[] #[]) (by simp [go_sem]) ?_
  simp only [Act.put, List.setIfInBounds_toArray, List.set_cons_zero, List.set_cons_succ]
  refine wpList_runW rfl (.bool false) (by simp [go_sem, hpn]) ?_
  simp only [Act.put, List.setIfInBounds_toArray, List.set_cons_zero, List.set_cons_succ]
  refine wpList_run rfl (.bool false) (by simp [go_sem]) ?_
  simp only [Act.put, List.setIfInBounds_toArray, List.set_cons_zero, List.set_cons_succ]
  clear hpn
  go_wp2
  go_loopw [7, 16] (fun _ iv X => ∃ k : Nat, k ≤ n ∧ iv = .int .i64 (k : Int) ∧ Wr c size (m + 4 * k) (catF f m (bsF bs)) false X ∧ Ext w0 X) (fun _ iv _ => 20000000 - (intOf iv).toNat)
  case atStart => exact ⟨0, Nat.zero_le _, rfl, h.out, h0.out⟩
  case round =>
    obtain ⟨k, hk, rfl, hW, hE⟩ := hrel
    by_cases hlt : k < n
    · have k0 : (0 : Int) ≤ (k : Int) := by omega
      have k1 : (k : Int) < (n : Int) := by omega
      obtain ⟨a, rfl, ec⟩ : ∃ a, o = some a ∧ wr.cell? (a.add k) = some (.int .i64 (bs k)) := by
        rcases (hL.out.ext hE).1 with ⟨_, h2⟩ | ⟨a, cap', h1, _, h3⟩
        · omega
        · injection h1 with e1 _ _
          exact ⟨a, e1, h3.1 k hlt⟩
      have kp : Hid (Calls Tryd.prog 54 #[.pointer (some ⟨c, 0, none⟩), .int .i64 (bs k)] wr fun e w' => e = .returned (.tuple #[]) ∧ Wr c size (m + 4 * (k + 1)) (catF f m (bsF bs)) false w' ∧ Ext w0 w') := by
        refine (put54 c size (m + 4 * k) _ (bs k) wr hW (by omega) hs (hb.out k hlt)).mono ?_
        rintro e w9 ⟨rfl, h1, h2⟩
        refine ⟨rfl, ?_, below_ext hE hc h2⟩
        have h3 : Wr c size (m + 4 * (k + 1)) (catF (catF f m (bsF bs)) (m + 4 * k) (byB (bW (bs k)))) false w9 := h1
        refine h3.congr fun j hj => ?_
        unfold catF
        by_cases q : j < m + 4 * k
        · rw [if_pos q]
        · rw [if_neg q, if_neg (by omega)]
          unfold bsF
          rw [show (j - m) / 4 = k by omega, show (j - m) % 4 = j - (m + 4 * k) by omega]
      clear hW hE
      go_upto_region 2 with (fail)
      refine wp_region_lit ?_
      refine wpList_run rfl (.bool true) (by simp [go_sem, k1]) ?_
      simp only [Act.put, List.setIfInBounds_toArray, List.set_cons_zero, List.set_cons_succ]
      go_upto_region 3 with (fail)
      refine wp_region_lit ?_
      refine wpList_run rfl (.pointer (some (a.add k))) (by simp [go_sem, k1]) ?_
      simp only [Act.put, List.setIfInBounds_toArray, List.set_cons_zero, List.set_cons_succ]
      refine wpList_run rfl (.int .i64 (bs k)) (by simp [go_sem, ec]) ?_
      simp only [Act.put, List.setIfInBounds_toArray, List.set_cons_zero, List.set_cons_succ]
      refine wpList_run rfl (.int .i64 (bs k)) (by simp [go_sem]) ?_
      simp only [Act.put, List.setIfInBounds_toArray, List.set_cons_zero, List.set_cons_succ]
      clear ec
      go_upto_region 4 with (fail)
      refine wp_region_lit ?_
      refine wpList_run rfl (.func (.func 54) #[] #[]) (by simp [go_sem]) ?_
      simp only [Act.put, List.setIfInBounds_toArray, List.set_cons_zero, List.set_cons_succ]
      refine wpList_run rfl (.pointer (some ⟨c, 0, none⟩)) (by simp [go_sem]) ?_
      simp only [Act.put, List.setIfInBounds_toArray, List.set_cons_zero, List.set_cons_succ]
      refine wpList_run rfl (.int .i64 (bs k)) (by simp [go_sem]) ?_
      simp only [Act.put, List.setIfInBounds_toArray, List.set_cons_zero, List.set_cons_succ]
      refine wpList_call rfl (by simp [go_sem]) ((kp.out).mono ?_)
      rintro e w9 ⟨rfl, h1, h2⟩
      refine ⟨_, rfl, ?_⟩
      simp only [Act.put, List.setIfInBounds_toArray, List.set_cons_zero, List.set_cons_succ]
      clear kp
      go_wp2
      exact ⟨⟨k + 1, by omega, by go_num, h1, h2⟩, by simp [intOf]; omega⟩
    · obtain rfl : k = n := by omega
      have k1 : ¬ (k : Int) < (k : Int) := by omega
      replace hW := hideit hW
      replace hE := hideit hE
      go_wp2
      exact bodyPost_end (v := .tuple #[]) (by simp [results, Tryd.results53]) rfl ⟨rfl, hW.out, hE.out⟩
end Go.Proofs.YtedgopionpdfeaaDoor
namespace Go.Proofs.YtedgopionpdfeaaDoor
open Go.RowKit Go.BigFrame
def lsT (p q : Nat) (i : Nat) : Nat := if i = 0 then p else q
def fsT (f g : Nat → BitVec 8) (i : Nat) : Nat → BitVec 8 := if i = 0 then f else g
theorem all_two (p q : Nat) (f g : Nat → BitVec 8) (j : Nat) : allF (lsT p q) (fsT f g) 2 j = catF f p g j := by
  rw [allF_succ, allF_succ]
  show catF (catF _ 0 f) (0 + p) g j = _
  unfold catF
  rw [Nat.zero_add]
  by_cases h : j < p
  · rw [if_pos h, if_pos h, if_neg (Nat.not_lt_zero _)]
    rfl
  · rw [if_neg h, if_neg h]
theorem sum_two (p q : Nat) : sumL (lsT p q) 2 = p + q := by
  rw [sumL_succ, sumL_succ]
  show 0 + p + q = p + q
  omega
theorem parts_two {w : World} {u0 u1 : Value} {p q : Nat} {f g : Nat → BitVec 8} (h0 : BV u0 p f w) (h1 : BV u1 q g w) : Parts (.slice (some ⟨w.heap.size, 0, none⟩) 2 2) 2 (fun i => if i = 0 then u0 else u1) (lsT p q) (fsT f g) (w.alloc (.cells #[u0, u1] 34)) := by
  have hX : Ext w (w.alloc (.cells #[u0, u1] 34)) := (Below.refl _ _).alloc (Nat.le_refl _) _
  refine ⟨.inr ⟨_, 2, rfl, Nat.le_refl _, RowAt.lie (RowAt.newOf w 2 _ 34 _ fun j hj => by rcases (by omega : j = 0 ∨ j = 1) with rfl | rfl <;> rfl) 2 (Nat.le_refl _)⟩, fun i hi => ?_⟩
  rcases (by omega : i = 0 ∨ i = 1) with rfl | rfl
  · exact h0.ext hX
  · exact h1.ext hX
theorem bv_row {g n : Nat} {f : Nat → BitVec 8} {w : World} (h : RowAt g n (yv f) w) : BV (.slice (some ⟨g, 0, none⟩) n n) n f w := .inr ⟨_, n, rfl, Nat.le_refl _, h.lie n (Nat.le_refl _)⟩
theorem pad_two {p q m : Nat} {f g : Nat → BitVec 8} (h : m = p + q) : padF (allF (lsT p q) (fsT f g) 2) (sumL (lsT p q) 2) = padF (catF f p g) m := by
  rw [sum_two, h]
  funext j
  unfold padF
  by_cases e : j < p + q
  · rw [if_pos e, if_pos e, all_two]
  · rw [if_neg e, if_neg e]
/-- the block of a list of parts whose first has 12 bytes -/
theorem block_two {w : World} {g1 g2 : Nat} {f g : Nat → BitVec 8} {q m : Nat} (h0 : RowAt g1 12 (yv f) w) (h1 : RowAt g2 q (yv g) w) (hm : m = 12 + q) (h5 : m ≤ 512) : Calls Tryd.prog 43 #[.slice (some ⟨w.heap.size, 0, none⟩) 2 2] (w.alloc (.cells #[.slice (some ⟨g1, 0, none⟩) 12 12, .slice (some ⟨g2, 0, none⟩) q q] 34)) fun e w' => ∃ z, e = .returned (.slice (some ⟨z, 0, none⟩) 512 512) ∧ w.heap.size ≤ z ∧ RowAt z 512 (yv (padF (catF f 12 g) m)) w' ∧ Ext w w' := by
  have hX : Ext w (w.alloc (.cells #[.slice (some ⟨g1, 0, none⟩) 12 12, .slice (some ⟨g2, 0, none⟩) q q] 34)) := (Below.refl _ _).alloc (Nat.le_refl _) _
  refine (blk_any (parts_two (bv_row h0) (bv_row h1)) (by decide) (by rw [sum_two]; omega)).mono ?_
  rintro e w' ⟨z, rfl, h2, h3, h4⟩
  rw [pad_two hm] at h3
  exact ⟨z, rfl, Nat.le_trans (Below.size hX) h2, h3, Ext.trans hX h4⟩
def sPL : ByteArray := ⟨#[80, 76, 65, 78]⟩
def sDN : ByteArray := ⟨#[68, 79, 78, 69]⟩
def sMK : ByteArray := ⟨#[77, 65, 82, 75]⟩
/-- the seal of so many bytes -/
def sealF (x : BitVec 64) (F : Nat → BitVec 8) (L : Nat) : Nat → BitVec 8 := padF (catF (begF sDN x) 12 (shaF F L)) 44
set_option maxRecDepth 20000 in
set_option maxHeartbeats 4000000 in
theorem seal_any (x : BitVec 64) {v : Value} {n : Nat} {us : Nat → Value} {ls : Nat → Nat} {bs : Nat → Nat → BitVec 8} {w : World} (hP : Parts v n us ls bs w) (hT : TabC w) (hn : n ≤ 4398046511104) (hs : sumL ls n ≤ 1000000000000) : Calls Tryd.prog 27 #[.int .u64 (x.toNat : Int), v] w fun e w' => ∃ z, e = .returned (.slice (some ⟨z, 0, none⟩) 512 512) ∧ w.heap.size ≤ z ∧ RowAt z 512 (yv (sealF x (allF ls bs n) (sumL ls n))) w' ∧ Ext w w' := by
  have kb := hideit (begin_any sDN rfl x w)
  replace hP := hideit hP
  replace hT := hideit hT
  unfold sDN at kb
  go_enter Tryd.func27, Tryd.ntmps27
  go_upto_region 1 with (fail)
  refine wp_region_lit ?_
  refine wpList_run rfl (.int .u64 (x.toNat : Int)) (by simp [go_sem]) ?_
  simp only [Act.put, List.setIfInBounds_toArray, List.set_cons_zero, List.set_cons_succ]
  refine wpList_call rfl (by simp [go_sem]) ((kb.out).mono ?_)
  rintro e w1 ⟨g1, rfl, _, hR1, hX1⟩
  refine ⟨_, rfl, ?_⟩
  simp only [Act.put, List.setIfInBounds_toArray, List.set_cons_zero, List.set_cons_succ]
  refine wpList_run rfl (v) (by simp [go_sem]) ?_
  simp only [Act.put, List.setIfInBounds_toArray, List.set_cons_zero, List.set_cons_succ]
  have kd := hideit (digest_of (hP.out.ext hX1) (TabC.ext hT.out hX1) hn hs)
  refine wpList_call rfl (by simp [go_sem]) ((kd.out).mono ?_)
  rintro e w2 ⟨g2, rfl, _, hR2, hX2⟩
  refine ⟨_, rfl, ?_⟩
  simp only [Act.put, List.setIfInBounds_toArray, List.set_cons_zero, List.set_cons_succ]
  have kb2 := hideit (block_two (hR1.carry hX2) hR2 (m := 44) rfl (by decide))
  have hE2 := hideit (Ext.trans hX1 hX2)
  clear kb kd hR1 hR2 hX1 hX2
  refine wpList_to rfl (.slice (some ⟨w2.heap.size, 0, none⟩) 2 2) (w2.alloc (.cells #[.slice (some ⟨g1, 0, none⟩) 12 12, .slice (some ⟨g2, 0, none⟩) 32 32] 34)) (by simp [go_sem]) ?_
  simp only [Act.put, List.setIfInBounds_toArray, List.set_cons_zero, List.set_cons_succ]
  generalize w2.alloc (.cells #[.slice (some ⟨g1, 0, none⟩) 12 12, .slice (some ⟨g2, 0, none⟩) 32 32] 34) = w3 at *
  refine wpList_call rfl (by simp [go_sem]) ((kb2.out).mono ?_)
  rintro e w4 ⟨z, rfl, hz, hR4, hX4⟩
  refine ⟨_, rfl, ?_⟩
  simp only [Act.put, List.setIfInBounds_toArray, List.set_cons_zero, List.set_cons_succ]
  refine wpList_run rfl (.slice (some ⟨z, 0, none⟩) 512 512) (by simp [go_sem]) ?_
  simp only [Act.put, List.setIfInBounds_toArray, List.set_cons_zero, List.set_cons_succ]
  have hE4 := hideit (Ext.trans hE2.out hX4)
  have hz4 : Hid (w.heap.size ≤ z) := Nat.le_trans (Below.size hE2.out) hz
  replace hR4 := hideit hR4
  clear kb2 hX4 hE2 hz
  go_wp2
  go_ret
  exact ⟨z, rfl, hz4.out, hR4.out, hE4.out⟩
/-- a mark -/
def markF (x : BitVec 64) : Nat → BitVec 8 := padF (catF (begF sMK x) 12 (shaF (begF sMK x) 12)) 44
theorem all_one {ls : Nat → Nat} {bs : Nat → Nat → BitVec 8} : shaF (allF ls bs 1) (sumL ls 1) = shaF (bs 0) (ls 0) := by
  have h1 : sumL ls 1 = ls 0 := by rw [sumL_succ]; show 0 + ls 0 = _; omega
  rw [h1]
  refine shaF_congr _ _ _ fun j hj => ?_
  rw [allF_succ]
  show catF _ 0 (bs 0) j = _
  unfold catF
  rw [if_neg (Nat.not_lt_zero _)]
  rfl
theorem parts_one {w : World} {u0 : Value} {p : Nat} {f : Nat → BitVec 8} (h0 : BV u0 p f w) : Parts (.slice (some ⟨w.heap.size, 0, none⟩) 1 1) 1 (fun _ => u0) (fun _ => p) (fun _ => f) (w.alloc (.cells #[u0] 34)) := by
  have hX : Ext w (w.alloc (.cells #[u0] 34)) := (Below.refl _ _).alloc (Nat.le_refl _) _
  exact ⟨.inr ⟨_, 1, rfl, Nat.le_refl _, RowAt.lie (row_new1 w u0 34) 1 (Nat.le_refl _)⟩, fun i hi => h0.ext hX⟩
theorem mark_no (w : World) : Calls Tryd.prog 19 #[.int .u64 ((0#64).toNat : Int)] w fun e w' => e = .returned (.tuple #[.slice none 0 0, .int .i64 1]) ∧ w' = w := by
  go_enter Tryd.func19, Tryd.ntmps19
  go_wp2
  go_ret2
  exact ⟨rfl, rfl⟩
set_option maxRecDepth 20000 in
set_option maxHeartbeats 4000000 in
theorem mark_any (x : BitVec 64) (hx : x ≠ 0#64) (w : World) (hT : TabC w) : Calls Tryd.prog 19 #[.int .u64 (x.toNat : Int)] w fun e w' => ∃ z, e = .returned (.tuple #[.slice (some ⟨z, 0, none⟩) 512 512, .int .i64 0]) ∧ w.heap.size ≤ z ∧ RowAt z 512 (yv (markF x)) w' ∧ Ext w w' := by
  have kb := hideit (begin_any sMK rfl x w)
  have hx0 : ¬ x.toNat = 0 := fun h => hx (u0.1 h)
  replace hT := hideit hT
  unfold sMK at kb
  clear hx
  go_enter Tryd.func19, Tryd.ntmps19
  go_upto_region 1 with (fail)
  refine wp_region_lit ?_
  refine wpList_run rfl (.int .u64 (x.toNat : Int)) (by simp [go_sem]) ?_
  simp only [Act.put, List.setIfInBounds_toArray, List.set_cons_zero, List.set_cons_succ]
  refine wpList_run rfl (.bool false) (by simp [go_sem, hx0]) ?_
  simp only [Act.put, List.setIfInBounds_toArray, List.set_cons_zero, List.set_cons_succ]
  go_upto_region 3 with (fail)
  refine wp_region_lit ?_
  refine wpList_run rfl (.int .u64 (x.toNat : Int)) (by simp [go_sem]) ?_
  simp only [Act.put, List.setIfInBounds_toArray, List.set_cons_zero, List.set_cons_succ]
  refine wpList_call rfl (by simp [go_sem]) ((kb.out).mono ?_)
  rintro e w1 ⟨g1, rfl, _, hR1, hX1⟩
  refine ⟨_, rfl, ?_⟩
  simp only [Act.put, List.setIfInBounds_toArray, List.set_cons_zero, List.set_cons_succ]
  refine wpList_run rfl (.slice (some ⟨g1, 0, none⟩) 12 12) (by simp [go_sem]) ?_
  simp only [Act.put, List.setIfInBounds_toArray, List.set_cons_zero, List.set_cons_succ]
  have hX2 : Ext w1 (w1.alloc (.cells #[.slice (some ⟨g1, 0, none⟩) 12 12] 34)) := (Below.refl _ _).alloc (Nat.le_refl _) _
  have kd := digest_of (parts_one (bv_row hR1)) (TabC.ext (TabC.ext hT.out hX1) hX2) (by decide) (by decide)
  rw [all_one] at kd
  replace kd := hideit kd
  go_upto_region 4 with (fail)
  refine wp_region_lit ?_
  refine wpList_run rfl (.slice (some ⟨g1, 0, none⟩) 12 12) (by simp [go_sem]) ?_
  simp only [Act.put, List.setIfInBounds_toArray, List.set_cons_zero, List.set_cons_succ]
  refine wpList_run rfl (.slice (some ⟨g1, 0, none⟩) 12 12) (by simp [go_sem]) ?_
  simp only [Act.put, List.setIfInBounds_toArray, List.set_cons_zero, List.set_cons_succ]
  refine wpList_to rfl (.slice (some ⟨w1.heap.size, 0, none⟩) 1 1) (w1.alloc (.cells #[.slice (some ⟨g1, 0, none⟩) 12 12] 34)) (by simp [go_sem]) ?_
  simp only [Act.put, List.setIfInBounds_toArray, List.set_cons_zero, List.set_cons_succ]
  have hR1b := hR1.carry hX2
  generalize w1.alloc (.cells #[.slice (some ⟨g1, 0, none⟩) 12 12] 34) = w2 at *
  refine wpList_call rfl (by simp [go_sem]) ((kd.out).mono ?_)
  rintro e w3 ⟨g2, rfl, _, hR3, hX3⟩
  refine ⟨_, rfl, ?_⟩
  simp only [Act.put, List.setIfInBounds_toArray, List.set_cons_zero, List.set_cons_succ]
  have kb2 := hideit (block_two (hR1b.carry hX3) hR3 (m := 44) rfl (by decide))
  have hE3 := hideit (Ext.trans hX1 (Ext.trans hX2 hX3))
  clear kb kd hR1 hR1b hR3 hX1 hX2 hX3
  refine wpList_to rfl (.slice (some ⟨w3.heap.size, 0, none⟩) 2 2) (w3.alloc (.cells #[.slice (some ⟨g1, 0, none⟩) 12 12, .slice (some ⟨g2, 0, none⟩) 32 32] 34)) (by simp [go_sem]) ?_
  simp only [Act.put, List.setIfInBounds_toArray, List.set_cons_zero, List.set_cons_succ]
  generalize w3.alloc (.cells #[.slice (some ⟨g1, 0, none⟩) 12 12, .slice (some ⟨g2, 0, none⟩) 32 32] 34) = w4 at *
  refine wpList_call rfl (by simp [go_sem]) ((kb2.out).mono ?_)
  rintro e w5 ⟨z, rfl, hz, hR5, hX5⟩
  refine ⟨_, rfl, ?_⟩
  simp only [Act.put, List.setIfInBounds_toArray, List.set_cons_zero, List.set_cons_succ]
  refine wpList_run rfl (.slice (some ⟨z, 0, none⟩) 512 512) (by simp [go_sem]) ?_
  simp only [Act.put, List.setIfInBounds_toArray, List.set_cons_zero, List.set_cons_succ]
  refine wpList_run rfl (.int .i64 0) (by simp [go_sem]) ?_
  simp only [Act.put, List.setIfInBounds_toArray, List.set_cons_zero, List.set_cons_succ]
  have hE5 := hideit (Ext.trans hE3.out hX5)
  have hz5 : Hid (w.heap.size ≤ z) := Nat.le_trans (Below.size hE3.out) hz
  replace hR5 := hideit hR5
  clear kb2 hX5 hE3 hz
  go_wp2
  go_ret2
  exact ⟨z, rfl, hz5.out, hR5.out, hE5.out⟩
end Go.Proofs.YtedgopionpdfeaaDoor
