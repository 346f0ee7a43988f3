/-
  The digest of all that came.
-/
import Derived.Test.YtfbmeclpcgdmhabDoorWrite
import Derived.Test.YtfbmeclpcgdmhabDoorSeg
import Derived.Test.YtfbmeclpcgdmhabDoorOwnS
namespace Go.Proofs.YtfbmeclpcgdmhabDoor
open Go.RowKit Go.BigFrame
def qOf (n : Nat) : Nat := (n - 1) / 128
def blakeF (h0 : Nat → BitVec 64) (m : Nat → BitVec 8) (n : Nat) : Nat → BitVec 8 := digF (pieceF (chainB h0 m (qOf n)) (pendB m (qOf n) (n - 128 * qOf n)) (BitVec.ofNat 64 n) true)
theorem dig_fact (a : BitVec 64) (k : Nat) : (a.toNat : Int) / 2 ^ k % 256 = (((a >>> k).setWidth 8).toNat : Int) := by
  rw [BitVec.toNat_setWidth, BitVec.toNat_ushiftRight, Nat.shiftRight_eq_div_pow]
  simp
theorem done_fact (q wt : Nat) : IntKind.u64.wrap (((BitVec.ofNat 64 (128 * q)).toNat : Int) + (wt : Int)) = ((BitVec.ofNat 64 (128 * q + wt)).toNat : Int) := by
  rw [IntKind.wrap_u64, BitVec.toNat_ofNat, BitVec.toNat_ofNat]
  omega
def spA : Nat → Sp := fun _ => ⟨fun b => .pointer (some ⟨b, 0, none⟩), fun b X => RowAt b 8 (wv fun _ => 0#64) X⟩
theorem nil_sum (w : World) : Calls Tryd.prog 59 #[.pointer none] w fun e w' => e = .returned (.slice none 0 0) ∧ w' = w := by
  go_enter Tryd.func59, Tryd.ntmps59
  go_wp2
  go_ret
  exact ⟨rfl, rfl⟩
set_option maxRecDepth 20000 in
set_option maxHeartbeats 2000000 in
theorem sum_any (c sz n : Nat) (h0 : Nat → BitVec 64) (m : Nat → BitVec 8) (w : World) (h : HashOf c sz h0 m n w) (hC : TabC w) (hsz : sz ≤ 64) :
    Calls Tryd.prog 59 #[.pointer (some ⟨c, 0, none⟩)] w fun e w' => ∃ v', e = .returned v' ∧ OwnB w.heap.size 5 v' sz (yv (blakeF h0 m n)) w' ∧ Ext w w' := by
  obtain ⟨q, wt, hq1, hq2, hq3, hS⟩ := h
  have hqo : qOf n = q := by unfold qOf; omega
  have hz2 := zero30
  obtain ⟨s1, hs1⟩ : ∃ s1, s1 = pieceF (chainB h0 m q) (pendB m q wt) (BitVec.ofNat 64 n) true := ⟨_, rfl⟩
  have hR : blakeF h0 m n = digF s1 := by
    unfold blakeF
    rw [hqo, show n - 128 * q = wt by omega, hs1]
  rw [hR]
  clear hR
  have hpc := piece_any (chainB h0 m q) (pendB m q wt) (BitVec.ofNat 64 n) true
  rw [← hs1] at hpc
  have hdn := done_fact q wt
  rw [← hq1] at hdn
  unfold HashS at hS
  obtain ⟨s0, hs0⟩ : ∃ s0, s0 = chainB h0 m q := ⟨_, rfl⟩
  obtain ⟨p0, hp0⟩ : ∃ p0, p0 = pendB m q wt := ⟨_, rfl⟩
  obtain ⟨d1, hd1⟩ : ∃ d1, d1 = BitVec.ofNat 64 n := ⟨_, rfl⟩
  obtain ⟨d0, hd0⟩ : ∃ d0, d0 = BitVec.ofNat 64 (128 * q) := ⟨_, rfl⟩
  rw [← hs0, ← hp0, ← hd1] at hpc
  rw [← hs0, ← hp0, ← hd0] at hS
  rw [← hd0, ← hd1] at hdn
  have HH := hideit hS
  replace hpc := hideit hpc
  replace hC := hideit hC
  have w0 : (0 : Int) ≤ (wt : Int) := by omega
  have w1 : (wt : Int) ≤ 128 := by omega
  clear hS hs0 hp0 hd0 hd1 hs1 hq1 hqo hq3
  go_enter Tryd.func59, Tryd.ntmps59
  go_upto_region 3 with (fail)
  have hne := kept_ne w.drew
  have e9 : ∀ k : Kept (Ext w.drew), k.w.cell? ⟨c, 9, none⟩ = some (.int .u64 (d0.toNat : Int)) := fun k => HashAt.done (RowAt.carry (RowAt.drew HH.out) k.ok)
  have e8 : ∀ k : Kept (Ext w.drew), k.w.cell? ⟨c, 138, none⟩ = some (.int .i64 (wt : Int)) := fun k => HashAt.wait (RowAt.carry (RowAt.drew HH.out) k.ok)
  refine wp_region_two spA (fun _ _ _ _ hh hk => RowAt.carry hh hk) [0, 1, 2, 3, 4, 5, 6, 7, 8, 9, 10, 11, 12, 13, 14, 15, 16, 17, 18] [19] [20] [_, _, _, _, _, _, _, _, _, _, _, _, _, _, _, _, _, _, _] [_] (by kernel_rfl) (by kernel_rfl) rfl rfl (by decide +kernel) (by decide +kernel) (by decide +kernel) (by decide +kernel) (by decide +kernel) (by decide +kernel) (by decide +kernel) (by decide +kernel) ?_
  simp only [List.getElem_toArray, List.getElem_cons_zero, List.getElem_cons_succ]
  refine wpStrong_run 18 rfl ?_
  simp only [List.take_succ_cons, List.take_zero, List.drop_succ_cons, List.drop_zero]
  go_big_quiet_step (fail)
  go_big_quiet_step (fail)
  go_big_quiet_step (fail)
  go_big_quiet_want
  refine loadQ 92 (.tmp 10) c 1 8 (wv s0) rfl rfl (fun w' hw' => HashAt.state (RowAt.carry (RowAt.drew HH.out) hw')) Tryd.underlying92 rfl info30 ?_
  simp only [Act.put, List.setIfInBounds_toArray, List.set_cons_zero, List.set_cons_succ]
  go_big_quiet_on
  go_big_quiet_step (fail)
  go_big_quiet_step (fail)
  go_big_quiet_step (fail)
  go_big_quiet_want
  refine loadQ 94 (.tmp 14) c 10 128 (yv p0) rfl rfl (fun w' hw' => HashAt.piece (RowAt.carry (RowAt.drew HH.out) hw')) Tryd.underlying94 rfl info31 ?_
  simp only [Act.put, List.setIfInBounds_toArray, List.set_cons_zero, List.set_cons_succ]
  go_big_quiet_on
  repeat (go_big_quiet_step (fail))
  refine wpQuiet_nil ?_
  refine wpStrong_call rfl (fun X => by simp [go_sem]) (fun X hX => hpc.out X (hC.out.ext (Ext.trans (Below.refl _ _).drew hX))) ?_
  simp only [Act.put, List.setIfInBounds_toArray, List.set_cons_zero, List.set_cons_succ]
  refine wpStrong_nil ?_
  refine ⟨_, rfl, GenY.make rfl (fun X hX => ⟨.cells (row 8 (wv fun _ => 0#64)).toArray 92, by simp [go_sem, hz2, spA], RowAt.new X 8 _ 92⟩), fun b3 hb3 _ => ?_⟩
  simp only [List.getElem_toArray, List.getElem_cons_zero, List.getElem_cons_succ, Act.put, List.setIfInBounds_toArray, List.set_cons_zero, List.set_cons_succ, spA]
  intro X hX hH
  have hwX : Ext w X := Ext.trans (Below.refl _ _).drew hX
  have HN := hideit (hH (b3, 19) (by simp)).1
  have HHX : Hid (HashAt c sz s0 d0 p0 wt X) := RowAt.carry HH.out hwX
  have HE := hideit hwX
  have hcb : c < b3 := Nat.lt_of_lt_of_le HH.out.2.2 hb3
  have hb3' : w.heap.size ≤ b3 := hb3
  clear hX hH hwX HH hne e9 e8 hpc hb3
  refine wpList_store_mid rfl 92 (.tmp 3) (.tmp 26) rfl b3 0 (row 8 (wv s1)).toArray rfl rfl (by rw [row_size]; exact RowAt.there HN.out) (by rw [row_size]; exact info30) (row_one fun _ _ => rfl) ?_
  have HS1 : Hid (RowAt b3 8 (wv s1) (X.setCells b3 0 (row 8 (wv s1)))) := RowAt.cells HN.out
  have HH1 : Hid (HashAt c sz s0 d0 p0 wt (X.setCells b3 0 (row 8 (wv s1)))) := RowAt.cellsOther HHX.out (by omega) _ _
  have HE1 := hideit (below_setCells b3 hb3' (row 8 (wv s1)) 0 _ HE.out)
  generalize X.setCells b3 0 (row 8 (wv s1)) = x1 at *
  clear HN HHX HE
  simp only [Act.put]
  have e0 := HH1.out.size
  go_upto_region 4 with (fail)
  refine wp_region_lit ?_
  refine wpList_run rfl (.pointer (some ⟨c, 0, none⟩)) (by simp [go_sem]) ?_
  simp only [Act.put, List.setIfInBounds_toArray, List.set_cons_zero, List.set_cons_succ]
  refine wpList_run rfl (.pointer (some ⟨c, 0, none⟩)) (by simp [go_sem]) ?_
  simp only [Act.put, List.setIfInBounds_toArray, List.set_cons_zero, List.set_cons_succ]
  refine wpList_run rfl (.pointer (some ⟨c, 0, none⟩)) (by simp [go_sem]) ?_
  simp only [Act.put, List.setIfInBounds_toArray, List.set_cons_zero, List.set_cons_succ]
  refine wpList_run rfl (.int .i64 (sz : Int)) (by simp [go_sem, e0]) ?_
  simp only [Act.put, List.setIfInBounds_toArray, List.set_cons_zero, List.set_cons_succ]
  refine wpList_made x1 Tryd.underlying32 (by kernel_rfl) rfl (.tmp 30) (.tmp 30) rfl sz rfl rfl (by omega) ?_
  intro x2 hO2 hE2
  have HS2 := hideit (HS1.out.carry hE2)
  have HE2 := hideit (Ext.trans HE1.out hE2)
  have hbx : b3 < x1.heap.size := HS1.out.2.2
  have hwx1 : w.heap.size ≤ x1.heap.size := Below.size HE1.out
  obtain ⟨b4, hb4⟩ : ∃ b4, b4 = x1.heap.size := ⟨_, rfl⟩
  rw [← hb4] at hO2 hbx hwx1 ⊢
  have HO2 := hideit hO2
  clear hO2 hE2 HS1 HE1 HH1 e0 hb4
  simp only [Act.put, List.setIfInBounds_toArray, List.set_cons_zero, List.set_cons_succ]
  refine wpList_run rfl (.slice (some ⟨b4, 0, none⟩) sz sz) (by simp [go_sem]) ?_
  simp only [Act.put, List.setIfInBounds_toArray, List.set_cons_zero, List.set_cons_succ]
  go_wp2
  go_loopw [34] (fun iv wr => ∃ i : Nat, i ≤ sz ∧ iv = .int .i64 (i : Int) ∧ OwnB w.heap.size 5 (.slice (some ⟨b4, 0, none⟩) sz sz) sz (yv fun j => if j < i then digF s1 j else 0#8) wr ∧ RowAt b3 8 (wv s1) wr ∧ Ext w wr) (fun iv _ => sz - (intOf iv).toNat)
  case atStart => exact ⟨0, by omega, rfl, (HO2.out.down hwx1).congr fun j _ => by simp [yv], HS2.out, HE2.out⟩
  case round =>
    clear HO2 HS2 HE2
    obtain ⟨i, hi, rfl, hO, hS, hE⟩ := hrel
    have HO := hideit hO
    have HS := hideit hS
    have HE := hideit hE
    clear hO hS hE
    by_cases hlt : i < sz
    · have i0 : (0 : Int) ≤ (i : Int) := by omega
      have i1 : (i : Int) < (sz : Int) := by omega
      obtain ⟨g, cp9, hv, hg1, hg2, hg3, hRow⟩ := HO.out.lies (by omega)
      injection hv with q1 q2 q3
      injection q1 with q1
      injection q1 with q1
      subst q1
      have ec := hRow.1 i hlt
      have gc := hRow.2.1 i hlt
      have es := HS.out.1 (i / 8) (by omega)
      simp only [wv] at es
      clear hRow hg1 hg2 hg3 q2 q3
      have i2 : (0 : Int) ≤ (i : Int) / 8 := by omega
      have i3 : (i : Int) / 8 < 8 := by omega
      have b1 := (s1 (i / 8)).isLt
      go_wp2
      rw [dig_fact]
      refine ⟨⟨i + 1, by omega, by go_num, (HO.out.set (b := b4) rfl i hlt (yv (digF s1) i)).congr fun j _ => ?_, HS.out.other _ _ (by show b4 ≠ b3; omega), HE.out.setCell (by show w.heap.size ≤ b4; omega) _⟩, by simp [intOf]; omega⟩
      simp only [yv]
      by_cases e : j = i
      · subst e; rw [if_pos rfl, if_pos (by omega)]
      · rw [if_neg e]
        by_cases h : j < i
        · rw [if_pos h, if_pos (by omega)]
        · rw [if_neg h, if_neg (by omega)]
    · obtain rfl : i = sz := by omega
      have i1 : ¬ (i : Int) < (i : Int) := by omega
      have HR := hideit (HO.out.congr (g' := yv (digF s1)) fun j hj => by simp only [yv]; rw [if_pos hj])
      go_wp2
      go_ret
      exact ⟨_, rfl, HR.out, HE.out⟩
end Go.Proofs.YtfbmeclpcgdmhabDoor
