/-
  AesBlocks, walked for keys that may not be.
-/
import Derived.Test.YtkoodgfadedeoaaABlocks
namespace Go.Proofs.Ytkoodgfadedeoaa
open Go.RowKit Go.BigFrame
set_option maxRecDepth 20000 in
set_option maxHeartbeats 4000000 in
theorem blocks_bad (l : Nat) (hl : 0 < l ∧ l ≤ 140737488351232) (h1 : l ≠ 16) (h2 : l ≠ 32) (xv : Value) (key f : Nat → BitVec 8) (w : World) (hB : BV xv l key w) :
    Calls Try.prog 3 #[xv, .agg (row 16 (yv f)).toArray] w fun e w' => e = .returned (.bool true) ∧ Below w.heap.size w w' := by
  replace h1 := hideit h1
  replace h2 := hideit h2
  replace hB := hideit hB
  replace hl := hideit hl
  obtain ⟨c0, hc0⟩ : ∃ c0, c0 = w.heap.size := ⟨_, rfl⟩
  have HF0 : RowAt c0 16 (yv f) (w.alloc (.cells (row 16 (yv f)).toArray 23)) := by rw [hc0]; exact RowAt.new w 16 (yv f) 23
  have HE0 : Ext w (w.alloc (.cells (row 16 (yv f)).toArray 23)) := (Below.refl _ _).alloc (Nat.le_refl _) _
  have hs0 : (w.alloc (.cells (row 16 (yv f)).toArray 23)).heap.size = c0 + 1 := by rw [hc0]; simp
  replace HF0 := hideit HF0
  replace HE0 := hideit HE0
  go_enter Try.func3, Try.ntmps3
  go_upto_region 1 with (fail)
  rw [← hc0]
  have hw0 : w.heap.size ≤ c0 := by omega
  clear hc0
  generalize w.alloc (.cells (row 16 (yv f)).toArray 23) = w0 at *
  have HOe := hideit (own_empty w0 (c0 + 1) 5 (yv key) (by omega))
  have HEe : Ext w0 (w0.alloc (.cells #[] 5)) := (Below.refl _ _).alloc (Nat.le_refl _) _
  have HEE := hideit (Ext.trans HE0.out HEe)
  have HF1 := hideit (RowAt.carry HF0.out HEe)
  have HB1 := hideit (hB.out.ext HEE.out)
  refine wp_region_lit ?_
  refine wpList_to rfl (.slice (some ⟨w0.heap.size, 0, none⟩) 0 0) (w0.alloc (.cells #[] 5)) (by simp [go_sem]) ?_
  simp only [Act.put, List.setIfInBounds_toArray, List.set_cons_zero, List.set_cons_succ]
  refine wpList_run rfl xv (by simp [go_sem]) ?_
  simp only [Act.put, List.setIfInBounds_toArray, List.set_cons_zero, List.set_cons_succ]
  refine wpList_growV (n := 0) (base := c0 + 1) elem22 rfl (.tmp 11) (.tmp 12) rfl rfl HOe.out xv l key (yv key) rfl HB1.out (fun j hj => by omega) (fun j hj => by rw [Nat.zero_add]) (by have := hl.out; omega) (by simp; omega) ?_
  intro vo w1 hO1 hg1
  rw [Nat.zero_add] at hO1
  have HO := hideit hO1
  have HE : Hid (Ext w w1) := hideit (grown_ext HEE.out hg1 fun k hk => by have := (HOe.out.lt k hk).1; omega)
  have HF : Hid (RowAt c0 16 (yv f) w1) := hideit (RowAt.grown HF1.out hg1 (fun h => by have := (HOe.out.lt c0 h.symm).1; omega))
  clear hO1 hg1 HOe HEe HEE HF1 HB1 HF0 HE0 hs0
  simp only [Act.put, List.setIfInBounds_toArray, List.set_cons_zero, List.set_cons_succ]
  obtain ⟨av, vcap, hvo⟩ : ∃ av vcap, vo = .slice av l vcap := by
    rcases HO.out.2 with ⟨h, h0⟩ | ⟨g, cap, cur, h, _⟩
    · exact ⟨none, 0, by rw [h, h0]⟩
    · exact ⟨_, cap, h⟩
  obtain ⟨ax, xcap, hxv⟩ : ∃ ax xcap, xv = .slice ax l xcap := by
    rcases hB.out with ⟨h, h0⟩ | ⟨a, cap, h, _⟩
    · exact ⟨none, 0, by rw [h, h0]⟩
    · exact ⟨_, cap, h⟩
  have HV := hideit HO.out.bv
  obtain ⟨vb, vcap', hv, hvb, hvc, hvm, hR'⟩ := HO.out.lies hl.out.1
  subst hv
  subst hxv
  have hvc0 : c0 ≠ vb := by omega
  clear hR' hvm hvo
  go_upto_region 4 with (first | (go_at_call 9; refine (new_bad _ l _ h1.out h2.out _).mono ?_; rintro e w2 ⟨rfl, rfl⟩) | (go_at_call 10; refine (rnew_bad _ l _ h1.out h2.out _).mono ?_; rintro e w3 ⟨rfl, rfl⟩))
  refine wp_region_lit ?_
  refine wpList_call rfl (by simp [go_sem]) ((alives_any _).mono ?_)
  rintro e w4 ⟨rfl, hw4⟩
  refine ⟨_, rfl, ?_⟩
  simp only [Act.put, List.setIfInBounds_toArray, List.set_cons_zero, List.set_cons_succ]
  have HO4 := hideit (HO.out.ext hw4)
  have HE4 := hideit (Ext.trans HE.out hw4)
  have HF4 := hideit (RowAt.carry HF.out hw4)
  have hcv1 := convV _ l key w4 (HV.out.ext hw4)
  have hcv2 := convV _ l key w4 (hB.out.ext HE4.out)
  clear HO HE HF hw4 HV
  have HO := HO4; have HE := HE4; have HF := HF4
  clear HO4 HE4 HF4
  generalize bstr l key = St at *
  go_upto_region 7 with (fail)
  clear hcv1 hcv2
  have HOR : RowAt vb l (yv key) w4 := by
    obtain ⟨vb', vcap', hv, _, _, _, hR'⟩ := HO.out.lies hl.out.1
    cases hv
    exact hR'
  clear HO
  have HO := hideit HOR
  clear HOR
  go_loopw [10] (fun i wr => ∃ n : Nat, n ≤ l ∧ i = .int .i64 (n : Int) ∧ RowAt vb l (yv fun j => if j < n then key j + 1#8 else key j) wr ∧ Ext w wr ∧ RowAt c0 16 (yv f) wr) (fun i _ => l - (intOf i).toNat)
  case atStart => exact ⟨0, by omega, rfl, HO.out.congr fun j _ => by simp only [yv]; rw [if_neg (by omega)], HE.out, HF.out⟩
  case round =>
    clear HO HE HF
    obtain ⟨n, hn, rfl, hO, hE, hF⟩ := hrel
    have HO := hideit hO
    have HE := hideit hE
    have HF := hideit hF
    clear hF
    clear hO hE
    by_cases hlt : n < l
    · have hR' := HO.out
      have n0 : (0 : Int) ≤ (n : Int) := by omega
      have n1 : (n : Int) < (l : Int) := by omega
      have n2 : (n : Int) ≤ 140737488351232 := by have := hl.out; omega
      have e1 : wr.cell? ⟨vb, n, none⟩ = some (.int .u8 ((key n).toNat : Int)) := by
        have h := hR'.1 n hlt
        simp only [yv] at h
        rwa [if_neg (by omega)] at h
      have g1 := hR'.2.1 n hlt
      have HRx := hideit hR'
      clear hR'
      have hadd : ((key n).toNat + 1 : Int) % 256 = ((key n + 1#8).toNat : Int) := by rw [BitVec.toNat_add]; simp
      obtain ⟨nb, hnb⟩ : ∃ nb, nb = key n + 1#8 := ⟨_, rfl⟩
      rw [← hnb] at hadd
      replace hnb := hideit hnb
      go_upto_region 8 with (fail)
      have HBu : But vb wr (wr.setCell ⟨vb, n, none⟩ (.int .u8 (nb.toNat : Int))) := but_setCell _ _ _ _
      have HO2 : RowAt vb l (yv fun j => if j < n + 1 then key j + 1#8 else key j) (wr.setCell ⟨vb, n, none⟩ (.int .u8 (nb.toNat : Int))) := by
        refine (RowAt.set HO.out n (.int .u8 (nb.toNat : Int))).congr fun j hj => ?_
        simp only [yv]
        by_cases e : j = n
        · subst e; rw [if_pos rfl, if_pos (by omega), hnb.out]
        · rw [if_neg e]
          by_cases h : j < n
          · rw [if_pos h, if_pos (by omega)]
          · rw [if_neg h, if_neg (by omega)]
      have HN : Hid (Ext w (wr.setCell ⟨vb, n, none⟩ (.int .u8 (nb.toNat : Int))) ∧ RowAt c0 16 (yv f) (wr.setCell ⟨vb, n, none⟩ (.int .u8 (nb.toNat : Int)))) := ⟨Ext.but HE.out HBu (by omega), RowAt.but HF.out HBu hvc0⟩
      replace HO2 := hideit HO2
      clear HO HE HF HBu e1 g1 HRx
      generalize wr.setCell ⟨vb, n, none⟩ (.int .u8 (nb.toNat : Int)) = Y at *
      go_wp2
      go_roundw
      case rel =>
        have h1 := HO2.out
        have h2 := HN.out
        first | exact ⟨(n + 1 : Nat), by omega, by go_num, h1, h2⟩ | ((repeat apply Exists.intro); exact ⟨⟨n + 1, by omega, by go_num, h1, h2⟩, rfl⟩)
      case measure => simp [intOf]; omega
    · obtain rfl : n = l := by omega
      go_upto_region 10 with (fail)
      go_quiet (fail)
      go_wp2
      go_ret
      exact ⟨rfl, Ext.trans HE.out (ext_drewN _ _)⟩
set_option maxRecDepth 20000 in
set_option maxHeartbeats 4000000 in
theorem blocks_zero (l : Nat) (hz : l = 0) (xv : Value) (key f : Nat → BitVec 8) (w : World) (hB : BV xv l key w) :
    Calls Try.prog 3 #[xv, .agg (row 16 (yv f)).toArray] w fun e w' => e = .returned (.bool true) ∧ Below w.heap.size w w' := by
  have h1 : l ≠ 16 := by omega
  have h2 : l ≠ 32 := by omega
  have hl : l ≤ 140737488351232 := by omega
  replace hz := hideit hz
  replace h1 := hideit h1
  replace h2 := hideit h2
  replace hB := hideit hB
  replace hl := hideit hl
  obtain ⟨c0, hc0⟩ : ∃ c0, c0 = w.heap.size := ⟨_, rfl⟩
  have HF0 : RowAt c0 16 (yv f) (w.alloc (.cells (row 16 (yv f)).toArray 23)) := by rw [hc0]; exact RowAt.new w 16 (yv f) 23
  have HE0 : Ext w (w.alloc (.cells (row 16 (yv f)).toArray 23)) := (Below.refl _ _).alloc (Nat.le_refl _) _
  have hs0 : (w.alloc (.cells (row 16 (yv f)).toArray 23)).heap.size = c0 + 1 := by rw [hc0]; simp
  replace HF0 := hideit HF0
  replace HE0 := hideit HE0
  go_enter Try.func3, Try.ntmps3
  go_upto_region 1 with (fail)
  rw [← hc0]
  have hw0 : w.heap.size ≤ c0 := by omega
  clear hc0
  generalize w.alloc (.cells (row 16 (yv f)).toArray 23) = w0 at *
  have HOe := hideit (own_empty w0 (c0 + 1) 5 (yv key) (by omega))
  have HEe : Ext w0 (w0.alloc (.cells #[] 5)) := (Below.refl _ _).alloc (Nat.le_refl _) _
  have HEE := hideit (Ext.trans HE0.out HEe)
  have HF1 := hideit (RowAt.carry HF0.out HEe)
  have HB1 := hideit (hB.out.ext HEE.out)
  refine wp_region_lit ?_
  refine wpList_to rfl (.slice (some ⟨w0.heap.size, 0, none⟩) 0 0) (w0.alloc (.cells #[] 5)) (by simp [go_sem]) ?_
  simp only [Act.put, List.setIfInBounds_toArray, List.set_cons_zero, List.set_cons_succ]
  refine wpList_run rfl xv (by simp [go_sem]) ?_
  simp only [Act.put, List.setIfInBounds_toArray, List.set_cons_zero, List.set_cons_succ]
  refine wpList_growV (n := 0) (base := c0 + 1) elem22 rfl (.tmp 11) (.tmp 12) rfl rfl HOe.out xv l key (yv key) rfl HB1.out (fun j hj => by omega) (fun j hj => by rw [Nat.zero_add]) (by have := hl.out; omega) (by simp; omega) ?_
  intro vo w1 hO1 hg1
  rw [Nat.zero_add] at hO1
  have HO := hideit hO1
  have HE : Hid (Ext w w1) := hideit (grown_ext HEE.out hg1 fun k hk => by have := (HOe.out.lt k hk).1; omega)
  have HF : Hid (RowAt c0 16 (yv f) w1) := hideit (RowAt.grown HF1.out hg1 (fun h => by have := (HOe.out.lt c0 h.symm).1; omega))
  clear hO1 hg1 HOe HEe HEE HF1 HB1 HF0 HE0 hs0
  simp only [Act.put, List.setIfInBounds_toArray, List.set_cons_zero, List.set_cons_succ]
  obtain ⟨av, vcap, hvo⟩ : ∃ av vcap, vo = .slice av l vcap := by
    rcases HO.out.2 with ⟨h, h0⟩ | ⟨g, cap, cur, h, _⟩
    · exact ⟨none, 0, by rw [h, h0]⟩
    · exact ⟨_, cap, h⟩
  obtain ⟨ax, xcap, hxv⟩ : ∃ ax xcap, xv = .slice ax l xcap := by
    rcases hB.out with ⟨h, h0⟩ | ⟨a, cap, h, _⟩
    · exact ⟨none, 0, by rw [h, h0]⟩
    · exact ⟨_, cap, h⟩
  have HV := hideit HO.out.bv
  subst hvo
  subst hxv
  go_upto_region 4 with (first | (go_at_call 9; refine (new_bad _ l _ h1.out h2.out _).mono ?_; rintro e w2 ⟨rfl, rfl⟩) | (go_at_call 10; refine (rnew_bad _ l _ h1.out h2.out _).mono ?_; rintro e w3 ⟨rfl, rfl⟩))
  refine wp_region_lit ?_
  refine wpList_call rfl (by simp [go_sem]) ((alives_any _).mono ?_)
  rintro e w4 ⟨rfl, hw4⟩
  refine ⟨_, rfl, ?_⟩
  simp only [Act.put, List.setIfInBounds_toArray, List.set_cons_zero, List.set_cons_succ]
  have HO4 := hideit (HO.out.ext hw4)
  have HE4 := hideit (Ext.trans HE.out hw4)
  have HF4 := hideit (RowAt.carry HF.out hw4)
  have hcv1 := convV _ l key w4 (HV.out.ext hw4)
  have hcv2 := convV _ l key w4 (hB.out.ext HE4.out)
  clear HO HE HF hw4 HV
  have HO := HO4; have HE := HE4; have HF := HF4
  clear HO4 HE4 HF4
  generalize bstr l key = St at *
  have hz1 : ¬ (0 : Int) < (l : Int) := by have := hz.out; omega
  go_upto_region 7 with (fail)
  clear hcv1 hcv2
  go_loopw [10] (fun i wr => i = .int .i64 0 ∧ wr = w4) (fun _ _ => 0)
  case atStart => exact ⟨rfl, rfl⟩
  case round =>
    obtain ⟨rfl, rfl⟩ := hrel
    go_upto_region 10 with (fail)
    go_quiet (fail)
    go_wp2
    go_ret
    exact ⟨rfl, Ext.trans HE.out (ext_drewN _ _)⟩
end Go.Proofs.Ytkoodgfadedeoaa
