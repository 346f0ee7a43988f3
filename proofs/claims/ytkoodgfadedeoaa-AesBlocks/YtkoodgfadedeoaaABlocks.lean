/-
  AesBlocks, walked for keys that may be and for keys that may not.
-/
import Derived.Test.YtkoodgfadedeoaaAKeysB
import Derived.Test.YtkoodgfadedeoaaGrowV
namespace Go.Proofs.Ytkoodgfadedeoaa
open Go.RowKit Go.BigFrame
theorem elem22 : ElemIs Try.prog 22 5 := elem_is Try.underlying22 (by kernel_rfl) (by kernel_rfl) (by kernel_rfl)
theorem RCip.but {c kb cap N : Nat} {K bx ub : Nat → BitVec 8} {X Y : World} (h : RCip c kb cap N K bx ub X) (d : Nat) (k : But d X Y) (h1 : c ≠ d) (h2 : kb ≠ d) : RCip c kb cap N K bx ub Y :=
  ⟨(k.cell ⟨c, 0, none⟩ h.inC h1).trans h.head, fun j hj => (k.cell ⟨c, 1 + j, none⟩ h.inC h1).trans (h.box j hj), fun j hj => (k.cell ⟨c, 257 + j, none⟩ h.inC h1).trans (h.unbox j hj),
    fun j hj => (k.cell ⟨kb, j, none⟩ h.inK h2).trans (h.keys j hj), Nat.lt_of_lt_of_le h.inC k.size, Nat.lt_of_lt_of_le h.inK k.size⟩
set_option maxRecDepth 20000 in
set_option maxHeartbeats 4000000 in
theorem blocks_good (l r : Nat) (hl : 0 < l ∧ l ≤ 140737488351232) (hr1 : 1 ≤ r) (hr2 : r ≤ 14) (S : Nat → BitVec 8) (xv : Value) (key f : Nat → BitVec 8) (w : World) (hB : BV xv l key w)
    (hnew : ∀ v X, BV v l key X → Calls Try.prog 9 #[v] X fun e w' => e = .returned (.tuple #[.pointer (some ⟨X.heap.size, 0, none⟩), .int .i64 0]) ∧ CipherAt X.heap.size r S bxT ubT twT w' ∧ Below X.heap.size X w')
    (hrnew : ∀ v X, BV v l key X → Calls Try.prog 10 #[v] X fun e w' => ∃ c kb cp, e = .returned (.tuple #[.pointer (some ⟨c, 0, none⟩), .int .i64 0]) ∧ RCip c kb cp (r + 1) S bxT ubT w' ∧ Below X.heap.size X w' ∧ X.heap.size ≤ c ∧ X.heap.size ≤ kb) :
    Calls Try.prog 3 #[xv, .agg (row 16 (yv f)).toArray] w fun e w' => e = .returned (.bool true) ∧ Below w.heap.size w w' := by
  replace hnew := hideit hnew
  replace hrnew := hideit hrnew
  replace hB := hideit hB
  replace hl := hideit hl
  obtain ⟨c0, hc0⟩ : ∃ c0, c0 = w.heap.size := ⟨_, rfl⟩
  have HF0 : RowAt c0 16 (yv f) (w.alloc (.cells (row 16 (yv f)).toArray 23)) := by rw [hc0]; exact RowAt.new w 16 (yv f) 23
  have HE0 : Ext w (w.alloc (.cells (row 16 (yv f)).toArray 23)) := (Below.refl _ _).alloc (Nat.le_refl _) _
  have hs0 : (w.alloc (.cells (row 16 (yv f)).toArray 23)).heap.size = c0 + 1 := by rw [hc0]; simp
  replace HF0 := hideit HF0
  replace HE0 := hideit HE0
  go_enter Try.func3, Try.ntmps3
  go_upto_region 1 with (fail)
  rw [← hc0]
  have hw0 : w.heap.size ≤ c0 := by omega
  clear hc0
  generalize w.alloc (.cells (row 16 (yv f)).toArray 23) = w0 at *
  have HOe := hideit (own_empty w0 (c0 + 1) 5 (yv key) (by omega))
  have HEe : Ext w0 (w0.alloc (.cells #[] 5)) := (Below.refl _ _).alloc (Nat.le_refl _) _
  have HEE := hideit (Ext.trans HE0.out HEe)
  have HF1 := hideit (RowAt.carry HF0.out HEe)
  have HB1 := hideit (hB.out.ext HEE.out)
  refine wp_region_lit ?_
  refine wpList_to rfl (.slice (some ⟨w0.heap.size, 0, none⟩) 0 0) (w0.alloc (.cells #[] 5)) (by simp [go_sem]) ?_
  simp only [Act.put, List.setIfInBounds_toArray, List.set_cons_zero, List.set_cons_succ]
  refine wpList_run rfl xv (by simp [go_sem]) ?_
  simp only [Act.put, List.setIfInBounds_toArray, List.set_cons_zero, List.set_cons_succ]
  refine wpList_growV (n := 0) (base := c0 + 1) elem22 rfl (.tmp 11) (.tmp 12) rfl rfl HOe.out xv l key (yv key) rfl HB1.out (fun j hj => by omega) (fun j hj => by rw [Nat.zero_add]) (by have := hl.out; omega) (by simp; omega) ?_
  intro vo w1 hO1 hg1
  rw [Nat.zero_add] at hO1
  have HO := hideit hO1
  have HE : Hid (Ext w w1) := hideit (grown_ext HEE.out hg1 fun k hk => by have := (HOe.out.lt k hk).1; omega)
  have HF : Hid (RowAt c0 16 (yv f) w1) := hideit (RowAt.grown HF1.out hg1 (fun h => by have := (HOe.out.lt c0 h.symm).1; omega))
  clear hO1 hg1 HOe HEe HEE HF1 HB1 HF0 HE0 hs0
  simp only [Act.put, List.setIfInBounds_toArray, List.set_cons_zero, List.set_cons_succ]
  obtain ⟨vb, vcap, hv, hvb, hvc, hvm, hR'⟩ := HO.out.lies hl.out.1
  subst hv
  have hvb1 : vb < w1.heap.size := hR'.2.2
  clear hR' hvm
  have HV := hideit HO.out.bv
  obtain ⟨c1, hc1⟩ : ∃ c1, c1 = w1.heap.size := ⟨_, rfl⟩
  have hnw := hnew.out _ w1 HV.out
  rw [← hc1] at hnw
  replace hnw := hideit hnw
  have hc1' : w1.heap.size ≤ c1 := by omega
  have hvc1 : c1 ≠ vb := by omega
  have hvc0 : c0 ≠ vb := by omega
  clear hc1 hnew
  go_upto_region 3 with (go_at_call 9; refine hnw.out.mono ?_; rintro e w2 ⟨rfl, h2, h3⟩; have HC2 := hideit h2; have HX2 : Hid (Ext w1 w2) := hideit (Below.mono h3 hc1'); clear h2 h3 hnw)
  have hrw := hideit (hrnew.out xv w2 (hB.out.ext (Ext.trans HE.out HX2.out)))
  have hvb2 : vb < w2.heap.size := Nat.lt_of_lt_of_le hvb1 (Below.size HX2.out)
  clear hrnew
  go_upto_region 4 with (go_at_call 10; refine hrw.out.mono ?_; rintro e w3 ⟨c2, kb, cp, rfl, h4, h5, h6, h7⟩; have HR3 := hideit h4; have HX3 : Hid (Ext w2 w3) := hideit h5; clear h4 h5 hrw)
  have hvc2 : c2 ≠ vb := by omega
  have hvkb : kb ≠ vb := by omega
  refine wp_region_lit ?_
  refine wpList_call rfl (by simp [go_sem]) ((alives_any _).mono ?_)
  rintro e w4 ⟨rfl, hw4⟩
  refine ⟨_, rfl, ?_⟩
  simp only [Act.put, List.setIfInBounds_toArray, List.set_cons_zero, List.set_cons_succ]
  have HX4 : Ext w1 w4 := Ext.trans (Ext.trans HX2.out HX3.out) hw4
  have HC := hideit (CipherAt.carry (CipherAt.carry HC2.out HX3.out) hw4)
  have HR := hideit (RCip.carry HR3.out hw4)
  have HO4 := hideit (HO.out.ext HX4)
  have HE4 := hideit (Ext.trans HE.out HX4)
  have HF4 := hideit (RowAt.carry HF.out HX4)
  have hcv1 := convV _ l key w4 (HV.out.ext HX4)
  have hcv2 := convV xv l key w4 (hB.out.ext HE4.out)
  clear HX2 HX3 HC2 HR3 HO HE HF HX4 hw4 HV hvb1 hvb2 h6 h7 hc1'
  have HO := HO4; have HE := HE4; have HF := HF4
  clear HO4 HE4 HF4
  generalize bstr l key = St at *
  go_upto_region 7 with (fail)
  clear hcv1 hcv2
  have HOR : RowAt vb l (yv key) w4 := by
    obtain ⟨vb', vcap', hv, _, _, _, hR'⟩ := HO.out.lies hl.out.1
    cases hv
    exact hR'
  clear HO
  have HO := hideit HOR
  clear HOR
  go_loopw [10] (fun i wr => ∃ n : Nat, n ≤ l ∧ i = .int .i64 (n : Int) ∧ RowAt vb l (yv fun j => if j < n then key j + 1#8 else key j) wr ∧ Ext w wr ∧ CipherAt c1 r S bxT ubT twT wr ∧ RCip c2 kb cp (r + 1) S bxT ubT wr ∧ RowAt c0 16 (yv f) wr) (fun i _ => l - (intOf i).toNat)
  case atStart => exact ⟨0, by omega, rfl, HO.out.congr fun j _ => by simp only [yv]; rw [if_neg (by omega)], HE.out, HC.out, HR.out, HF.out⟩
  case round =>
    clear HO HE HC HR HF
    obtain ⟨n, hn, rfl, hO, hE, hC, hR, hF⟩ := hrel
    have HO := hideit hO
    have HE := hideit hE
    have HC := hideit hC
    have HR := hideit hR
    have HF := hideit hF
    clear hC hR hF
    clear hO hE
    by_cases hlt : n < l
    · have hR' := HO.out
      have n0 : (0 : Int) ≤ (n : Int) := by omega
      have n1 : (n : Int) < (l : Int) := by omega
      have n2 : (n : Int) ≤ 140737488351232 := by have := hl.out; omega
      have e1 : wr.cell? ⟨vb, n, none⟩ = some (.int .u8 ((key n).toNat : Int)) := by
        have h := hR'.1 n hlt
        simp only [yv] at h
        rwa [if_neg (by omega)] at h
      have g1 := hR'.2.1 n hlt
      have HRx := hideit hR'
      clear hR'
      have hadd : ((key n).toNat + 1 : Int) % 256 = ((key n + 1#8).toNat : Int) := by rw [BitVec.toNat_add]; simp
      obtain ⟨nb, hnb⟩ : ∃ nb, nb = key n + 1#8 := ⟨_, rfl⟩
      rw [← hnb] at hadd
      replace hnb := hideit hnb
      go_upto_region 8 with (fail)
      have HBu : But vb wr (wr.setCell ⟨vb, n, none⟩ (.int .u8 (nb.toNat : Int))) := but_setCell _ _ _ _
      have HO2 : RowAt vb l (yv fun j => if j < n + 1 then key j + 1#8 else key j) (wr.setCell ⟨vb, n, none⟩ (.int .u8 (nb.toNat : Int))) := by
        refine (RowAt.set HO.out n (.int .u8 (nb.toNat : Int))).congr fun j hj => ?_
        simp only [yv]
        by_cases e : j = n
        · subst e; rw [if_pos rfl, if_pos (by omega), hnb.out]
        · rw [if_neg e]
          by_cases h : j < n
          · rw [if_pos h, if_pos (by omega)]
          · rw [if_neg h, if_neg (by omega)]
      have HN : Hid (Ext w (wr.setCell ⟨vb, n, none⟩ (.int .u8 (nb.toNat : Int))) ∧ CipherAt c1 r S bxT ubT twT (wr.setCell ⟨vb, n, none⟩ (.int .u8 (nb.toNat : Int))) ∧ RCip c2 kb cp (r + 1) S bxT ubT (wr.setCell ⟨vb, n, none⟩ (.int .u8 (nb.toNat : Int))) ∧ RowAt c0 16 (yv f) (wr.setCell ⟨vb, n, none⟩ (.int .u8 (nb.toNat : Int)))) := ⟨Ext.but HE.out HBu (by omega), RowAt.but HC.out HBu hvc1, HR.out.but vb HBu hvc2 hvkb, RowAt.but HF.out HBu hvc0⟩
      replace HO2 := hideit HO2
      clear HO HE HC HR HF HBu e1 g1 HRx
      generalize wr.setCell ⟨vb, n, none⟩ (.int .u8 (nb.toNat : Int)) = Y at *
      go_wp2
      go_roundw
      case rel =>
        have h1 := HO2.out
        have h2 := HN.out
        first | exact ⟨(n + 1 : Nat), by omega, by go_num, h1, h2⟩ | ((repeat apply Exists.intro); exact ⟨⟨n + 1, by omega, by go_num, h1, h2⟩, rfl⟩)
      case measure => simp [intOf]; omega
    · obtain rfl : n = l := by omega
      go_upto_region 10 with (fail)
      have hq1 := eq32 (encF S bxT twT r f) (rencK (r + 1) S bxT f r)
      have he1 : Eq16 (encF S bxT twT r f) (rencK (r + 1) S bxT f r) := (renc_enc S f r hr1).symm
      rw [(same16_iff _ _).2 he1] at hq1
      clear he1
      have hq2 := eq32 (decF S ubT twT r f) (addF (rdecK (r + 1) S ubT f r) (kF S 0))
      have he2 : Eq16 (decF S ubT twT r f) (addF (rdecK (r + 1) S ubT f r) (kF S 0)) := (rdec_dec S f r hr1).symm
      rw [(same16_iff _ _).2 he2] at hq2
      clear he2
      have hre : Hid (∀ X, RCip c2 kb cp (r + 1) S bxT ubT X → Calls Try.prog 13 #[.pointer (some ⟨c2, 0, none⟩), .agg (row 16 (yv f)).toArray] X fun e w' => e = .returned (.agg (row 16 (yv (rencK (r + 1) S bxT f r))).toArray) ∧ Below X.heap.size X w') := fun X h => renc_any c2 kb cp (r + 1) S bxT ubT f (by omega) (by omega) X h
      have hrd : Hid (∀ X, RCip c2 kb cp (r + 1) S bxT ubT X → Calls Try.prog 15 #[.pointer (some ⟨c2, 0, none⟩), .agg (row 16 (yv f)).toArray] X fun e w' => e = .returned (.agg (row 16 (yv (addF (rdecK (r + 1) S ubT f r) (kF S 0)))).toArray) ∧ Below X.heap.size X w') := fun X h => rdec_any c2 kb cp (r + 1) S bxT ubT f (by omega) (by omega) X h
      generalize rencK (r + 1) S bxT f r = RE at *
      generalize addF (rdecK (r + 1) S ubT f r) (kF S 0) = RD at *
      have hne := kept_ne wr.drew
      refine wp_region_kept (Ok := Ext wr.drew) (by kernel_rfl) (by kernel_rfl) (Ext.refl _) ?_
      repeat (go_big_quiet_step ((rename_i q; first | exact rfl | (go_at_call 12; exact (enc_any c1 r S bxT ubT twT f hr1 hr2 q.w (CipherAt.carry (RowAt.drew HC.out) q.ok)).mono fun e w'' h => ⟨h.1, ⟨⟨w'', Ext.trans q.ok h.2⟩, rfl⟩⟩) | (go_at_call 13; exact (hre.out q.w (HR.out.drew.carry q.ok)).mono fun e w'' h => ⟨h.1, ⟨⟨w'', Ext.trans q.ok h.2⟩, rfl⟩⟩) | (go_at_call 14; exact (dec_any c1 r S bxT ubT twT f hr1 hr2 q.w (CipherAt.carry (RowAt.drew HC.out) q.ok)).mono fun e w'' h => ⟨h.1, ⟨⟨w'', Ext.trans q.ok h.2⟩, rfl⟩⟩) | (go_at_call 15; exact (hrd.out q.w (HR.out.drew.carry q.ok)).mono fun e w'' h => ⟨h.1, ⟨⟨w'', Ext.trans q.ok h.2⟩, rfl⟩⟩))))
      go_big_quiet_want
      refine loadQ 23 (.tmp 3) c0 0 16 (yv f) rfl rfl (fun w' hw' => (RowAt.carry (RowAt.drew HF.out) hw').range) Try.underlying23 rfl info32 ?_
      simp only [Act.put, List.setIfInBounds_toArray, List.set_cons_zero, List.set_cons_succ]
      go_big_quiet_on
      repeat (go_big_quiet_step ((rename_i q; first | exact rfl | (go_at_call 12; exact (enc_any c1 r S bxT ubT twT f hr1 hr2 q.w (CipherAt.carry (RowAt.drew HC.out) q.ok)).mono fun e w'' h => ⟨h.1, ⟨⟨w'', Ext.trans q.ok h.2⟩, rfl⟩⟩) | (go_at_call 13; exact (hre.out q.w (HR.out.drew.carry q.ok)).mono fun e w'' h => ⟨h.1, ⟨⟨w'', Ext.trans q.ok h.2⟩, rfl⟩⟩) | (go_at_call 14; exact (dec_any c1 r S bxT ubT twT f hr1 hr2 q.w (CipherAt.carry (RowAt.drew HC.out) q.ok)).mono fun e w'' h => ⟨h.1, ⟨⟨w'', Ext.trans q.ok h.2⟩, rfl⟩⟩) | (go_at_call 15; exact (hrd.out q.w (HR.out.drew.carry q.ok)).mono fun e w'' h => ⟨h.1, ⟨⟨w'', Ext.trans q.ok h.2⟩, rfl⟩⟩))))
      go_big_quiet_want
      refine loadQ 23 (.tmp 3) c0 0 16 (yv f) rfl rfl (fun w' hw' => (RowAt.carry (RowAt.drew HF.out) hw').range) Try.underlying23 rfl info32 ?_
      simp only [Act.put, List.setIfInBounds_toArray, List.set_cons_zero, List.set_cons_succ]
      go_big_quiet_on
      repeat (go_big_quiet_step ((rename_i q; first | exact rfl | (go_at_call 12; exact (enc_any c1 r S bxT ubT twT f hr1 hr2 q.w (CipherAt.carry (RowAt.drew HC.out) q.ok)).mono fun e w'' h => ⟨h.1, ⟨⟨w'', Ext.trans q.ok h.2⟩, rfl⟩⟩) | (go_at_call 13; exact (hre.out q.w (HR.out.drew.carry q.ok)).mono fun e w'' h => ⟨h.1, ⟨⟨w'', Ext.trans q.ok h.2⟩, rfl⟩⟩) | (go_at_call 14; exact (dec_any c1 r S bxT ubT twT f hr1 hr2 q.w (CipherAt.carry (RowAt.drew HC.out) q.ok)).mono fun e w'' h => ⟨h.1, ⟨⟨w'', Ext.trans q.ok h.2⟩, rfl⟩⟩) | (go_at_call 15; exact (hrd.out q.w (HR.out.drew.carry q.ok)).mono fun e w'' h => ⟨h.1, ⟨⟨w'', Ext.trans q.ok h.2⟩, rfl⟩⟩))))
      go_big_quiet_want
      refine loadQ 23 (.tmp 3) c0 0 16 (yv f) rfl rfl (fun w' hw' => (RowAt.carry (RowAt.drew HF.out) hw').range) Try.underlying23 rfl info32 ?_
      simp only [Act.put, List.setIfInBounds_toArray, List.set_cons_zero, List.set_cons_succ]
      go_big_quiet_on
      repeat (go_big_quiet_step ((rename_i q; first | exact rfl | (go_at_call 12; exact (enc_any c1 r S bxT ubT twT f hr1 hr2 q.w (CipherAt.carry (RowAt.drew HC.out) q.ok)).mono fun e w'' h => ⟨h.1, ⟨⟨w'', Ext.trans q.ok h.2⟩, rfl⟩⟩) | (go_at_call 13; exact (hre.out q.w (HR.out.drew.carry q.ok)).mono fun e w'' h => ⟨h.1, ⟨⟨w'', Ext.trans q.ok h.2⟩, rfl⟩⟩) | (go_at_call 14; exact (dec_any c1 r S bxT ubT twT f hr1 hr2 q.w (CipherAt.carry (RowAt.drew HC.out) q.ok)).mono fun e w'' h => ⟨h.1, ⟨⟨w'', Ext.trans q.ok h.2⟩, rfl⟩⟩) | (go_at_call 15; exact (hrd.out q.w (HR.out.drew.carry q.ok)).mono fun e w'' h => ⟨h.1, ⟨⟨w'', Ext.trans q.ok h.2⟩, rfl⟩⟩))))
      go_big_quiet_want
      refine loadQ 23 (.tmp 3) c0 0 16 (yv f) rfl rfl (fun w' hw' => (RowAt.carry (RowAt.drew HF.out) hw').range) Try.underlying23 rfl info32 ?_
      simp only [Act.put, List.setIfInBounds_toArray, List.set_cons_zero, List.set_cons_succ]
      go_big_quiet_on
      repeat (go_big_quiet_step ((rename_i q; first | exact rfl | (go_at_call 12; exact (enc_any c1 r S bxT ubT twT f hr1 hr2 q.w (CipherAt.carry (RowAt.drew HC.out) q.ok)).mono fun e w'' h => ⟨h.1, ⟨⟨w'', Ext.trans q.ok h.2⟩, rfl⟩⟩) | (go_at_call 13; exact (hre.out q.w (HR.out.drew.carry q.ok)).mono fun e w'' h => ⟨h.1, ⟨⟨w'', Ext.trans q.ok h.2⟩, rfl⟩⟩) | (go_at_call 14; exact (dec_any c1 r S bxT ubT twT f hr1 hr2 q.w (CipherAt.carry (RowAt.drew HC.out) q.ok)).mono fun e w'' h => ⟨h.1, ⟨⟨w'', Ext.trans q.ok h.2⟩, rfl⟩⟩) | (go_at_call 15; exact (hrd.out q.w (HR.out.drew.carry q.ok)).mono fun e w'' h => ⟨h.1, ⟨⟨w'', Ext.trans q.ok h.2⟩, rfl⟩⟩))))
      refine wpQuiet_nil ?_
      intro _ hw'
      obtain ⟨q, hq⟩ := hw'
      subst hq
      go_wp2
      go_ret
      exact ⟨rfl, Ext.trans HE.out.draw q.ok⟩
end Go.Proofs.Ytkoodgfadedeoaa
