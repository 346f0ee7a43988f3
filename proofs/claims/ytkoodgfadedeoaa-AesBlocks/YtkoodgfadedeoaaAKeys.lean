/-
  AesKeys, walked for keys that may be and for keys that may not.
-/
import Derived.Test.YtkoodgfadedeoaaRNew8
import Derived.Test.YtkoodgfadedeoaaREq
import Derived.Test.YtkoodgfadedeoaaALives
import Derived.Deep.RegionWith
namespace Go.Proofs.Ytkoodgfadedeoaa
open Go.RowKit Go.BigFrame
set_option maxRecDepth 20000 in
set_option maxHeartbeats 1000000 in
theorem rnew_bad (a : Option Addr) (len cap : Nat) (h1 : len ≠ 16) (h2 : len ≠ 32) (w : World) :
    Calls Try.prog 10 #[.slice a len cap] w fun e w' => e = .returned (.tuple #[.pointer none, .int .i64 20]) ∧ w' = w := by
  have h1' : ¬ ((len : Int) = 16) := by omega
  have h2' : ¬ ((len : Int) = 32) := by omega
  have h3 : ((len : Int) != 16) = true := by simp; omega
  have h4 : ((len : Int) != 32) = true := by simp; omega
  go_enter Try.func10, Try.ntmps10
  go_wp2
  refine bodyPost_ret (results_tmp2 Try.results10 _ _ _) rfl ?_
  exact ⟨rfl, rfl⟩
theorem zbuild23 (X : World) : (Instr.build 23 #[]).run Try.prog X = .ok (.agg (row 16 (yv fun _ => 0#8)).toArray) X := by kernel_rfl
set_option maxRecDepth 20000 in
set_option maxHeartbeats 4000000 in
theorem keys_good (len r cap : Nat) (hr1 : 1 ≤ r) (hr2 : r ≤ 14) (S W : Nat → BitVec 8) (hSW : ∀ j, j < 16 * (r + 1) → S j = W j) (ad : Addr) (n : Int) (w : World)
    (hnew : Calls Try.prog 9 #[.slice (some ad) len cap] w fun e w' => e = .returned (.tuple #[.pointer (some ⟨w.heap.size, 0, none⟩), .int .i64 0]) ∧ CipherAt w.heap.size r S bxT ubT twT w' ∧ Below w.heap.size w w')
    (hrnew : ∀ X, Ext w X → Calls Try.prog 10 #[.slice (some ad) len cap] X fun e w' => ∃ c kb cp, e = .returned (.tuple #[.pointer (some ⟨c, 0, none⟩), .int .i64 0]) ∧ RCip c kb cp (r + 1) W bxT ubT w' ∧ Below X.heap.size X w' ∧ X.heap.size ≤ c ∧ X.heap.size ≤ kb) :
    Calls Try.prog 4 #[.slice (some ad) len cap, .int .i64 n] w fun e w' => e = .returned (.bool true) ∧ Below w.heap.size w w' := by
  replace hnew := hideit hnew
  replace hrnew := hideit hrnew
  replace hSW := hideit hSW
  obtain ⟨c1, hc1⟩ : ∃ c1, c1 = w.heap.size := ⟨_, rfl⟩
  rw [← hc1] at hnew
  have hw0 : w.heap.size ≤ c1 := by omega
  clear hc1
  go_enter Try.func4, Try.ntmps4
  go_upto_region 5 with (first | (go_at_call 9; refine hnew.out.mono ?_; rintro e w1 ⟨rfl, h2, h3⟩; have H2 := hideit h2; have H3 : Hid (Ext w w1) := hideit (Below.mono h3 hw0); clear h2 h3 hnew) | (go_at_call 10; refine (hrnew.out _ H3.out).mono ?_; rintro e w2 ⟨c2, kb, cp, rfl, h4, h5, _⟩; have H4 := hideit h4; have H5 := hideit (CipherAt.carry H2.out h5); have H6 : Hid (Ext w w2) := hideit (Ext.trans H3.out h5); clear h4 h5 H2 H3 hrnew) | (go_at_call 11; refine (alives_any _).mono ?_; rintro e w3 ⟨rfl, h7⟩; have HC := hideit (CipherAt.carry H5.out h7); have HR := hideit (RCip.carry H4.out h7); have HB : Hid (Ext w w3) := hideit (Ext.trans H6.out h7); clear h7 H4 H5 H6))
  go_upto_region 7 with (fail)
  refine wp_region_lit ?_
  refine wpList_build rfl 23 [] rfl _ (zbuild23 _) ?_
  simp only [Act.put, List.setIfInBounds_toArray, List.set_cons_zero, List.set_cons_succ]
  have hz := store_Y16
  obtain ⟨b, hb⟩ : ∃ b, b = w3.heap.size := ⟨_, rfl⟩
  have HEx : Ext w3 (w3.alloc (.cells (row 16 (yv fun _ => 0#8)).toArray 23)) := (Below.refl _ _).alloc (Nat.le_refl _) _
  have HN : RowAt b 16 (yv fun _ => 0#8) (w3.alloc (.cells (row 16 (yv fun _ => 0#8)).toArray 23)) := by rw [hb]; exact RowAt.new w3 16 (yv fun _ => 0#8) 23
  have HC1 := hideit (CipherAt.carry HC.out HEx)
  have HR1 := hideit (RCip.carry HR.out HEx)
  have HB1 := hideit (Ext.trans HB.out HEx)
  have hbc : b ≠ c1 := by have := HC.out.2.2; omega
  have hb2 : b ≠ c2 := by have := HR.out.inC; omega
  have hb3 : b ≠ kb := by have := HR.out.inK; omega
  have hbw : w.heap.size ≤ b := by have := Below.size HB.out; omega
  replace HN := hideit HN
  clear HC HR HB HEx
  go_upto_region 8 with (rw [← hb]; refine wpList_store_mid rfl 23 (.tmp 9) (.tmp 60) rfl _ 0 (row 16 (yv fun _ => 0#8)).toArray rfl rfl (by rw [row_size]; exact HN.out.there) (by rw [row_size]; exact info32) (row_one fun _ _ => rfl) ?_)
  have HW := hideit (HN.out.cells (g' := yv fun _ => 0#8))
  have HC := hideit (RowAt.cellsOther HC1.out hbc (row 16 (yv fun _ => 0#8)) 0 : CipherAt c1 r S bxT ubT twT _)
  have HR := hideit (HR1.out.other b hb2 hb3 (row 16 (yv fun _ => 0#8)) 0)
  have HB : Hid (Ext w _) := hideit (below_setCells b hbw (row 16 (yv fun _ => 0#8)) 0 _ HB1.out)
  clear HN HC1 HR1 HB1 hb
  generalize (w3.alloc (.cells (row 16 (yv fun _ => 0#8)).toArray 23)).setCells b 0 (row 16 (yv fun _ => 0#8)) = X at *
  clear hz
  have eh := HR.out.head
  by_cases hn : 0 ≤ n ∧ n < (r : Int) + 1
  · obtain ⟨hn0, hn1⟩ := hn
    obtain ⟨m, rfl⟩ := Int.eq_ofNat_of_zero_le hn0
    have hm : m < r + 1 := by omega
    have HK := hideit (HR.out.key m hm)
    go_upto_region 10 with (first | (refine wpList_load_mid rfl 23 (.tmp 77) rfl _ (m * 16) rfl (row 16 (yv (kF W m))) _ HK.out Try.underlying23 rfl (by rw [row_length]; exact info32) ?_) | (refine wpList_store_mid rfl 23 (.tmp 9) (.tmp 78) rfl _ 0 (row 16 (yv (kF W m))).toArray rfl rfl (by rw [row_size]; exact HW.out.there) (by rw [row_size]; exact info32) (row_one fun _ _ => rfl) ?_))
    have HW2 := hideit (HW.out.cells (g' := yv (kF W m)))
    have HC2 := hideit (RowAt.cellsOther HC.out hbc (row 16 (yv (kF W m))) 0 : CipherAt c1 r S bxT ubT twT _)
    have HR2 := hideit (HR.out.other b hb2 hb3 (row 16 (yv (kF W m))) 0)
    have HB2 : Hid (Ext w _) := hideit (below_setCells b hbw (row 16 (yv (kF W m))) 0 _ HB.out)
    clear HW HC HR HB HK eh
    generalize X.setCells b 0 (row 16 (yv (kF W m))) = Y at *
    obtain ⟨want, hwe⟩ : ∃ want, want = kF W m := ⟨_, rfl⟩
    rw [← hwe] at HW2
    have hwant : Hid (Eq16 (keyF r S (m : Int)) want) := fun j hj => by
      rw [hwe]
      unfold keyF kF
      rw [if_pos (by omega)]
      simpa using hSW.out (m * 16 + j) (by omega)
    clear hwe
    generalize (m : Int) = n at *
    have HW := HW2; have HC := HC2; have HR := HR2; have HB := HB2
    clear HW2 HC2 HR2 HB2
    simp only [Act.put, List.setIfInBounds_toArray, List.set_cons_zero, List.set_cons_succ]
    have hq1 := eq32 (keyF r S n) want
    rw [(same16_iff _ _).2 hwant.out] at hq1
    have hne := kept_ne Y.drew
    have e0 : ∀ k : Kept (Ext Y.drew), k.w.cell? ⟨c2, 0, none⟩ = some (.slice (some ⟨kb, 0, none⟩) (r + 1) cp) := fun k => (HR.out.drew.carry k.ok).head
    refine wp_region_kept (Ok := Ext Y.drew) (by kernel_rfl) (by kernel_rfl) (Ext.refl _) ?_
    repeat (go_big_quiet_step ((rename_i q; first | exact rfl | (go_at_call 17; exact (rounds_any c1 r S bxT ubT twT q.w (CipherAt.carry (RowAt.drew HC.out) q.ok)).mono fun e w'' h => ⟨h.1, ⟨⟨w'', by rw [h.2]; exact q.ok⟩, rfl⟩⟩) | (go_at_call 16; exact (key_any c1 r S bxT ubT twT n hr2 q.w (CipherAt.carry (RowAt.drew HC.out) q.ok)).mono fun e w'' h => ⟨h.1, ⟨⟨w'', Ext.trans q.ok h.2⟩, rfl⟩⟩))))
    go_big_quiet_want
    refine loadQ 23 (.tmp 9) b 0 16 (yv want) rfl rfl (fun w' hw' => (RowAt.carry (RowAt.drew HW.out) hw').range) Try.underlying23 rfl info32 ?_
    simp only [Act.put, List.setIfInBounds_toArray, List.set_cons_zero, List.set_cons_succ]
    go_big_quiet_on
    repeat (go_big_quiet_step (exact rfl))
    refine wpQuiet_nil ?_
    intro _ hw'
    obtain ⟨q, hq⟩ := hw'
    subst hq
    go_wp2
    go_ret
    exact ⟨rfl, Below.trans HB.out.drew (Below.mono q.ok (by have := HB.out.size; exact this))⟩
  · obtain ⟨want, hwe⟩ : ∃ want : Nat → BitVec 8, want = fun _ => 0#8 := ⟨_, rfl⟩
    rw [← hwe] at HW
    have hwant : Hid (Eq16 (keyF r S n) want) := fun j hj => by
      rw [hwe]
      unfold keyF
      rw [if_neg (by omega)]
    have hcond : (decide (0 ≤ n) && decide (n < (r : Int) + 1)) = false := by
      rw [Bool.and_eq_false_iff, decide_eq_false_iff_not, decide_eq_false_iff_not]; omega
    clear hwe
    generalize X = Y at *
    by_cases hn0 : 0 ≤ n
    · have hn1 : ¬ n < (r : Int) + 1 := by omega
      go_upto_region 10 with (fail)
      clear eh
      have hq1 := eq32 (keyF r S n) want
      rw [(same16_iff _ _).2 hwant.out] at hq1
      have hne := kept_ne Y.drew
      have e0 : ∀ k : Kept (Ext Y.drew), k.w.cell? ⟨c2, 0, none⟩ = some (.slice (some ⟨kb, 0, none⟩) (r + 1) cp) := fun k => (HR.out.drew.carry k.ok).head
      refine wp_region_kept (Ok := Ext Y.drew) (by kernel_rfl) (by kernel_rfl) (Ext.refl _) ?_
      repeat (go_big_quiet_step ((rename_i q; first | exact rfl | (go_at_call 17; exact (rounds_any c1 r S bxT ubT twT q.w (CipherAt.carry (RowAt.drew HC.out) q.ok)).mono fun e w'' h => ⟨h.1, ⟨⟨w'', by rw [h.2]; exact q.ok⟩, rfl⟩⟩) | (go_at_call 16; exact (key_any c1 r S bxT ubT twT n hr2 q.w (CipherAt.carry (RowAt.drew HC.out) q.ok)).mono fun e w'' h => ⟨h.1, ⟨⟨w'', Ext.trans q.ok h.2⟩, rfl⟩⟩))))
      go_big_quiet_want
      refine loadQ 23 (.tmp 9) b 0 16 (yv want) rfl rfl (fun w' hw' => (RowAt.carry (RowAt.drew HW.out) hw').range) Try.underlying23 rfl info32 ?_
      simp only [Act.put, List.setIfInBounds_toArray, List.set_cons_zero, List.set_cons_succ]
      go_big_quiet_on
      repeat (go_big_quiet_step (exact rfl))
      refine wpQuiet_nil ?_
      intro _ hw'
      obtain ⟨q, hq⟩ := hw'
      subst hq
      go_wp2
      go_ret
      exact ⟨rfl, Below.trans HB.out.drew (Below.mono q.ok (by have := HB.out.size; exact this))⟩
    · go_upto_region 10 with (fail)
      clear eh
      have hq1 := eq32 (keyF r S n) want
      rw [(same16_iff _ _).2 hwant.out] at hq1
      have hne := kept_ne Y.drew
      have e0 : ∀ k : Kept (Ext Y.drew), k.w.cell? ⟨c2, 0, none⟩ = some (.slice (some ⟨kb, 0, none⟩) (r + 1) cp) := fun k => (HR.out.drew.carry k.ok).head
      refine wp_region_kept (Ok := Ext Y.drew) (by kernel_rfl) (by kernel_rfl) (Ext.refl _) ?_
      repeat (go_big_quiet_step ((rename_i q; first | exact rfl | (go_at_call 17; exact (rounds_any c1 r S bxT ubT twT q.w (CipherAt.carry (RowAt.drew HC.out) q.ok)).mono fun e w'' h => ⟨h.1, ⟨⟨w'', by rw [h.2]; exact q.ok⟩, rfl⟩⟩) | (go_at_call 16; exact (key_any c1 r S bxT ubT twT n hr2 q.w (CipherAt.carry (RowAt.drew HC.out) q.ok)).mono fun e w'' h => ⟨h.1, ⟨⟨w'', Ext.trans q.ok h.2⟩, rfl⟩⟩))))
      go_big_quiet_want
      refine loadQ 23 (.tmp 9) b 0 16 (yv want) rfl rfl (fun w' hw' => (RowAt.carry (RowAt.drew HW.out) hw').range) Try.underlying23 rfl info32 ?_
      simp only [Act.put, List.setIfInBounds_toArray, List.set_cons_zero, List.set_cons_succ]
      go_big_quiet_on
      repeat (go_big_quiet_step (exact rfl))
      refine wpQuiet_nil ?_
      intro _ hw'
      obtain ⟨q, hq⟩ := hw'
      subst hq
      go_wp2
      go_ret
      exact ⟨rfl, Below.trans HB.out.drew (Below.mono q.ok (by have := HB.out.size; exact this))⟩
end Go.Proofs.Ytkoodgfadedeoaa
