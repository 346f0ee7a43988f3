/-
  fillTables: the tables of a key made ready; nothing that was there ahead of it turns.
-/
import Derived.Test.YtkoodgfadedeoabTabs
namespace Go.Proofs.Ytkoodgfadedeoab
open Go.RowKit Go.BigFrame
set_option maxRecDepth 20000 in
set_option maxHeartbeats 2000000 in
theorem fillTables_any (c r : Nat) (K : Nat → BitVec 8) (w : World) (h : CipherAt c r K (fun _ => 0#8) (fun _ => 0#8) (fun _ => 0#8) w) :
    Calls Try.prog 17 #[.pointer (some ⟨c, 0, none⟩)] w fun e w' => e = .returned (.tuple #[]) ∧ CipherAt c r K bxT ubT twT w' ∧ Below c w w' := by
  have HS := hideit h
  clear h
  go_enter Try.func17, Try.ntmps17
  go_wp2
  go_loopw [4] (fun i wr => ∃ n : Nat, n ≤ 256 ∧ i = .int .i64 n ∧ FillAt c r K w n wr) (fun i _ => 256 - (intOf i).toNat)
  case atStart =>
    refine ⟨0, by omega, rfl, RowAt.congr HS.out (fun j hj => ?_), Below.refl _ _⟩
    simp [cv, yv, bxP, ubP, twP]
  case round =>
    obtain ⟨n, hn, rfl, hT⟩ := hrel
    by_cases hlt : n < 256
    · have HT := hideit hT
      have hb := (bxT n).isLt
      have e1 := hT.1.1 (241 + n) (by omega)
      have g1 := hT.1.2.1 (241 + n) (by omega)
      have e2 := hT.1.1 (497 + (bxT n).toNat) (by omega)
      have g2 := hT.1.2.1 (497 + (bxT n).toNat) (by omega)
      clear hT
      have i0 : (0 : Int) ≤ (n : Int) := by omega
      have i1 : (n : Int) < 256 := by omega
      have i2 : ((bxT n).toNat : Int) < 256 := by omega
      go_wp2_with (go_at_call 29; refine (box_tab n hlt _).mono ?_; rintro e w' ⟨rfl, rfl⟩)
      have HW := hideit (RowAt.set (RowAt.set HT.out.1 (241 + n) (.int .u8 ((bxT n).toNat : Int))) (497 + (bxT n).toNat) (.int .u8 (n : Int)))
      have HWB := hideit ((HT.out.2.setCell (p := ⟨c, 241 + n, none⟩) (by simp) (.int .u8 ((bxT n).toNat : Int))).setCell (p := ⟨c, 497 + (bxT n).toNat, none⟩) (by simp) (.int .u8 (n : Int)))
      clear e1 g1 e2 g2 HT HS
      generalize (w'.setCell ⟨c, 241 + n, none⟩ (.int .u8 ((bxT n).toNat : Int))).setCell ⟨c, 497 + (bxT n).toNat, none⟩ (.int .u8 (n : Int)) = Y at *
      try simp only [Act.put]
      have hne := kept_ne (Y).drew
      refine wp_region_late 8 (by kernel_rfl) (by kernel_rfl) (by decide) ?_
      simp only [List.take_succ_cons, List.take_zero, List.drop_succ_cons, List.drop_zero]
      refine wpStrong_run 4 rfl ?_
      simp only [List.take_succ_cons, List.take_zero, List.drop_succ_cons, List.drop_zero]
      repeat (go_big_quiet_step (fail))
      refine wpQuiet_nil ?_
      refine wpStrong_call rfl (fun X => by simp [go_sem]) (fun X hX => mul_tab n hlt X) ?_
      simp only [Act.put, List.setIfInBounds_toArray, List.set_cons_zero, List.set_cons_succ]
      refine wpStrong_run 3 rfl ?_
      simp only [List.take_succ_cons, List.take_zero, List.drop_succ_cons, List.drop_zero]
      repeat (go_big_quiet_step (fail))
      refine wpQuiet_nil ?_
      refine wpStrong_nil ?_
      intro X hX
      have HX := hideit (RowAt.carry (RowAt.drew HW.out) hX)
      have HXB := hideit (Below.trans (HWB.out.drew) (Below.mono hX (Nat.le_of_lt HW.out.2.2)))
      have e4 := HX.out.1 (753 + n) (by omega)
      have g4 := HX.out.2.1 (753 + n) (by omega)
      clear hX
      go_wp2
      go_roundw
      case rel =>
        have HI : FillAt c r K w (n + 1) (X.setCell ⟨c, 753 + n, none⟩ (.int .u8 ((twT n).toNat : Int))) := ⟨RowAt.congr (RowAt.set HX.out (753 + n) _) (cv_step r K n hlt), HXB.out.setCell (by simp) _⟩
        first | exact ⟨(n + 1 : Nat), by omega, by go_num, HI⟩ | ((repeat apply Exists.intro); exact ⟨⟨n + 1, by omega, by go_num, HI⟩, rfl⟩)
      case measure => simp [intOf]; omega
    · obtain rfl : n = 256 := by omega
      have HT := hideit hT
      clear hT
      go_wp2
      exact bodyPost_end (v := .tuple #[]) (by simp [results, Try.results17]) rfl ⟨rfl, RowAt.congr HT.out.1 (cv_end r K), HT.out.2⟩
end Go.Proofs.Ytkoodgfadedeoab
