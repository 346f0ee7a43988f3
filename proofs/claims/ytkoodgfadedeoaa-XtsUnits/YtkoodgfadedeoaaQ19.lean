/-
  fillTables: the tables of a key made ready; nothing that was there ahead of it turns. New: what it makes of any key; nothing that was there turns.
-/
import Derived.Test.YtkoodgfadedeoaaQ11
import Derived.Test.YtkoodgfadedeoaaQ18
namespace Go.Proofs.Ytkoodgfadedeoaa
open Go.RowKit Go.BigFrame
set_option maxRecDepth 20000 in
set_option maxHeartbeats 2000000 in
theorem fillTables_any (c r : Nat) (K : Nat → BitVec 8) (w : World) (h : CipherAt c r K (fun _ => 0#8) (fun _ => 0#8) (fun _ => 0#8) w) :
    Calls Try.prog 27 #[.pointer (some ⟨c, 0, none⟩)] w fun e w' => e = .returned (.tuple #[]) ∧ CipherAt c r K bxT ubT twT w' ∧ Below c w w' := by
  have HS := hideit h
  clear h
  go_enter Try.func27, Try.ntmps27
  go_wp2
  go_loopw [4] (fun i wr => ∃ n : Nat, n ≤ 256 ∧ i = .int .i64 n ∧ FillAt c r K w n wr) (fun i _ => 256 - (intOf i).toNat)
  case atStart =>
    refine ⟨0, by omega, rfl, RowAt.congr HS.out (fun j hj => ?_), Below.refl _ _⟩
    simp [cv, yv, bxP, ubP, twP]
  case round =>
    obtain ⟨n, hn, rfl, hT⟩ := hrel
    by_cases hlt : n < 256
    · have HT := hideit hT
      have hb := (bxT n).isLt
      have e1 := hT.1.1 (241 + n) (by omega)
      have g1 := hT.1.2.1 (241 + n) (by omega)
      have e2 := hT.1.1 (497 + (bxT n).toNat) (by omega)
      have g2 := hT.1.2.1 (497 + (bxT n).toNat) (by omega)
      clear hT
      have i0 : (0 : Int) ≤ (n : Int) := by omega
      have i1 : (n : Int) < 256 := by omega
      have i2 : ((bxT n).toNat : Int) < 256 := by omega
      go_wp2_with (go_at_call 52; refine (box_tab n hlt _).mono ?_; rintro e w' ⟨rfl, rfl⟩)
      have HW := hideit (RowAt.set (RowAt.set HT.out.1 (241 + n) (.int .u8 ((bxT n).toNat : Int))) (497 + (bxT n).toNat) (.int .u8 (n : Int)))
      have HWB := hideit ((HT.out.2.setCell (p := ⟨c, 241 + n, none⟩) (by simp) (.int .u8 ((bxT n).toNat : Int))).setCell (p := ⟨c, 497 + (bxT n).toNat, none⟩) (by simp) (.int .u8 (n : Int)))
      clear e1 g1 e2 g2 HT HS
      generalize (w'.setCell ⟨c, 241 + n, none⟩ (.int .u8 ((bxT n).toNat : Int))).setCell ⟨c, 497 + (bxT n).toNat, none⟩ (.int .u8 (n : Int)) = Y at *
      try simp only [Act.put]
      have hne := kept_ne (Y).drew
      refine wp_region_late 8 (by kernel_rfl) (by kernel_rfl) (by decide) ?_
      simp only [List.take_succ_cons, List.take_zero, List.drop_succ_cons, List.drop_zero]
      refine wpStrong_run 4 rfl ?_
      simp only [List.take_succ_cons, List.take_zero, List.drop_succ_cons, List.drop_zero]
      repeat (go_big_quiet_step (fail))
      refine wpQuiet_nil ?_
      refine wpStrong_call rfl (fun X => by simp [go_sem]) (fun X hX => mul_tab n hlt X) ?_
      simp only [Act.put, List.setIfInBounds_toArray, List.set_cons_zero, List.set_cons_succ]
      refine wpStrong_run 3 rfl ?_
      simp only [List.take_succ_cons, List.take_zero, List.drop_succ_cons, List.drop_zero]
      repeat (go_big_quiet_step (fail))
      refine wpQuiet_nil ?_
      refine wpStrong_nil ?_
      intro X hX
      have HX := hideit (RowAt.carry (RowAt.drew HW.out) hX)
      have HXB := hideit (Below.trans (HWB.out.drew) (Below.mono hX (Nat.le_of_lt HW.out.2.2)))
      have e4 := HX.out.1 (753 + n) (by omega)
      have g4 := HX.out.2.1 (753 + n) (by omega)
      clear hX
      go_wp2
      go_roundw
      case rel =>
        have HI : FillAt c r K w (n + 1) (X.setCell ⟨c, 753 + n, none⟩ (.int .u8 ((twT n).toNat : Int))) := ⟨RowAt.congr (RowAt.set HX.out (753 + n) _) (cv_step r K n hlt), HXB.out.setCell (by simp) _⟩
        first | exact ⟨(n + 1 : Nat), by omega, by go_num, HI⟩ | ((repeat apply Exists.intro); exact ⟨⟨n + 1, by omega, by go_num, HI⟩, rfl⟩)
      case measure => simp [intOf]; omega
    · obtain rfl : n = 256 := by omega
      have HT := hideit hT
      clear hT
      go_wp2
      exact bodyPost_end (v := .tuple #[]) (by simp [results, Try.results27]) rfl ⟨rfl, RowAt.congr HT.out.1 (cv_end r K), HT.out.2⟩
end Go.Proofs.Ytkoodgfadedeoaa
namespace Go.Proofs.Ytkoodgfadedeoaa
open Go.RowKit Go.BigFrame
def schedK (k : Nat) (key : Nat → BitVec 8) : Nat → BitVec 8 := keyP (wordsF k bxT twT key) (16 * (k + 7))
def z8 : Nat → BitVec 8 := fun _ => 0#8
def zc : List Value := row 1009 (cv 0 z8 z8 z8 z8)
theorem zero59 (w : World) : Sem.run Try.prog (zeroValue 60) w = .ok (.agg zc.toArray) w := by kernel_rfl
theorem zc_at (w : World) (r : Nat) : CipherAt w.heap.size r (fun _ => 0#8) (fun _ => 0#8) (fun _ => 0#8) (fun _ => 0#8) (w.alloc (.cells (zc.set 0 (.int .i64 (r : Int))).toArray 60)) := by
  refine RowAt.newOf w 1009 _ 60 _ fun j hj => ?_
  rw [List.getElem?_toArray, List.getElem?_set]
  by_cases e : 0 = j
  · subst e
    rw [if_pos rfl, if_pos (by unfold zc; rw [row_length]; omega)]
    rfl
  · rw [if_neg e]
    unfold zc
    rw [row_get 1009 _ j hj]
    simp only [cv, if_neg (Ne.symm e)]
    rfl
set_option maxRecDepth 20000 in
set_option maxHeartbeats 1000000 in
theorem new_bad (a : Option Addr) (len cap : Nat) (h1 : len ≠ 16) (h2 : len ≠ 32) (w : World) :
    Calls Try.prog 9 #[.slice a len cap] w fun e w' => e = .returned (.tuple #[.pointer none, .int .i64 20]) ∧ w' = w := by
  have h1' : ¬ ((len : Int) = 16) := by omega
  have h2' : ¬ ((len : Int) = 32) := by omega
  have h3 : ((len : Int) != 16) = true := by simp; omega
  have h4 : ((len : Int) != 32) = true := by simp; omega
  go_enter Try.func9, Try.ntmps9
  go_wp2
  refine bodyPost_ret (results_tmp2 Try.results9 _ _ _) rfl ?_
  exact ⟨rfl, rfl⟩
set_option maxRecDepth 20000 in
set_option maxHeartbeats 1000000 in
theorem new4_any (a : Addr) (cap : Nat) (key : Nat → BitVec 8) (w : World) (hk : KeyAt a 16 key w) (hcap : 16 ≤ cap) :
    Calls Try.prog 9 #[.slice (some a) 16 cap] w fun e w' => e = .returned (.tuple #[.pointer (some ⟨w.heap.size, 0, none⟩), .int .i64 0]) ∧ CipherAt w.heap.size 10 (schedK 4 key) bxT ubT twT w' ∧ Below w.heap.size w w' := by
  have hz := zero59
  have HN := hideit (zc_at w 10)
  have HK := hideit (KeyAt.carry hk ((Below.refl _ _).alloc (Nat.le_refl _) (.cells (zc.set 0 (.int .i64 (10 : Int))).toArray 60)))
  have hkb : a.block < w.heap.size := hk.2
  clear hk
  go_enter Try.func9, Try.ntmps9
  go_wp2_with (first | (go_at_call 27; refine (fillTables_any w.heap.size 10 (fun _ => 0#8) _ HN.out).mono ?_; rintro e w2 ⟨rfl, h2, h3⟩; have H2 := hideit h2; have H3 := hideit h3; clear h2 h3) | (go_at_call 28; refine (fillKeys4_any w.heap.size cap bxT ubT twT key a _ H2.out (HK.out.below hkb H3.out) hcap).mono ?_; rintro e w3 ⟨rfl, h4, h5⟩; have H4 := hideit h4; have H5 := hideit h5; clear h4 h5))
  refine bodyPost_ret (results_tmp2 Try.results9 _ _ _) rfl ?_
  exact ⟨rfl, H4.out, Below.trans (Below.trans ((Below.refl _ _).alloc (Nat.le_refl _) _) H3.out) H5.out⟩
set_option maxRecDepth 20000 in
set_option maxHeartbeats 1000000 in
theorem new8_any (a : Addr) (cap : Nat) (key : Nat → BitVec 8) (w : World) (hk : KeyAt a 32 key w) (hcap : 32 ≤ cap) :
    Calls Try.prog 9 #[.slice (some a) 32 cap] w fun e w' => e = .returned (.tuple #[.pointer (some ⟨w.heap.size, 0, none⟩), .int .i64 0]) ∧ CipherAt w.heap.size 14 (schedK 8 key) bxT ubT twT w' ∧ Below w.heap.size w w' := by
  have hz := zero59
  have HN := hideit (zc_at w 14)
  have HK := hideit (KeyAt.carry hk ((Below.refl _ _).alloc (Nat.le_refl _) (.cells (zc.set 0 (.int .i64 (14 : Int))).toArray 60)))
  have hkb : a.block < w.heap.size := hk.2
  clear hk
  go_enter Try.func9, Try.ntmps9
  go_wp2_with (first | (go_at_call 27; refine (fillTables_any w.heap.size 14 (fun _ => 0#8) _ HN.out).mono ?_; rintro e w2 ⟨rfl, h2, h3⟩; have H2 := hideit h2; have H3 := hideit h3; clear h2 h3) | (go_at_call 28; refine (fillKeys8_any w.heap.size cap bxT ubT twT key a _ H2.out (HK.out.below hkb H3.out) hcap).mono ?_; rintro e w3 ⟨rfl, h4, h5⟩; have H4 := hideit h4; have H5 := hideit h5; clear h4 h5))
  refine bodyPost_ret (results_tmp2 Try.results9 _ _ _) rfl ?_
  exact ⟨rfl, H4.out, Below.trans (Below.trans ((Below.refl _ _).alloc (Nat.le_refl _) _) H3.out) H5.out⟩
end Go.Proofs.Ytkoodgfadedeoaa
