/-
  fillKeys: the round keys of a key made ready. fillTables: the tables of a key made ready; nothing that was there ahead of it turns. New: what it makes of any key; nothing that was there turns.
-/
import Derived.Test.YtfpfgbhdehbggaaGreatDoorQb24
import Derived.Deep.CutRange
import Derived.Test.YtfpfgbhdehbggaaGreatDoorQb1
import Derived.Test.YtfpfgbhdehbggaaGreatDoorQb22
namespace Go.Proofs.YtfpfgbhdehbggaaGreatDoor
set_option maxRecDepth 20000
open Go.RowKit Go.BigFrame
def keyP (S : Nat → BitVec 8) (m j : Nat) : BitVec 8 := if j < m then S j else 0#8
theorem cv_key (r : Nat) (S bx ub tw : Nat → BitVec 8) (m j : Nat) (hm : m + 4 ≤ 240) (hj : j < 1009) :
    (if 1 + m ≤ j ∧ j < 1 + m + 4 then yv (fun i => S (m + i)) (j - (1 + m)) else cv r (keyP S m) bx ub tw j) = cv r (keyP S (m + 4)) bx ub tw j := by
  unfold cv
  by_cases h0 : j = 0
  · subst h0
    rw [if_neg (by omega), if_pos rfl, if_pos rfl]
  by_cases h1 : j < 241
  · rw [if_neg h0, if_pos h1, if_neg h0, if_pos h1]
    by_cases hin : 1 + m ≤ j ∧ j < 1 + m + 4
    · rw [if_pos hin]
      simp only [yv, keyP]
      rw [if_pos (by omega), show m + (j - (1 + m)) = j - 1 by omega]
    · rw [if_neg hin]
      simp only [yv, keyP, show (j - 1 < m + 4) ↔ (j - 1 < m) by omega]
  · rw [if_neg (by omega), if_neg h0, if_neg h1, if_neg h0, if_neg h1]
def FKAt (c r : Nat) (bx ub tw S : Nat → BitVec 8) (w : World) (d m : Nat) (X : World) : Prop := CipherAt c r (keyP S m) bx ub tw X ∧ RowAt d 240 (yv S) X ∧ Below c w X
theorem FKAt.draw {c r d m : Nat} {bx ub tw S : Nat → BitVec 8} {w X Y : World} (h : FKAt c r bx ub tw S w d m X) (k : Ext X.drew Y) : FKAt c r bx ub tw S w d m Y :=
  ⟨RowAt.carry (RowAt.drew h.1) k, h.2.1.drew.carry k, Below.trans h.2.2.drew (Below.mono k (Nat.le_of_lt h.1.2.2))⟩
theorem FKAt.step {c r d m : Nat} {bx ub tw S : Nat → BitVec 8} {w X : World} (h : FKAt c r bx ub tw S w d m X) (hm : m + 4 ≤ 240) (hd : c ≠ d) : FKAt c r bx ub tw S w d (m + 4) (X.setCells c (1 + m) (row 4 (yv fun i => S (m + i)))) :=
  ⟨(RowAt.part h.1 (1 + m) 4 _ (by omega)).congr (fun j hj => cv_key r S bx ub tw m j hm hj), h.2.1.cellsOther hd _ _, below_setCells _ (Nat.le_refl _) _ _ _ h.2.2⟩
theorem cut16 (b off m : Nat) (hm : m < 4) (X : World) : Sem.run Tryz.prog (Instr.sliceAt 52 (.pointer (some ⟨b, off, none⟩)) (some (.int .i64 (4 * (m : Int)))) none none) X = .ok (.slice (some ⟨b, off + 4 * m, none⟩) (16 - 4 * m) (16 - 4 * m)) X := by
  rcases (by omega : m = 0 ∨ m = 1 ∨ m = 2 ∨ m = 3) with rfl | rfl | rfl | rfl <;> simp [go_sem]
set_option maxRecDepth 20000 in
set_option maxHeartbeats 4000000 in
theorem fillKeys4_any (c cap : Nat) (bx ub tw key : Nat → BitVec 8) (a : Addr) (w : World) (h : CipherAt c 10 (fun _ => 0#8) bx ub tw w) (hk : KeyAt a 16 key w) (hcap : 16 ≤ cap) :
    Calls Tryz.prog 85 #[.pointer (some ⟨c, 0, none⟩), .slice (some a) 16 cap] w fun e w' => e = .returned (.tuple #[]) ∧ CipherAt c 10 (keyP (wordsF 4 bx tw key) (16 * 11)) bx ub tw w' ∧ Below c w w' := by
  have hz := zero73
  have hcs : c < w.heap.size := h.2.2
  have HC := hideit h
  have HK := hideit hk
  clear h hk
  obtain ⟨S, hS⟩ : ∃ S, S = wordsF 4 bx tw key := ⟨_, rfl⟩
  rw [← hS]
  replace hS := hideit hS
  go_enter Tryz.func85, Tryz.ntmps85
  go_upto_region 1 with (first | (go_at_call 101; refine (words4_any c 10 cap (fun _ => 0#8) bx ub tw key a _ HC.out HK.out hcap).mono ?_; rw [← hS.out]; rintro e w2 ⟨rfl, hw2⟩; have HC2 := hideit (CipherAt.carry HC.out hw2); have HB2 := hideit (Below.mono hw2 (Nat.le_of_lt hcs)); obtain ⟨d, hd⟩ : ∃ d, d = w2.heap.size := ⟨_, rfl⟩; have hcd : c ≠ d := (by have h1 := HC2.out.2.2; omega); have HN : RowAt d 240 (yv fun _ => 0#8) (w2.alloc (.cells (row 240 (yv fun _ => 0#8)).toArray 152)) := (by rw [hd]; exact RowAt.new w2 240 (yv fun _ => 0#8) 152); replace HN := hideit HN; clear hw2) | (rw [← hd]; refine wpList_store_mid rfl 152 (.tmp 4) (.tmp 9) rfl _ 0 (row 240 (yv S)).toArray rfl rfl (by rw [row_size]; exact HN.out.there) (by rw [row_size]; exact info73) (row_one fun _ _ => rfl) ?_))
  have HY : FKAt c 10 bx ub tw S w d (16 * 0) ((w2.alloc (.cells (row 240 (yv fun _ => 0#8)).toArray 152)).setCells d 0 (row 240 (yv S))) := by
    refine ⟨RowAt.cellsOther (RowAt.alloc (RowAt.congr HC2.out fun j hj => ?_) _) (Ne.symm hcd) _ _, HN.out.cells, below_setCells _ (by have h1 := HC2.out.2.2; omega) _ _ _ (HB2.out.alloc (by have h1 := HC2.out.2.2; omega) _)⟩
    have he : keyP S (16 * 0) = fun _ => 0#8 := by funext i; unfold keyP; rw [if_neg (by omega)]
    rw [he]
  replace HY := hideit HY
  clear HC HK HC2 HB2 HN hd
  generalize (w2.alloc (.cells (row 240 (yv fun _ => 0#8)).toArray 152)).setCells d 0 (row 240 (yv S)) = Y at *
  have e0 := CipherAt.rounds HY.out.1
  go_wp2
  go_loopw [15] (fun i wr => ∃ n : Nat, n ≤ 11 ∧ i = .int .i64 n ∧ FKAt c 10 bx ub tw S w d (16 * n) wr) (fun i _ => 11 - (intOf i).toNat)
  case atStart => exact ⟨0, by omega, rfl, HY.out⟩
  case round =>
    obtain ⟨n, hn, rfl, hT⟩ := hrel
    have HT := hideit hT
    clear hT HY e0
    by_cases hlt : n < 11
    · have i0 : (0 : Int) ≤ (n : Int) := by omega
      have i1 : (n : Int) < 15 := by omega
      have i4 : (n : Int) < 11 := by omega
      go_wp2
      go_loopw [18] (fun i wr => ∃ m : Nat, m ≤ 4 ∧ i = .int .i64 m ∧ FKAt c 10 bx ub tw S w d (16 * n + 4 * m) wr) (fun i _ => 4 - (intOf i).toNat)
      case atStart => exact ⟨0, by omega, rfl, HT.out⟩
      case round =>
        obtain ⟨m, hm, rfl, hT⟩ := hrel
        have HV := hideit hT
        clear hT HT
        by_cases hlt4 : m < 4
        · have m0 : (0 : Int) ≤ (m : Int) := by omega
          have m1 : (m : Int) < 4 := by omega
          have hsl := cut16 c (1 + n * 16) m hlt4
          have m6 : (4 * (n : Int) + (m : Int)) < 60 := by omega
          go_upto_region 7 with fail
          have hne := kept_ne (wr).drew
          refine wp_region_late 14 (by kernel_rfl) (by kernel_rfl) (by decide) ?_
          simp only [List.take_succ_cons, List.take_zero, List.drop_succ_cons, List.drop_zero]
          refine wpStrong_run 14 rfl ?_
          simp only [List.take_succ_cons, List.take_zero, List.drop_succ_cons, List.drop_zero]
          repeat (go_big_quiet_step (fail))
          refine wpQuiet_nil ?_
          refine wpStrong_nil ?_
          intro X hX
          have HX := hideit (HV.out.draw hX)
          clear hX HV
          refine wpList_copy_row rfl (.tmp 28) (.tmp 34) 25 25 rfl 5 Tryz.underlying25 info5A _ 1009 _ HX.out.1 (1 + n * 16 + 4 * m) (16 - 4 * m) (16 - 4 * m) ⟨d, (4 * n + m) * 4, none⟩ 4 4 rfl rfl 4 (yv fun i => S (16 * n + 4 * m + i)) ((show min 4 (16 - 4 * m) = 4 by omega).symm) (fun j hj => by rw [Addr.add_mid, HX.out.2.1.1 ((4 * n + m) * 4 + j) (by omega)]; simp only [yv]; rw [show (4 * n + m) * 4 + j = 16 * n + 4 * m + j by omega]) (by omega) (fun _ _ => rfl) ?_
          have HI := hideit (HX.out.step (by omega) hcd)
          clear HX
          rw [show 1 + n * 16 + 4 * m = 1 + (16 * n + 4 * m) by omega]
          generalize X.setCells c (1 + (16 * n + 4 * m)) (row 4 (yv fun i => S (16 * n + 4 * m + i))) = V at *
          go_wp2
          go_roundw
          case rel =>
            have HJ : FKAt c 10 bx ub tw S w d (16 * n + 4 * (m + 1)) V := by
              have h1 : 16 * n + 4 * (m + 1) = 16 * n + 4 * m + 4 := by omega
              rw [h1]; exact HI.out
            first | exact ⟨(m + 1 : Nat), by omega, by go_num, HJ⟩ | ((repeat apply Exists.intro); exact ⟨⟨m + 1, by omega, by go_num, HJ⟩, rfl⟩)
          case measure => simp [intOf]; omega
        · obtain rfl : m = 4 := by omega
          have HI : FKAt c 10 bx ub tw S w d (16 * (n + 1)) wr := by
            have h1 : 16 * (n + 1) = 16 * n + 4 * 4 := by omega
            rw [h1]; exact HV.out
          go_wp2
          go_roundw
          case rel =>
            first | exact ⟨(n + 1 : Nat), by omega, by go_num, HI⟩ | ((repeat apply Exists.intro); exact ⟨⟨n + 1, by omega, by go_num, HI⟩, rfl⟩)
          case measure => simp [intOf]; omega
    · obtain rfl : n = 11 := by omega
      go_wp2
      exact bodyPost_end (v := .tuple #[]) (by simp [results, Tryz.results85]) rfl ⟨rfl, HT.out.1, HT.out.2.2⟩
end Go.Proofs.YtfpfgbhdehbggaaGreatDoor
namespace Go.Proofs.YtfpfgbhdehbggaaGreatDoor
set_option maxRecDepth 20000
open Go.RowKit Go.BigFrame
set_option maxRecDepth 20000 in
set_option maxHeartbeats 2000000 in
theorem fillTables_any (c r : Nat) (K : Nat → BitVec 8) (w : World) (h : CipherAt c r K (fun _ => 0#8) (fun _ => 0#8) (fun _ => 0#8) w) :
    Calls Tryz.prog 84 #[.pointer (some ⟨c, 0, none⟩)] w fun e w' => e = .returned (.tuple #[]) ∧ CipherAt c r K bxT ubT twT w' ∧ Below c w w' := by
  have HS := hideit h
  clear h
  go_enter Tryz.func84, Tryz.ntmps84
  go_wp2
  go_loopw [4] (fun i wr => ∃ n : Nat, n ≤ 256 ∧ i = .int .i64 n ∧ FillAt c r K w n wr) (fun i _ => 256 - (intOf i).toNat)
  case atStart =>
    refine ⟨0, by omega, rfl, RowAt.congr HS.out (fun j hj => ?_), Below.refl _ _⟩
    simp [cv, yv, bxP, ubP, twP]
  case round =>
    obtain ⟨n, hn, rfl, hT⟩ := hrel
    by_cases hlt : n < 256
    · have HT := hideit hT
      have hb := (bxT n).isLt
      have e1 := hT.1.1 (241 + n) (by omega)
      have g1 := hT.1.2.1 (241 + n) (by omega)
      have e2 := hT.1.1 (497 + (bxT n).toNat) (by omega)
      have g2 := hT.1.2.1 (497 + (bxT n).toNat) (by omega)
      clear hT
      have i0 : (0 : Int) ≤ (n : Int) := by omega
      have i1 : (n : Int) < 256 := by omega
      have i2 : ((bxT n).toNat : Int) < 256 := by omega
      go_wp2_with (go_at_call 99; refine (box_tab n hlt _).mono ?_; rintro e w' ⟨rfl, rfl⟩)
      have HW := hideit (RowAt.set (RowAt.set HT.out.1 (241 + n) (.int .u8 ((bxT n).toNat : Int))) (497 + (bxT n).toNat) (.int .u8 (n : Int)))
      have HWB := hideit ((HT.out.2.setCell (p := ⟨c, 241 + n, none⟩) (by simp) (.int .u8 ((bxT n).toNat : Int))).setCell (p := ⟨c, 497 + (bxT n).toNat, none⟩) (by simp) (.int .u8 (n : Int)))
      clear e1 g1 e2 g2 HT HS
      generalize (w'.setCell ⟨c, 241 + n, none⟩ (.int .u8 ((bxT n).toNat : Int))).setCell ⟨c, 497 + (bxT n).toNat, none⟩ (.int .u8 (n : Int)) = Y at *
      try simp only [Act.put]
      have hne := kept_ne (Y).drew
      refine wp_region_late 8 (by kernel_rfl) (by kernel_rfl) (by decide) ?_
      simp only [List.take_succ_cons, List.take_zero, List.drop_succ_cons, List.drop_zero]
      refine wpStrong_run 4 rfl ?_
      simp only [List.take_succ_cons, List.take_zero, List.drop_succ_cons, List.drop_zero]
      repeat (go_big_quiet_step (fail))
      refine wpQuiet_nil ?_
      refine wpStrong_call rfl (fun X => by simp [go_sem]) (fun X hX => mul_tab n hlt X) ?_
      simp only [zp0, zp1, zp2, zp3]
      refine wpStrong_run 3 rfl ?_
      simp only [List.take_succ_cons, List.take_zero, List.drop_succ_cons, List.drop_zero]
      repeat (go_big_quiet_step (fail))
      refine wpQuiet_nil ?_
      refine wpStrong_nil ?_
      intro X hX
      have HX := hideit (RowAt.carry (RowAt.drew HW.out) hX)
      have HXB := hideit (Below.trans (HWB.out.drew) (Below.mono hX (Nat.le_of_lt HW.out.2.2)))
      have e4 := HX.out.1 (753 + n) (by omega)
      have g4 := HX.out.2.1 (753 + n) (by omega)
      clear hX
      go_wp2
      go_roundw
      case rel =>
        have HI : FillAt c r K w (n + 1) (X.setCell ⟨c, 753 + n, none⟩ (.int .u8 ((twT n).toNat : Int))) := ⟨RowAt.congr (RowAt.set HX.out (753 + n) _) (cv_step r K n hlt), HXB.out.setCell (by simp) _⟩
        first | exact ⟨(n + 1 : Nat), by omega, by go_num, HI⟩ | ((repeat apply Exists.intro); exact ⟨⟨n + 1, by omega, by go_num, HI⟩, rfl⟩)
      case measure => simp [intOf]; omega
    · obtain rfl : n = 256 := by omega
      have HT := hideit hT
      clear hT
      go_wp2
      exact bodyPost_end (v := .tuple #[]) (by simp [results, Tryz.results84]) rfl ⟨rfl, RowAt.congr HT.out.1 (cv_end r K), HT.out.2⟩
end Go.Proofs.YtfpfgbhdehbggaaGreatDoor
namespace Go.Proofs.YtfpfgbhdehbggaaGreatDoor
set_option maxRecDepth 20000
open Go.RowKit Go.BigFrame
def schedK (k : Nat) (key : Nat → BitVec 8) : Nat → BitVec 8 := keyP (wordsF k bxT twT key) (16 * (k + 7))
def z8 : Nat → BitVec 8 := fun _ => 0#8
def zc : List Value := row 1009 (cv 0 z8 z8 z8 z8)
theorem zero59 (w : World) : Sem.run Tryz.prog (zeroValue 111) w = .ok (.agg zc.toArray) w := by kernel_rfl
theorem zc_at (w : World) (r : Nat) : CipherAt w.heap.size r (fun _ => 0#8) (fun _ => 0#8) (fun _ => 0#8) (fun _ => 0#8) (w.alloc (.cells (zc.set 0 (.int .i64 (r : Int))).toArray 111)) := by
  refine RowAt.newOf w 1009 _ 111 _ fun j hj => ?_
  rw [List.getElem?_toArray, List.getElem?_set]
  by_cases e : 0 = j
  · subst e
    rw [if_pos rfl, if_pos (by unfold zc; rw [row_length]; omega)]
    rfl
  · rw [if_neg e]
    unfold zc
    rw [row_get 1009 _ j hj]
    simp only [cv, if_neg (Ne.symm e)]
    rfl
set_option maxRecDepth 20000 in
set_option maxHeartbeats 1000000 in
theorem new4_any (a : Addr) (cap : Nat) (key : Nat → BitVec 8) (w : World) (hk : KeyAt a 16 key w) (hcap : 16 ≤ cap) :
    Calls Tryz.prog 58 #[.slice (some a) 16 cap] w fun e w' => e = .returned (.tuple #[.pointer (some ⟨w.heap.size, 0, none⟩), .int .i64 0]) ∧ CipherAt w.heap.size 10 (schedK 4 key) bxT ubT twT w' ∧ Below w.heap.size w w' := by
  have hz := zero59
  have HN := hideit (zc_at w 10)
  have HK := hideit (KeyAt.carry hk ((Below.refl _ _).alloc (Nat.le_refl _) (.cells (zc.set 0 (.int .i64 (10 : Int))).toArray 111)))
  have hkb : a.block < w.heap.size := hk.2
  clear hk
  go_enter Tryz.func58, Tryz.ntmps58
  go_wp2_with (first | (go_at_call 84; refine (fillTables_any w.heap.size 10 (fun _ => 0#8) _ HN.out).mono ?_; rintro e w2 ⟨rfl, h2, h3⟩; have H2 := hideit h2; have H3 := hideit h3; clear h2 h3) | (go_at_call 85; refine (fillKeys4_any w.heap.size cap bxT ubT twT key a _ H2.out (HK.out.below hkb H3.out) hcap).mono ?_; rintro e w3 ⟨rfl, h4, h5⟩; have H4 := hideit h4; have H5 := hideit h5; clear h4 h5))
  refine bodyPost_ret (results_tmp2 Tryz.results58 _ _ _) rfl ?_
  exact ⟨rfl, H4.out, Below.trans (Below.trans ((Below.refl _ _).alloc (Nat.le_refl _) _) H3.out) H5.out⟩
end Go.Proofs.YtfpfgbhdehbggaaGreatDoor
