/-
  The document's own Decrypt. The program's enciphering and the document's are the same, block by block. What the document's Of and Bytes answer: for every sixteen bytes, for every tweak, in every world, of which nothing that was there turns.
-/
import Derived.Test.YtfpfgbhdehbggaaGreatDoorQb1
import Derived.Test.YtfpfgbhdehbggaaGreatDoorQb36
import Derived.Test.YtfpfgbhdehbggaaGreatDoorQb26
import Derived.Test.YtfpfgbhdehbggaaGreatDoorQb34
import Derived.Test.YtfpfgbhdehbggaaGreatDoorQb19
namespace Go.Proofs.YtfpfgbhdehbggaaGreatDoor
set_option maxRecDepth 20000
open Go.RowKit Go.BigFrame
def rdecM (N : Nat) (n : Nat) (f : Nat → BitVec 8) : Nat → BitVec 8 := if n < N - 1 then rmixF (fac 14#8 11#8 13#8 9#8) f else f
def rdecK (N : Nat) (K ub f : Nat → BitVec 8) : Nat → Nat → BitVec 8
  | 0 => f
  | m + 1 => replF ub (turnF 1 (turnF 1 (turnF 1 (rdecM N (N - 1 - m) (addF (rdecK N K ub f m) (kF K (N - 1 - m)))))))
theorem fac_row2 : (Value.agg (((((row 4 (yv fun _ => 0#8)).set 0 (.int .u8 14)).set 1 (.int .u8 11)).set 2 (.int .u8 13)).set 3 (.int .u8 9)).toArray) = .agg (row 4 (yv (fac 14#8 11#8 13#8 9#8))).toArray := rfl
set_option maxRecDepth 20000 in
set_option maxHeartbeats 2000000 in
theorem rdec_any (c kb cap N : Nat) (K bx ub f : Nat → BitVec 8) (hN : 1 ≤ N) (hN2 : N ≤ 15) (w : World) (h : RCip c kb cap N K bx ub w) :
    Calls Tryz.prog 96 #[.pointer (some ⟨c, 0, none⟩), .agg (row 16 (yv f)).toArray] w fun e w' => e = .returned (.agg (row 16 (yv (addF (rdecK N K ub f (N - 1)) (kF K 0)))).toArray) ∧ Below w.heap.size w w' := by
  have hz := store_Y16
  have hz4 := zero63''
  have hcs : c < w.heap.size := h.inC
  have hks : kb < w.heap.size := h.inK
  have hcb : ¬ (c = w.heap.size) := by omega
  have hcb2 : ¬ (w.heap.size = c) := by omega
  have HS : RSt c kb cap N K bx ub w.heap.size w f ((w.alloc (.cells (row 16 (yv f)).toArray 52)).alloc (.cells (row 16 (yv fun _ => 0#8)).toArray 52)) := by
    refine ⟨(RowAt.new w 16 (yv f) 52).alloc _, ?_, h.carry (((Below.refl _ _).alloc (Nat.le_refl _) _).alloc (by simp) _), ((Below.refl _ _).alloc (Nat.le_refl _) _).alloc (by simp) _⟩
    have := RowAt.new (w.alloc (.cells (row 16 (yv f)).toArray 52)) 16 (yv fun _ => 0#8) 52
    simpa using this
  replace HS := hideit HS
  clear h
  have iN : (1 : Int) ≤ (N : Int) := by omega
  go_enter Tryz.func96, Tryz.ntmps96
  go_upto_region 1 with fail
  generalize (w.alloc (.cells (row 16 (yv f)).toArray 52)).alloc (.cells (row 16 (yv fun _ => 0#8)).toArray 52) = W at *
  have e0 := HS.out.2.2.1.head
  have i2 : ((N - 1 : Nat) : Int) = (N : Int) - 1 := by omega
  go_wp2
  go_loopw [5] (fun i wr => ∃ n : Nat, n ≤ N - 1 ∧ i = .int .i64 n ∧ RSt c kb cap N K bx ub w.heap.size w (rdecK N K ub f (N - 1 - n)) wr) (fun i _ => (intOf i).toNat)
  case atStart => exact ⟨N - 1, by omega, by rw [i2], by rw [Nat.sub_self]; exact HS.out⟩
  case round =>
    obtain ⟨n, hn, rfl, hT⟩ := hrel
    have HT := hideit hT
    clear hT HS e0
    by_cases hlt : 1 ≤ n
    · have n1 : (1 : Int) ≤ (n : Int) := by omega
      have n0 : (0 : Int) ≤ (n : Int) := by omega
      have n2 : (n : Int) < (N : Int) := by omega
      obtain ⟨S, hS⟩ : ∃ S, S = rdecK N K ub f (N - 1 - n) := ⟨_, rfl⟩
      rw [← hS] at HT
      have hnext : rdecK N K ub f (N - 1 - (n - 1)) = replF ub (turnF 1 (turnF 1 (turnF 1 (rdecM N n (addF S (kF K n)))))) := by
        obtain ⟨m, hm⟩ : ∃ m, m = N - 1 - n := ⟨_, rfl⟩
        have h1 : N - 1 - (n - 1) = m + 1 := by omega
        have h2 : N - 1 - m = n := by omega
        rw [hS, h1, ← hm]
        show replF ub (turnF 1 (turnF 1 (turnF 1 (rdecM N (N - 1 - m) (addF (rdecK N K ub f m) (kF K (N - 1 - m))))))) = _
        rw [h2]
      replace hS := hideit hS
      replace hnext := hideit hnext
      go_upto_region 4 with fail
      have e0 : ∀ k : Kept (Ext wr.drew), k.w.cell? ⟨c, 0, none⟩ = some (.slice (some ⟨kb, 0, none⟩) N cap) := fun k => (HT.out.2.2.1.drew.carry k.ok).head
      have hne := kept_ne (wr).drew
      refine wp_region_late 9 (by kernel_rfl) (by kernel_rfl) (by decide) ?_
      simp only [List.take_succ_cons, List.take_zero, List.drop_succ_cons, List.drop_zero]
      refine wpStrong_run 8 rfl ?_
      simp only [List.take_succ_cons, List.take_zero, List.drop_succ_cons, List.drop_zero]
      go_big_quiet_want
      refine load16 (.tmp 3) _ 0 (S) rfl rfl (fun w' hw' => (HT.out.1.drew.carry hw').range) ?_
      simp only [zp0, zp1, zp2, zp3]
      go_big_quiet_on
      repeat (go_big_quiet_step (fail))
      go_big_quiet_want
      refine load16 (.tmp 23) _ (n * 16) (kF K n) rfl rfl (fun w' hw' => (HT.out.2.2.1.drew.carry hw').key n (by omega)) ?_
      simp only [zp0, zp1, zp2, zp3]
      go_big_quiet_on
      refine wpQuiet_nil ?_
      refine wpStrong_call rfl (fun X => by simp [go_sem]) (fun X hX => radd_any S (kF K n) X) ?_
      simp only [zp0, zp1, zp2, zp3]
      refine wpStrong_nil ?_
      intro X hX
      have HX := hideit (HT.out.draw rfl hX)
      clear hX HT e0
      refine wpList_store_mid rfl 52 (.tmp 3) (.tmp 25) rfl _ 0 (row 16 (yv (addF S (kF K n)))).toArray rfl rfl (by rw [row_size]; exact HX.out.1.there) (by rw [row_size]; exact info32) (row_one fun _ _ => rfl) ?_
      have HY := hideit (HX.out.put hcs hks (addF S (kF K n)))
      clear HX
      generalize X.setCells w.heap.size 0 (row 16 (yv (addF S (kF K n)))) = Y at *
      generalize addF S (kF K n) = A at *
      go_upto_region 5 with fail
      have e0 := HY.out.2.2.1.head
      by_cases hl2 : n < N - 1
      · have hl3 : (n : Int) < (N : Int) - 1 := by omega
        have hM : rdecM N n A = rmixF (fac 14#8 11#8 13#8 9#8) A := by unfold rdecM; rw [if_pos hl2]
        rw [hM] at hnext
        have hfr := hideit fac_row2
        go_upto_region 7 with (first | (refine wpList_load_mid rfl 52 (.tmp 3) rfl _ 0 rfl (row 16 (yv A)) _ HY.out.1.range Tryz.underlying52 rfl (by rw [row_length]; exact info32) ?_) | (go_at_call 111; rw [hfr.out]; refine (rmix_any (fac 14#8 11#8 13#8 9#8) A _).mono ?_; rintro e w3 ⟨rfl, hw3⟩; have HB2 := hideit (HY.out.ext rfl hw3); clear hw3) | (refine wpList_store_mid rfl 52 (.tmp 3) (.tmp 36) rfl _ 0 (row 16 (yv (rmixF (fac 14#8 11#8 13#8 9#8) A))).toArray rfl rfl (by rw [row_size]; exact HB2.out.1.there) (by rw [row_size]; exact info32) (row_one fun _ _ => rfl) ?_))
        have HB := hideit (HB2.out.put hcs hks (rmixF (fac 14#8 11#8 13#8 9#8) A))
        clear HY HB2 e0 hM hfr
        generalize w3.setCells w.heap.size 0 (row 16 (yv (rmixF (fac 14#8 11#8 13#8 9#8) A))) = Y3 at *
        generalize rmixF (fac 14#8 11#8 13#8 9#8) A = U at *
        try simp only [Act.put]
        go_upto_region 8 with (first | (refine wpList_load_mid rfl 52 (.tmp 3) rfl _ 0 rfl (row 16 (yv U)) _ HB.out.1.range Tryz.underlying52 rfl (by rw [row_length]; exact info32) ?_) | (go_at_call 110; refine (shift_any _ _).mono ?_; rintro e w4 ⟨rfl, hw4⟩; replace HB := hideit (HB.out.ext rfl hw4); clear hw4) | (refine wpList_store_mid rfl 52 (.tmp 3) (.tmp 40) rfl _ 0 (row 16 (yv (turnF 1 (turnF 1 (turnF 1 U))))).toArray rfl rfl (by rw [row_size]; exact HB.out.1.there) (by rw [row_size]; exact info32) (row_one fun _ _ => rfl) ?_))
        rename_i w5
        have HD := hideit (HB.out.put hcs hks (turnF 1 (turnF 1 (turnF 1 U))))
        clear HB
        revert HD
        generalize World.setCells _ w.heap.size 0 (row 16 (yv (turnF 1 (turnF 1 (turnF 1 U))))) = Y4
        intro HD
        generalize turnF 1 (turnF 1 (turnF 1 U)) = V at *
        try simp only [Act.put]
        go_wp2
        have hz0 := hideit (rplP_zero ub V)
        go_loopw [6] (fun i wr => ∃ m : Nat, m ≤ 16 ∧ i = .int .i64 m ∧ RSt c kb cap N K bx ub w.heap.size w (rplP ub V m) wr) (fun i _ => 16 - (intOf i).toNat)
        case atStart => exact ⟨0, by omega, rfl, by rw [hz0.out]; exact HD.out⟩
        case round =>
          obtain ⟨m, hm, rfl, hT⟩ := hrel
          have HV := hideit hT
          clear hT HD hz0
          by_cases hlm : m < 16
          · have m0 : (0 : Int) ≤ (m : Int) := by omega
            have m1 : (m : Int) < 16 := by omega
            have sl1 := (V m).isLt
            have sl2 : ((V m).toNat : Int) < 256 := by omega
            have e1 : ∀ k : Kept (Ext wr.drew), k.w.cell? ⟨w.heap.size, m, none⟩ = some (.int .u8 ((V m).toNat : Int)) := fun k => by
              rw [(HV.out.1.drew.carry k.ok).1 m hlm]
              simp only [yv, rplP_self]
            have e2 : ∀ k : Kept (Ext wr.drew), k.w.cell? ⟨c, 257 + (V m).toNat, none⟩ = some (.int .u8 ((replF ub V m).toNat : Int)) := fun k => (HV.out.2.2.1.drew.carry k.ok).unbox _ sl1
            go_upto_region 11 with fail
            have hne := kept_ne (wr).drew
            refine wp_region_late 10 (by kernel_rfl) (by kernel_rfl) (by decide) ?_
            simp only [List.take_succ_cons, List.take_zero, List.drop_succ_cons, List.drop_zero]
            refine wpStrong_run 10 rfl ?_
            simp only [List.take_succ_cons, List.take_zero, List.drop_succ_cons, List.drop_zero]
            repeat (go_big_quiet_step (fail))
            refine wpQuiet_nil ?_
            refine wpStrong_nil ?_
            intro X hX
            have HX := hideit (HV.out.draw rfl hX)
            clear hX e1 e2
            have e3 := HX.out.1.1 m hlm
            have g3 := HX.out.1.2.1 m hlm
            have HI := hideit (HX.out.byte hcs hks m (replF ub V m) (rplP ub V (m + 1)) (fun j _ => rplP_step ub V m j))
            go_wp2
            go_roundw
            case rel =>
              first | exact ⟨(m + 1 : Nat), by omega, by go_num, HI.out⟩ | ((repeat apply Exists.intro); exact ⟨⟨m + 1, by omega, by go_num, HI.out⟩, rfl⟩)
            case measure => simp [intOf]; omega
          · obtain rfl : m = 16 := by omega
            have HA : RSt c kb cap N K bx ub w.heap.size w (rdecK N K ub f (N - 1 - (n - 1))) wr := by
              rw [hnext.out]
              exact ⟨HV.out.1.congr (fun j hj => by simp only [yv, rplP]; rw [if_pos hj]), HV.out.2⟩
            replace HA := hideit HA
            have i3 : ((n - 1 : Nat) : Int) = (n : Int) - 1 := by omega
            go_wp2
            go_roundw
            case rel =>
              first | exact ⟨(n - 1 : Nat), by omega, by first | go_num | (rw [i3]) | (simp only [i3]), HA.out⟩ | ((repeat apply Exists.intro); exact ⟨⟨n - 1, by omega, by first | go_num | (rw [i3]) | (simp only [i3]), HA.out⟩, rfl⟩)
            case measure => simp [intOf]; omega
      · have hl3 : ¬ ((n : Int) < (N : Int) - 1) := by omega
        have hM : rdecM N n A = A := by unfold rdecM; rw [if_neg hl2]
        rw [hM] at hnext
        have HB := HY
        clear HY hM
        go_upto_region 7 with fail
        clear e0
        generalize hU : A = U at *
        go_upto_region 8 with (first | (refine wpList_load_mid rfl 52 (.tmp 3) rfl _ 0 rfl (row 16 (yv U)) _ HB.out.1.range Tryz.underlying52 rfl (by rw [row_length]; exact info32) ?_) | (go_at_call 110; refine (shift_any _ _).mono ?_; rintro e w4 ⟨rfl, hw4⟩; replace HB := hideit (HB.out.ext rfl hw4); clear hw4) | (refine wpList_store_mid rfl 52 (.tmp 3) (.tmp 40) rfl _ 0 (row 16 (yv (turnF 1 (turnF 1 (turnF 1 U))))).toArray rfl rfl (by rw [row_size]; exact HB.out.1.there) (by rw [row_size]; exact info32) (row_one fun _ _ => rfl) ?_))
        rename_i w5
        have HD := hideit (HB.out.put hcs hks (turnF 1 (turnF 1 (turnF 1 U))))
        clear HB
        revert HD
        generalize World.setCells _ w.heap.size 0 (row 16 (yv (turnF 1 (turnF 1 (turnF 1 U))))) = Y4
        intro HD
        generalize turnF 1 (turnF 1 (turnF 1 U)) = V at *
        try simp only [Act.put]
        go_wp2
        have hz0 := hideit (rplP_zero ub V)
        go_loopw [6] (fun i wr => ∃ m : Nat, m ≤ 16 ∧ i = .int .i64 m ∧ RSt c kb cap N K bx ub w.heap.size w (rplP ub V m) wr) (fun i _ => 16 - (intOf i).toNat)
        case atStart => exact ⟨0, by omega, rfl, by rw [hz0.out]; exact HD.out⟩
        case round =>
          obtain ⟨m, hm, rfl, hT⟩ := hrel
          have HV := hideit hT
          clear hT HD hz0
          by_cases hlm : m < 16
          · have m0 : (0 : Int) ≤ (m : Int) := by omega
            have m1 : (m : Int) < 16 := by omega
            have sl1 := (V m).isLt
            have sl2 : ((V m).toNat : Int) < 256 := by omega
            have e1 : ∀ k : Kept (Ext wr.drew), k.w.cell? ⟨w.heap.size, m, none⟩ = some (.int .u8 ((V m).toNat : Int)) := fun k => by
              rw [(HV.out.1.drew.carry k.ok).1 m hlm]
              simp only [yv, rplP_self]
            have e2 : ∀ k : Kept (Ext wr.drew), k.w.cell? ⟨c, 257 + (V m).toNat, none⟩ = some (.int .u8 ((replF ub V m).toNat : Int)) := fun k => (HV.out.2.2.1.drew.carry k.ok).unbox _ sl1
            go_upto_region 11 with fail
            have hne := kept_ne (wr).drew
            refine wp_region_late 10 (by kernel_rfl) (by kernel_rfl) (by decide) ?_
            simp only [List.take_succ_cons, List.take_zero, List.drop_succ_cons, List.drop_zero]
            refine wpStrong_run 10 rfl ?_
            simp only [List.take_succ_cons, List.take_zero, List.drop_succ_cons, List.drop_zero]
            repeat (go_big_quiet_step (fail))
            refine wpQuiet_nil ?_
            refine wpStrong_nil ?_
            intro X hX
            have HX := hideit (HV.out.draw rfl hX)
            clear hX e1 e2
            have e3 := HX.out.1.1 m hlm
            have g3 := HX.out.1.2.1 m hlm
            have HI := hideit (HX.out.byte hcs hks m (replF ub V m) (rplP ub V (m + 1)) (fun j _ => rplP_step ub V m j))
            go_wp2
            go_roundw
            case rel =>
              first | exact ⟨(m + 1 : Nat), by omega, by go_num, HI.out⟩ | ((repeat apply Exists.intro); exact ⟨⟨m + 1, by omega, by go_num, HI.out⟩, rfl⟩)
            case measure => simp [intOf]; omega
          · obtain rfl : m = 16 := by omega
            have HA : RSt c kb cap N K bx ub w.heap.size w (rdecK N K ub f (N - 1 - (n - 1))) wr := by
              rw [hnext.out]
              exact ⟨HV.out.1.congr (fun j hj => by simp only [yv, rplP]; rw [if_pos hj]), HV.out.2⟩
            replace HA := hideit HA
            have i3 : ((n - 1 : Nat) : Int) = (n : Int) - 1 := by omega
            go_wp2
            go_roundw
            case rel =>
              first | exact ⟨(n - 1 : Nat), by omega, by first | go_num | (rw [i3]) | (simp only [i3]), HA.out⟩ | ((repeat apply Exists.intro); exact ⟨⟨n - 1, by omega, by first | go_num | (rw [i3]) | (simp only [i3]), HA.out⟩, rfl⟩)
            case measure => simp [intOf]; omega
    · obtain rfl : n = 0 := by omega
      obtain ⟨G, hG⟩ : ∃ G, G = rdecK N K ub f (N - 1) := ⟨_, rfl⟩
      rw [Nat.sub_zero, ← hG] at HT
      replace hG := hideit hG
      have i5 : (0 : Int) < (N : Int) := by omega
      go_upto_region 12 with fail
      have e0 : ∀ k : Kept (Ext wr.drew), k.w.cell? ⟨c, 0, none⟩ = some (.slice (some ⟨kb, 0, none⟩) N cap) := fun k => (HT.out.2.2.1.drew.carry k.ok).head
      have hne := kept_ne (wr).drew
      refine wp_region_late 8 (by kernel_rfl) (by kernel_rfl) (by decide) ?_
      simp only [List.take_succ_cons, List.take_zero, List.drop_succ_cons, List.drop_zero]
      refine wpStrong_run 7 rfl ?_
      simp only [List.take_succ_cons, List.take_zero, List.drop_succ_cons, List.drop_zero]
      go_big_quiet_want
      refine load16 (.tmp 3) _ 0 (G) rfl rfl (fun w' hw' => (HT.out.1.drew.carry hw').range) ?_
      simp only [zp0, zp1, zp2, zp3]
      go_big_quiet_on
      repeat (go_big_quiet_step (fail))
      go_big_quiet_want
      refine load16 (.tmp 60) _ 0 (kF K 0) rfl rfl (fun w' hw' => by have h1 := (HT.out.2.2.1.drew.carry hw').key 0 (by omega); simpa using h1) ?_
      simp only [zp0, zp1, zp2, zp3]
      go_big_quiet_on
      refine wpQuiet_nil ?_
      refine wpStrong_call rfl (fun X => by simp [go_sem]) (fun X hX => radd_any G (kF K 0) X) ?_
      simp only [zp0, zp1, zp2, zp3]
      refine wpStrong_nil ?_
      intro X hX
      have HX := hideit (HT.out.draw rfl hX)
      clear hX HT e0
      refine wpList_store_mid rfl 52 (.tmp 4) (.tmp 62) rfl _ 0 (row 16 (yv (addF G (kF K 0)))).toArray rfl rfl (by rw [row_size]; exact HX.out.2.1.there) (by rw [row_size]; exact info32) (row_one fun _ _ => rfl) ?_
      go_wp2
      exact bodyPost_ret (ret_row Tryz.results96 rfl (HX.out.2.1.cells (g' := yv (addF G (kF K 0)))) Tryz.underlying52 rfl info32) rfl ⟨by rw [hG.out], below_setCells _ (by omega) _ _ _ HX.out.2.2.2⟩
end Go.Proofs.YtfpfgbhdehbggaaGreatDoor
namespace Go.Proofs.YtfpfgbhdehbggaaGreatDoor
set_option maxRecDepth 20000
theorem mB1 : ∀ x : BitVec 8, mB 1#8 x = x := by decide +kernel
theorem mB2 : ∀ x : BitVec 8, mB 2#8 x = dX 27#8 x := by decide +kernel
theorem mB3 : ∀ x : BitVec 8, mB 3#8 x = dX 27#8 x ^^^ x := by decide +kernel
theorem mB9 : ∀ x : BitVec 8, mB 9#8 x = dX 27#8 (dX 27#8 (dX 27#8 x)) ^^^ x := by decide +kernel
theorem mB11 : ∀ x : BitVec 8, mB 11#8 x = dX 27#8 (dX 27#8 (dX 27#8 x)) ^^^ (dX 27#8 x ^^^ x) := by decide +kernel
theorem mB13 : ∀ x : BitVec 8, mB 13#8 x = dX 27#8 (dX 27#8 (dX 27#8 x)) ^^^ (dX 27#8 (dX 27#8 x) ^^^ x) := by decide +kernel
theorem mB14 : ∀ x : BitVec 8, mB 14#8 x = dX 27#8 (dX 27#8 (dX 27#8 x)) ^^^ (dX 27#8 (dX 27#8 x) ^^^ dX 27#8 x) := by decide +kernel
theorem rmix_at (a b c d : BitVec 8) (f : Nat → BitVec 8) (j : Nat) (hj : j < 16) : rmixF (fac a b c d) f j = mB a (f j) ^^^ (mB b (f (nx 1 j)) ^^^ (mB c (f (nx 2 j)) ^^^ mB d (f (nx 3 j)))) := by
  rcases (by omega : j = 0 ∨ j = 1 ∨ j = 2 ∨ j = 3 ∨ j = 4 ∨ j = 5 ∨ j = 6 ∨ j = 7 ∨ j = 8 ∨ j = 9 ∨ j = 10 ∨ j = 11 ∨ j = 12 ∨ j = 13 ∨ j = 14 ∨ j = 15) with rfl | rfl | rfl | rfl | rfl | rfl | rfl | rfl | rfl | rfl | rfl | rfl | rfl | rfl | rfl | rfl
  all_goals
    simp only [rmixF, rmixP, xB, fac, nx, Nat.reduceDiv, Nat.reduceMul, Nat.reduceMod, Nat.reduceAdd, Nat.reduceSub, Nat.reduceEqDiff, if_true, if_false, BitVec.zero_xor, Nat.add_zero, Nat.zero_add]
    try simp only [BitVec.xor_assoc, BitVec.xor_comm, xl]
theorem rmix_mix (f : Nat → BitVec 8) : Eq16 (rmixF (fac 2#8 3#8 1#8 1#8) f) (mixF twT f) := fun j hj => by
  rw [rmix_at _ _ _ _ f j hj, mix_at f j hj, mB2, mB3, mB1, mB1]
  unfold m0
  simp only [BitVec.xor_assoc, BitVec.xor_comm, xl]
set_option maxHeartbeats 1000000 in
theorem col3 (x y z w : BitVec 8) : mB 14#8 x ^^^ (mB 11#8 y ^^^ (mB 13#8 z ^^^ mB 9#8 w)) = m0 (p0A x z) (p0A y w) (p0A z x) (p0A w y) := by
  rw [mB14, mB11, mB13, mB9]
  simp only [m0, p0A, dX_add]
  generalize dX 27#8 x = x1
  generalize dX 27#8 y = y1
  generalize dX 27#8 z = z1
  generalize dX 27#8 w = w1
  generalize dX 27#8 x1 = x2
  generalize dX 27#8 y1 = y2
  generalize dX 27#8 z1 = z2
  generalize dX 27#8 w1 = w2
  generalize dX 27#8 x2 = x3
  generalize dX 27#8 y2 = y3
  generalize dX 27#8 z2 = z3
  generalize dX 27#8 w2 = w3
  simp only [BitVec.xor_assoc, BitVec.xor_comm, xl, xc]
theorem rmix_unmix (f : Nat → BitVec 8) : Eq16 (rmixF (fac 14#8 11#8 13#8 9#8) f) (unmixF twT f) := fun j hj => by
  obtain ⟨_, _, _, a21, a22, a23, _, _, _⟩ := nx_nx j hj
  have l1 := nx_lt 1 j hj
  have l2 := nx_lt 2 j hj
  have l3 := nx_lt 3 j hj
  rw [rmix_at _ _ _ _ f j hj, col3]
  unfold unmixF
  rw [mix_at _ j hj, pre_at _ j hj, pre_at _ _ l1, pre_at _ _ l2, pre_at _ _ l3, a21, a22, a23]
theorem turn_at111 : ∀ j, j < 16 → (((j + 4 * (j % 4) * 1) % 16 + 4 * ((j + 4 * (j % 4) * 1) % 16 % 4) * 1) % 16 + 4 * (((j + 4 * (j % 4) * 1) % 16 + 4 * ((j + 4 * (j % 4) * 1) % 16 % 4) * 1) % 16 % 4) * 1) % 16 = (j + 4 * (j % 4) * 3) % 16 := by decide
theorem turn111 (f : Nat → BitVec 8) : Eq16 (turnF 1 (turnF 1 (turnF 1 f))) (turnF 3 f) := fun j hj => by
  unfold turnF
  rw [turn_at111 j hj]
theorem rencK_s (N : Nat) (K bx f : Nat → BitVec 8) (n : Nat) : rencK N K bx f (n + 1) = addF (rencM N (n + 1) (turnF 1 (replF bx (rencK N K bx f n)))) (kF K (n + 1)) := rfl
theorem rdecK_s (N : Nat) (K ub f : Nat → BitVec 8) (m : Nat) : rdecK N K ub f (m + 1) = replF ub (turnF 1 (turnF 1 (turnF 1 (rdecM N (N - 1 - m) (addF (rdecK N K ub f m) (kF K (N - 1 - m))))))) := rfl
theorem renc_state (K f : Nat → BitVec 8) (r : Nat) : ∀ n, n ≤ r - 1 → Eq16 (rencK (r + 1) K bxT f n) (encK K bxT twT f n)
  | 0, _ => Eq16.rfl' _
  | n + 1, hn => by
    rw [rencK_s, encK_s]
    have hm : rencM (r + 1) (n + 1) (turnF 1 (replF bxT (rencK (r + 1) K bxT f n))) = rmixF (fac 2#8 3#8 1#8 1#8) (turnF 1 (replF bxT (rencK (r + 1) K bxT f n))) := by unfold rencM; rw [if_pos (by omega)]
    rw [hm]
    exact ((rmix_mix _).trans (renc_state K f r n (by omega)).repl.turn.mix).add
theorem renc_enc (K f : Nat → BitVec 8) (r : Nat) (hr : 1 ≤ r) : Eq16 (rencK (r + 1) K bxT f (r + 1 - 1)) (encF K bxT twT r f) := by
  obtain ⟨n, rfl⟩ : ∃ n, r = n + 1 := ⟨r - 1, by omega⟩
  rw [Nat.add_sub_cancel, rencK_s]
  have hm : rencM (n + 1 + 1) (n + 1) (turnF 1 (replF bxT (rencK (n + 1 + 1) K bxT f n))) = turnF 1 (replF bxT (rencK (n + 1 + 1) K bxT f n)) := by unfold rencM; rw [if_neg (by omega)]
  rw [hm]
  unfold encF
  rw [Nat.add_sub_cancel]
  exact (renc_state K f (n + 1) n (by omega)).repl.turn.add
theorem rdec_state (K f : Nat → BitVec 8) (r : Nat) : ∀ m, m ≤ r - 1 → Eq16 (rdecM (r + 1) (r + 1 - 1 - m) (addF (rdecK (r + 1) K ubT f m) (kF K (r + 1 - 1 - m)))) (decK K ubT twT r f m)
  | 0, _ => by
    unfold rdecM
    rw [if_neg (by omega), decK_z]
    exact Eq16.rfl' _
  | m + 1, hm => by
    have ih := rdec_state K f r m (by omega)
    rw [rdecK_s, decK_s]
    unfold rdecM at ih ⊢
    rw [if_pos (by omega), show r + 1 - 1 - (m + 1) = r - 1 - m by omega]
    refine (rmix_unmix _).trans ?_
    exact ((turn111 _).trans ih.turn).repl.add.unmix
theorem rdec_dec (K f : Nat → BitVec 8) (r : Nat) (hr : 1 ≤ r) : Eq16 (addF (rdecK (r + 1) K ubT f (r + 1 - 1)) (kF K 0)) (decF K ubT twT r f) := by
  obtain ⟨n, rfl⟩ : ∃ n, r = n + 1 := ⟨r - 1, by omega⟩
  have h := rdec_state K f (n + 1) n (by omega)
  rw [Nat.add_sub_cancel, rdecK_s]
  unfold decF
  rw [Nat.add_sub_cancel]
  exact ((turn111 _).trans h.turn).repl.add
end Go.Proofs.YtfpfgbhdehbggaaGreatDoor
namespace Go.Proofs.YtfpfgbhdehbggaaGreatDoor
set_option maxRecDepth 20000
open Go.RowKit
def yb (f : Nat → BitVec 8) (j : Nat) : Bool := (f (j / 8)).getLsbD (j % 8)
theorem yb_fact (f : Nat → BitVec 8) (k : Nat) : ((((f (k / 8)).toNat : Int) / 2 ^ (k % 8)).tmod 2 == 1) = yb f k := tmod_bit _ _
theorem fb_yb (f : Nat → BitVec 8) : fb (yb f) = ofB f := fb_eq fun j hj => by
  unfold tb; rw [ofB_bit f j hj]; rfl
def ROfAt (B : Nat) (w : World) (f : Nat → BitVec 8) (k : Nat) (wr : World) : Prop :=
  RowAt B 16 (yv f) wr ∧ HalfAt (B + 1) 0#128 wr ∧ RowAt (B + 1 + 1) 128 (bv fun j => decide (j < k) && yb f j) wr ∧ Below B w wr
theorem ROfAt.step {B : Nat} {w wr : World} {f : Nat → BitVec 8} {k : Nat} (h : ROfAt B w f k wr) : ROfAt B w f (k + 1) (wr.setCell ⟨B + 1 + 1, k, none⟩ (.bool (yb f k))) := by
  obtain ⟨h1, h2, h3, h4⟩ := h
  refine ⟨h1.other _ _ (by simp; omega), h2.other _ _ (by omega), (h3.set k _).congr ?_, h4.setCell (by simp; omega) _⟩
  intro j hj
  by_cases e : j = k
  · subst e; simp [bv]
  · have : decide (j < k + 1) = decide (j < k) := by rw [decide_eq_decide]; omega
    simp [bv, e, this]
set_option maxRecDepth 100000 in
theorem rOfB_any (f : Nat → BitVec 8) (w : World) :
    Calls Tryz.prog 92 #[.agg (row 16 (yv f)).toArray] w fun e w' => e = .returned (.agg #[.int .u64 ((lo (ofB f)).toNat : Int), .int .u64 ((hi (ofB f)).toNat : Int)]) ∧ Below w.heap.size w w' := by
  have hz := zero42A
  go_enter Tryz.func92, Tryz.ntmps92
  go_wp2
  go_loopw [4] (fun i wr => ∃ k : Nat, k ≤ 128 ∧ i = .int .i64 k ∧ ROfAt w.heap.size w f k wr) (fun i _ => 128 - (intOf i).toNat)
  case atStart =>
    refine ⟨0, by omega, rfl, ?_, ⟨?_, ?_, ?_, ?_⟩, ?_, ?_⟩
    case refine_1 => exact ((RowAt.new w 16 (yv f) 52).alloc _).alloc _
    case refine_6 =>
      have := RowAt.newOf ((w.alloc (Obj.cells (row 16 (yv f)).toArray 52)).alloc (Obj.cells #[Value.int IntKind.u64 0, Value.int IntKind.u64 0] 77)) 128 (bv fun j => decide (j < 0) && yb f j) 158 Z128 (fun j hj => Z128_get j hj _ (by simp))
      simpa using this
    case refine_7 => exact (((Below.refl _ _).alloc (Nat.le_refl _) _).alloc (by simp) _).alloc (by simp; omega) _
    all_goals simp [go_sem, lo, hi]
  case round =>
    obtain ⟨k, hk, rfl, hT⟩ := hrel
    by_cases hlt : k < 128
    · have HT := hideit hT
      obtain ⟨hR, _, hX, _⟩ := hT
      have e1 := hR.1 (k / 8) (by omega)
      have e2 := hX.1 k (by omega)
      have g2 := hX.2.1 k (by omega)
      simp only [yv] at e1
      clear hR hX
      have b1 := (f (k / 8)).isLt
      have t1 := yb_fact f k
      go_wp2
      go_roundw
      case rel =>
        first | exact ⟨(k + 1 : Nat), by omega, by go_num, HT.out.step⟩ | ((repeat apply Exists.intro); exact ⟨⟨k + 1, by omega, by go_num, HT.out.step⟩, rfl⟩)
      case measure => simp [intOf]; omega
    · obtain rfl : k = 128 := by omega
      obtain ⟨_, hH, hX, hB⟩ := hT
      have HX := hideit (hX.congr (g' := bv (yb f)) (fun j hj => by simp [bv, hj]))
      have hBs : w.heap.size + 1 < wr.heap.size := by have := hX.2.2; omega
      have HH := hideit hH
      have HB := hideit hB
      clear hX hH hB
      go_wp2_with (first | (refine wpList_load_mid rfl 158 (.tmp 3) rfl _ 0 rfl (row 128 (bv (yb f))) _ HX.out.range Tryz.underlying158 rfl (by rw [row_length]; exact info42A) ?_))
      go_wp2_with fail
      refine (frombits_any (yb f) _).mono ?_
      rintro e w2 ⟨rfl, hb2⟩
      rw [fb_yb]
      have hH2 := HH.out.carry hb2 hBs
      have HBB := hideit (HB.out.trans (hb2.mono (by omega)))
      clear hb2
      obtain ⟨c5, c6, f5, f6⟩ := hH2
      go_wp2
      refine bodyPost_ret (v := .agg #[.int .u64 ((lo (ofB f)).toNat : Int), .int .u64 ((hi (ofB f)).toNat : Int)]) (by simp [results, Tryz.results92, go_sem, c5, c6]) rfl ⟨rfl, ?_⟩
      exact (HBB.out.setCell (by simp) _).setCell (by simp) _
def acB (x : BitVec 128) : Nat → Nat → BitVec 8
  | 0, _ => 0#8
  | k + 1, j => if tb x k = true ∧ j = k / 8 then acB x k j ||| BitVec.twoPow 8 (k % 8) else acB x k j
theorem acB_bit (x : BitVec 128) (k : Nat) (j i : Nat) (hi : i < 8) : (acB x k j).getLsbD i = (decide (8 * j + i < k) && tb x (8 * j + i)) := by
  induction k with
  | zero => simp [acB]
  | succ k ih =>
    simp only [acB]
    split
    · rename_i h
      obtain ⟨h1, h2⟩ := h
      rw [BitVec.getLsbD_or, ih, BitVec.getLsbD_twoPow]
      by_cases e : 8 * j + i = k
      · have e1 : k % 8 = i := by omega
        rw [e, h1, e1]; simp [hi]
      · have e1 : ¬ k % 8 = i := by omega
        have e2 : decide (8 * j + i < k + 1) = decide (8 * j + i < k) := by rw [decide_eq_decide]; omega
        rw [e2]; simp [e1]
    · rename_i h
      rw [ih]
      by_cases e : 8 * j + i = k
      · have h1 : tb x k = false := by
          cases hh : tb x k with
          | false => rfl
          | true => exact absurd ⟨hh, by omega⟩ h
        rw [e, h1]; simp
      · have e2 : decide (8 * j + i < k + 1) = decide (8 * j + i < k) := by rw [decide_eq_decide]; omega
        rw [e2]
theorem acB_last (x : BitVec 128) (j : Nat) (hj : j < 16) : acB x 128 j = byBA x j := by
  apply BitVec.eq_of_getLsbD_eq
  intro i hi
  rw [acB_bit x 128 j i hi, byB_bit x j i hi]
  have : 8 * j + i < 128 := by omega
  simp [this, tb]
theorem or8 (x : BitVec 8) (k : Nat) (hk : k < 8) : bits .or .u8 (x.toNat : Int) (2 ^ k % 256) = ((x ||| BitVec.twoPow 8 k).toNat : Int) := by
  have h : ∀ k < 8, ∀ x : BitVec 8, bits .or .u8 (x.toNat : Int) (2 ^ k % 256) = ((x ||| BitVec.twoPow 8 k).toNat : Int) := by decide +kernel
  exact h k hk x
def RByAt (B m : Nat) (w : World) (x : BitVec 128) (k : Nat) (wr : World) : Prop :=
  RowAt (B + 1) 16 (yv fun _ => 0#8) wr ∧ RowAt (B + 1 + 1) 16 (yv (acB x k)) wr ∧ RowAt m 128 (bv (tb x)) wr ∧ Below B w wr ∧ B + 3 ≤ m
theorem RByAt.step1 {B m : Nat} {w wr : World} {x : BitVec 128} {k : Nat} (h : RByAt B m w x k wr) :
    RByAt B m w x (k + 1) (wr.setCell ⟨B + 1 + 1, k / 8, none⟩ (.int .u8 ((acB x (k + 1) (k / 8)).toNat : Int))) := by
  obtain ⟨h1, h2, h3, h4, h5⟩ := h
  refine ⟨h1.other _ _ (by simp), (h2.set (k / 8) _).congr ?_, h3.other _ _ (by simp; omega), h4.setCell (by simp; omega) _, h5⟩
  intro j hj
  by_cases e : j = k / 8
  · subst e; simp [yv]
  · simp [yv, e, acB]
theorem RByAt.step0 {B m : Nat} {w wr : World} {x : BitVec 128} {k : Nat} (h : RByAt B m w x k wr) (hb : tb x k = false) : RByAt B m w x (k + 1) wr := by
  obtain ⟨h1, h2, h3, h4, h5⟩ := h
  exact ⟨h1, h2.congr (fun j _ => by simp [yv, acB, hb]), h3, h4, h5⟩
theorem RByAt.drew {B m : Nat} {w wr : World} {x : BitVec 128} {k : Nat} (h : RByAt B m w x k wr) : RByAt B m w x k wr.drew := ⟨h.1, h.2.1, h.2.2.1, h.2.2.2.1.drew, h.2.2.2.2⟩
set_option maxRecDepth 100000 in
set_option maxHeartbeats 1000000 in
theorem rbytes_any (x : BitVec 128) (w : World) :
    Calls Tryz.prog 94 #[.agg #[.int .u64 ((lo x).toNat : Int), .int .u64 ((hi x).toNat : Int)]] w fun e w' => e = .returned (.agg (row 16 (yv (byBA x))).toArray) ∧ Below w.heap.size w w' := by
  have hz := zero42A
  have hz2 := zero32
  go_enter Tryz.func94, Tryz.ntmps94
  go_wp2_with fail
  refine (bits_any x _).mono ?_
  rintro e w1 ⟨rfl, hb⟩
  have hR := RowAt.newOf w1 128 (bv fun _ => false) 158 Z128 (fun j hj => Z128_get j hj _ rfl)
  have hst := run_storeRow (P := Tryz.prog) hR (bv (tb x)) (fun _ _ => rfl)
  have hlen := row_length 128 (bv (tb x))
  have HR := hideit hR
  have HB := hideit hb
  clear hR hb
  go_wp2
  clear hst hlen
  go_loopw [5] (fun i wr => ∃ k : Nat, k ≤ 128 ∧ i = .int .i64 k ∧ RByAt w.heap.size w1.heap.size w x k wr) (fun i _ => 128 - (intOf i).toNat)
  case atStart =>
    have hs := HB.out.size
    simp at hs
    have hX : Below w1.heap.size w1 ((w1.alloc (Obj.cells Z128 158)).setCells w1.heap.size 0 (row 128 (bv (tb x)))) := below_setCells _ (Nat.le_refl _) _ _ _ ((Below.refl _ _).alloc (Nat.le_refl _) _)
    refine ⟨0, by omega, rfl, ?_, ?_, ?_, ?_, by omega⟩
    · refine RowAt.carry (X := w1) (RowAt.carry ?_ HB.out) hX
      have := RowAt.newOf (w.alloc (Obj.cells #[Value.int IntKind.u64 ↑(lo x).toNat, Value.int IntKind.u64 ↑(hi x).toNat] 77)) 16 (yv fun _ => 0#8) 52 Y16 (fun j hj => Y16_get j hj _ rfl)
      simpa using this.alloc (Obj.cells Y16 52)
    · refine RowAt.carry (X := w1) (RowAt.carry ?_ HB.out) hX
      have := RowAt.newOf ((w.alloc (Obj.cells #[Value.int IntKind.u64 ↑(lo x).toNat, Value.int IntKind.u64 ↑(hi x).toNat] 77)).alloc (Obj.cells Y16 52)) 16 (yv (acB x 0)) 52 Y16 (fun j hj => Y16_get j hj _ rfl)
      simpa using this
    · exact HR.out.cells (g' := bv (tb x))
    · refine below_setCells _ (by omega) _ _ _ (Below.alloc ?_ (by omega) _)
      exact ((((Below.refl _ _).alloc (Nat.le_refl _) _).alloc (by simp) _).alloc (by simp; omega) _).trans (HB.out.mono (by simp; omega))
  case round =>
    obtain ⟨k, hk, rfl, hT⟩ := hrel
    by_cases hlt : k < 128
    · have HT := hideit hT
      obtain ⟨_, hY, hX, _, _⟩ := hT
      have e1 := hX.1 k (by omega)
      have e2 := hY.1 (k / 8) (by omega)
      have g2 := hY.2.1 (k / 8) (by omega)
      simp only [yv] at e2
      simp only [bv] at e1
      clear hX hY
      have b1 := (acB x k (k / 8)).isLt
      rcases h1 : tb x k with _ | _
      · rw [h1] at e1
        have H1 := hideit h1
        clear h1
        go_wp2
        go_roundw
        case rel =>
          first | exact ⟨(k + 1 : Nat), by omega, by go_num, HT.out.step0 H1.out⟩ | ((repeat apply Exists.intro); exact ⟨⟨k + 1, by omega, by go_num, HT.out.step0 H1.out⟩, rfl⟩)
        case measure => simp [intOf]; omega
      · rw [h1] at e1
        have o1 : bits .or .u8 ((acB x k (k / 8)).toNat : Int) (2 ^ (k % 8) % 256) = ((acB x (k + 1) (k / 8)).toNat : Int) := by
          rw [or8 _ _ (by omega)]; simp [acB, h1]
        clear h1
        have i0 : (0 : Int) ≤ (k : Int) / 8 := by omega
        have i1 : (k : Int) / 8 < 16 := by omega
        have i2 : (0 : Int) ≤ (k : Int) % 8 := by omega
        go_wp2
        go_region
        all_goals (try go_wp2)
        go_roundw
        case rel =>
          first | exact ⟨(k + 1 : Nat), by omega, by go_num, HT.out.step1.drew⟩ | ((repeat apply Exists.intro); exact ⟨⟨k + 1, by omega, by go_num, HT.out.step1.drew⟩, rfl⟩)
        case measure => simp [intOf]; omega
    · obtain rfl : k = 128 := by omega
      obtain ⟨hR0, hR, _, hB, _⟩ := hT
      have HR := hideit (hR.congr (g' := yv (byBA x)) (fun j hj => by simp only [yv]; rw [acB_last x j hj]))
      have HR0 := hideit hR0
      clear hR hR0
      go_wp2_with (first | (refine wpList_load_mid rfl 52 (.tmp 3) rfl _ 0 rfl (row 16 (yv (byBA x))) _ HR.out.range Tryz.underlying52 rfl (by rw [row_length]; exact info32) ?_) | (refine wpList_store_mid rfl 52 (.tmp 2) (.tmp 26) rfl _ 0 (row 16 (yv (byBA x))).toArray rfl rfl (by rw [row_size]; exact HR0.out.there) (by rw [row_size]; exact info32) (row_one fun _ _ => rfl) ?_))
      refine bodyPost_ret (v := .agg (row 16 (yv (byBA x))).toArray) ?_ rfl ⟨rfl, below_setCells _ (by omega) _ _ _ hB⟩
      have hl := run_loadVar_mid (P := Tryz.prog) (wr.setCells (w.heap.size + 1) 0 (row 16 (yv (byBA x)))) (w.heap.size + 1) 0 52 (row 16 (yv (byBA x))) _ (HR0.out.cells (g' := yv (byBA x))).range Tryz.underlying52 rfl (by rw [row_length]; exact info32)
      simp [results, Tryz.results94, Act.put, asAddr, hl]
end Go.Proofs.YtfpfgbhdehbggaaGreatDoor
