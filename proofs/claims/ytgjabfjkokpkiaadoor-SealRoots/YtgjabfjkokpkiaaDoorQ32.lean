/-
  Decrypt: what it answers of any block under any key made ready; nothing that was there turns. The tables of the cipher: facts on bytes and cells.
-/
import Derived.Test.YtgjabfjkokpkiaaDoorQ1
import Derived.Test.YtgjabfjkokpkiaaDoorQ31
import Derived.Test.YtgjabfjkokpkiaaDoorQ3
import Derived.Test.YtgjabfjkokpkiaaDoorQ29
namespace Go.Proofs.YtgjabfjkokpkiaaDoor
set_option maxRecDepth 20000
open Go.RowKit Go.BigFrame
def decK (K ub tw : Nat → BitVec 8) (r : Nat) (f : Nat → BitVec 8) : Nat → Nat → BitVec 8
  | 0 => addF f (kF K r)
  | m + 1 => unmixF tw (addF (replF ub (turnF 3 (decK K ub tw r f m))) (kF K (r - 1 - m)))
def decF (K ub tw : Nat → BitVec 8) (r : Nat) (f : Nat → BitVec 8) : Nat → BitVec 8 := addF (replF ub (turnF 3 (decK K ub tw r f (r - 1)))) (kF K 0)
theorem decK_succ (K ub tw f : Nat → BitVec 8) (r n : Nat) (hn : 1 ≤ n) (hr : n ≤ r - 1) : unmixF tw (addF (replF ub (turnF 3 (decK K ub tw r f (r - 1 - n)))) (kF K n)) = decK K ub tw r f (r - 1 - (n - 1)) := by
  obtain ⟨m, hm⟩ : ∃ m, m = r - 1 - n := ⟨_, rfl⟩
  have h1 : r - 1 - (n - 1) = m + 1 := by omega
  have h2 : r - 1 - m = n := by omega
  rw [h1, ← hm]
  simp only [decK, h2]
set_option maxRecDepth 20000 in
set_option maxHeartbeats 2000000 in
theorem dec_any (c r : Nat) (K bx ub tw f : Nat → BitVec 8) (hr : 1 ≤ r) (hr2 : r ≤ 14) (w : World) (h : CipherAt c r K bx ub tw w) :
    Calls Tryd.prog 64 #[.pointer (some ⟨c, 0, none⟩), .agg (row 16 (yv f)).toArray] w fun e w' => e = .returned (.agg (row 16 (yv (decF K ub tw r f))).toArray) ∧ Below w.heap.size w w' := by
  have hz := store_Y16
  have hcs : c < w.heap.size := h.2.2
  have hne : ¬ (c = w.heap.size) := by omega
  have HA : RowAt w.heap.size 16 (yv f) ((w.alloc (.cells (row 16 (yv f)).toArray 35)).alloc (.cells (row 16 (yv fun _ => 0#8)).toArray 35)) := (RowAt.new w 16 (yv f) 35).alloc _
  have HZ : RowAt (w.heap.size + 1) 16 (yv fun _ => 0#8) ((w.alloc (.cells (row 16 (yv f)).toArray 35)).alloc (.cells (row 16 (yv fun _ => 0#8)).toArray 35)) := by
    have := RowAt.new (w.alloc (.cells (row 16 (yv f)).toArray 35)) 16 (yv fun _ => 0#8) 35
    simpa using this
  have HC : CipherAt c r K bx ub tw ((w.alloc (.cells (row 16 (yv f)).toArray 35)).alloc (.cells (row 16 (yv fun _ => 0#8)).toArray 35)) := RowAt.alloc (RowAt.alloc h _) _
  have HBl : Below w.heap.size w ((w.alloc (.cells (row 16 (yv f)).toArray 35)).alloc (.cells (row 16 (yv fun _ => 0#8)).toArray 35)) := ((Below.refl _ _).alloc (Nat.le_refl _) _).alloc (by simp) _
  replace HA := hideit HA
  replace HZ := hideit HZ
  replace HC := hideit HC
  replace HBl := hideit HBl
  clear h
  have i0 : (0 : Int) ≤ (r : Int) := by omega
  have i1 : (r : Int) < 15 := by omega
  have e0 : ∀ k : Kept (Ext ((w.alloc (.cells (row 16 (yv f)).toArray 35)).alloc (.cells (row 16 (yv fun _ => 0#8)).toArray 35)).drew), k.w.cell? ⟨c, 0, none⟩ = some (.int .i64 (r : Int)) := fun k => CipherAt.rounds (CipherAt.carry (RowAt.drew HC.out) k.ok)
  go_enter Tryd.func64, Tryd.ntmps64
  go_wp2
  have hne := kept_ne ((w.alloc (.cells (row 16 (yv f)).toArray 35)).alloc (.cells (row 16 (yv fun _ => 0#8)).toArray 35)).drew
  refine wp_region_made 11 16 (yv fun _ => 0#8) _ (by kernel_rfl) (by kernel_rfl) rfl (makes32 rfl rfl) ?_
  simp only [List.take_succ_cons, List.take_zero, List.drop_succ_cons, List.drop_zero]
  refine wpStrong_run 10 rfl ?_
  simp only [List.take_succ_cons, List.take_zero, List.drop_succ_cons, List.drop_zero]
  go_big_quiet_want
  refine load16 (.tmp 3) _ 0 (f) rfl rfl (fun w' hw' => (HA.out.drew.carry hw').range) ?_
  simp only [zp0, zp1, zp2, zp3]
  go_big_quiet_on
  repeat (go_big_quiet_step (fail))
  go_big_quiet_want
  refine load16 (.tmp 18) _ (1 + r * 16) (kF K r) rfl rfl (fun w' hw' => kF_range (CipherAt.carry (RowAt.drew HC.out) hw') r (by omega)) ?_
  simp only [zp0, zp1, zp2, zp3]
  go_big_quiet_on
  refine wpQuiet_nil ?_
  refine wpStrong_call rfl (fun X => by simp [go_sem]) (fun X hX => add_any f (kF K r) X) ?_
  simp only [zp0, zp1, zp2, zp3]
  refine wpStrong_nil ?_
  intro b X hb hX hR
  have hb2 : w.heap.size + 2 ≤ b := by
    have : ((w.alloc (.cells (row 16 (yv f)).toArray 35)).alloc (.cells (row 16 (yv fun _ => 0#8)).toArray 35)).heap.size = w.heap.size + 1 + 1 := by simp
    omega
  have HS := hideit (StateAt.ext (c := c) (r := r) (K := K) (bx := bx) (ub := ub) (tw := tw) (b := w.heap.size) (f := f) ⟨HA.out.drew, HZ.out.drew, RowAt.drew HC.out, HBl.out.drew⟩ rfl hX)
  have HS2 : StateAt c r K bx ub tw w.heap.size w b (fun _ => 0#8) X := ⟨hR, HS.out.2⟩
  replace HS2 := hideit HS2
  clear HA HZ HC HBl HS e0
  replace hR := hideit hR
  refine wpList_store_mid rfl 35 (.tmp 5) (.tmp 20) rfl _ 0 (row 16 (yv (addF f (kF K r)))).toArray rfl rfl (by rw [row_size]; exact hR.out.there) (by rw [row_size]; exact info32) (row_one fun _ _ => rfl) ?_
  have HS3 := hideit (HS2.out.put hb2 hcs (addF f (kF K r)))
  clear hX hR HS2
  generalize X.setCells b 0 (row 16 (yv (addF f (kF K r)))) = X1 at *
  have e0 := CipherAt.rounds HS3.out.2.2.1
  have i2 : ((r - 1 : Nat) : Int) = (r : Int) - 1 := by omega
  go_wp2
  go_loopw [6] (fun i wr => ∃ n : Nat, n ≤ r - 1 ∧ i = .int .i64 n ∧ StateAt c r K bx ub tw w.heap.size w b (decK K ub tw r f (r - 1 - n)) wr) (fun i _ => (intOf i).toNat)
  case atStart => exact ⟨r - 1, by omega, by rw [i2], by rw [Nat.sub_self]; exact HS3.out⟩
  case round =>
    obtain ⟨n, hn, rfl, hT⟩ := hrel
    have HT := hideit hT
    clear hT HS3 e0
    by_cases hlt : 1 ≤ n
    · have hlt2 : (0 : Int) < (n : Int) := by omega
      go_wp2
      have hne := kept_ne (wr).drew
      refine wp_region_late 6 (by kernel_rfl) (by kernel_rfl) (by decide) ?_
      simp only [List.take_succ_cons, List.take_zero, List.drop_succ_cons, List.drop_zero]
      refine wpStrong_run 1 rfl ?_
      simp only [List.take_succ_cons, List.take_zero, List.drop_succ_cons, List.drop_zero]
      go_big_quiet_want
      refine load16 (.tmp 5) _ 0 (decK K ub tw r f (r - 1 - n)) rfl rfl (fun w' hw' => (HT.out.1.drew.carry hw').range) ?_
      simp only [zp0, zp1, zp2, zp3]
      go_big_quiet_on
      refine wpQuiet_nil ?_
      refine wpStrong_call rfl (fun X => by simp [go_sem]) (fun X hX => turnRows_any (decK K ub tw r f (r - 1 - n)) 3 (.inr rfl) X) ?_
      simp only [zp0, zp1, zp2, zp3]
      refine wpStrong_run 3 rfl ?_
      simp only [List.take_succ_cons, List.take_zero, List.drop_succ_cons, List.drop_zero]
      repeat (go_big_quiet_step (fail))
      refine wpQuiet_nil ?_
      refine wpStrong_call rfl (fun X => by simp [go_sem]) (fun X hX => repl_any (turnF 3 (decK K ub tw r f (r - 1 - n))) ub c 497 X (CipherAt.unbox (CipherAt.carry (RowAt.drew HT.out.2.2.1) hX))) ?_
      simp only [zp0, zp1, zp2, zp3]
      refine wpStrong_nil ?_
      intro X hX
      have HX := hideit (StateAt.draw HT.out rfl hX)
      clear hX
      refine wpList_store_mid rfl 35 (.tmp 5) (.tmp 35) rfl _ 0 (row 16 (yv (replF ub (turnF 3 (decK K ub tw r f (r - 1 - n)))))).toArray rfl rfl (by rw [row_size]; exact HX.out.1.there) (by rw [row_size]; exact info32) (row_one fun _ _ => rfl) ?_
      go_wp2
      try simp only [Act.put]
      have HY := hideit (HX.out.put hb2 hcs (replF ub (turnF 3 (decK K ub tw r f (r - 1 - n)))))
      clear HX HT
      generalize X.setCells b 0 (row 16 (yv (replF ub (turnF 3 (decK K ub tw r f (r - 1 - n)))))) = Y at *
      have j0 : (0 : Int) ≤ (n : Int) := by omega
      have j1 : (n : Int) < 15 := by omega
      have hne := kept_ne (Y).drew
      refine wp_region_late 10 (by kernel_rfl) (by kernel_rfl) (by decide) ?_
      simp only [List.take_succ_cons, List.take_zero, List.drop_succ_cons, List.drop_zero]
      refine wpStrong_run 8 rfl ?_
      simp only [List.take_succ_cons, List.take_zero, List.drop_succ_cons, List.drop_zero]
      go_big_quiet_step (fail)
      go_big_quiet_want
      refine load16 (.tmp 5) _ 0 (replF ub (turnF 3 (decK K ub tw r f (r - 1 - n)))) rfl rfl (fun w' hw' => (HY.out.1.drew.carry hw').range) ?_
      simp only [zp0, zp1, zp2, zp3]
      go_big_quiet_on
      repeat (go_big_quiet_step (fail))
      go_big_quiet_want
      refine load16 (.tmp 42) _ (1 + n * 16) (kF K n) rfl rfl (fun w' hw' => kF_range (CipherAt.carry (RowAt.drew HY.out.2.2.1) hw') n (by omega)) ?_
      simp only [zp0, zp1, zp2, zp3]
      go_big_quiet_on
      refine wpQuiet_nil ?_
      refine wpStrong_call rfl (fun X => by simp [go_sem]) (fun X hX => add_any (replF ub (turnF 3 (decK K ub tw r f (r - 1 - n)))) (kF K n) X) ?_
      simp only [zp0, zp1, zp2, zp3]
      refine wpStrong_call rfl (fun X => by simp [go_sem]) (fun X hX => unmix_any (addF (replF ub (turnF 3 (decK K ub tw r f (r - 1 - n)))) (kF K n)) tw c X (CipherAt.twice (CipherAt.carry (RowAt.drew HY.out.2.2.1) hX))) ?_
      simp only [zp0, zp1, zp2, zp3]
      refine wpStrong_nil ?_
      rw [decK_succ K ub tw f r n hlt hn]
      intro Z hZ
      have HZ := hideit (StateAt.draw HY.out rfl hZ)
      clear hZ HY
      refine wpList_store_mid rfl 35 (.tmp 5) (.tmp 45) rfl _ 0 (row 16 (yv (decK K ub tw r f (r - 1 - (n - 1))))).toArray rfl rfl (by rw [row_size]; exact HZ.out.1.there) (by rw [row_size]; exact info32) (row_one fun _ _ => rfl) ?_
      have HI := hideit (HZ.out.put hb2 hcs (decK K ub tw r f (r - 1 - (n - 1))))
      clear HZ
      generalize Z.setCells b 0 (row 16 (yv (decK K ub tw r f (r - 1 - (n - 1))))) = V at *
      have i3 : ((n - 1 : Nat) : Int) = (n : Int) - 1 := by omega
      go_wp2
      go_roundw
      case rel =>
        first | exact ⟨(n - 1 : Nat), by omega, by first | go_num | (rw [i3]) | (simp only [i3]), HI.out⟩ | ((repeat apply Exists.intro); exact ⟨⟨n - 1, by omega, by first | go_num | (rw [i3]) | (simp only [i3]), HI.out⟩, rfl⟩)
      case measure => simp [intOf]; omega
    · obtain rfl : n = 0 := by omega
      rw [Nat.sub_zero] at HT
      go_wp2
      have hne := kept_ne (wr).drew
      refine wp_region_late 6 (by kernel_rfl) (by kernel_rfl) (by decide) ?_
      simp only [List.take_succ_cons, List.take_zero, List.drop_succ_cons, List.drop_zero]
      refine wpStrong_run 1 rfl ?_
      simp only [List.take_succ_cons, List.take_zero, List.drop_succ_cons, List.drop_zero]
      go_big_quiet_want
      refine load16 (.tmp 5) _ 0 (decK K ub tw r f (r - 1)) rfl rfl (fun w' hw' => (HT.out.1.drew.carry hw').range) ?_
      simp only [zp0, zp1, zp2, zp3]
      go_big_quiet_on
      refine wpQuiet_nil ?_
      refine wpStrong_call rfl (fun X => by simp [go_sem]) (fun X hX => turnRows_any (decK K ub tw r f (r - 1)) 3 (.inr rfl) X) ?_
      simp only [zp0, zp1, zp2, zp3]
      refine wpStrong_run 3 rfl ?_
      simp only [List.take_succ_cons, List.take_zero, List.drop_succ_cons, List.drop_zero]
      repeat (go_big_quiet_step (fail))
      refine wpQuiet_nil ?_
      refine wpStrong_call rfl (fun X => by simp [go_sem]) (fun X hX => repl_any (turnF 3 (decK K ub tw r f (r - 1))) ub c 497 X (CipherAt.unbox (CipherAt.carry (RowAt.drew HT.out.2.2.1) hX))) ?_
      simp only [zp0, zp1, zp2, zp3]
      refine wpStrong_nil ?_
      intro X hX
      have HX := hideit (StateAt.draw HT.out rfl hX)
      clear hX
      refine wpList_store_mid rfl 35 (.tmp 5) (.tmp 51) rfl _ 0 (row 16 (yv (replF ub (turnF 3 (decK K ub tw r f (r - 1)))))).toArray rfl rfl (by rw [row_size]; exact HX.out.1.there) (by rw [row_size]; exact info32) (row_one fun _ _ => rfl) ?_
      go_wp2
      try simp only [Act.put]
      have HY := hideit (HX.out.put hb2 hcs (replF ub (turnF 3 (decK K ub tw r f (r - 1)))))
      clear HX HT
      generalize X.setCells b 0 (row 16 (yv (replF ub (turnF 3 (decK K ub tw r f (r - 1)))))) = Y at *
      have hne := kept_ne (Y).drew
      refine wp_region_late 7 (by kernel_rfl) (by kernel_rfl) (by decide) ?_
      simp only [List.take_succ_cons, List.take_zero, List.drop_succ_cons, List.drop_zero]
      refine wpStrong_run 6 rfl ?_
      simp only [List.take_succ_cons, List.take_zero, List.drop_succ_cons, List.drop_zero]
      go_big_quiet_want
      refine load16 (.tmp 5) _ 0 (replF ub (turnF 3 (decK K ub tw r f (r - 1)))) rfl rfl (fun w' hw' => (HY.out.1.drew.carry hw').range) ?_
      simp only [zp0, zp1, zp2, zp3]
      go_big_quiet_on
      repeat (go_big_quiet_step (fail))
      go_big_quiet_want
      refine load16 (.tmp 56) _ 1 (kF K 0) rfl rfl (fun w' hw' => kF_range (CipherAt.carry (RowAt.drew HY.out.2.2.1) hw') 0 (by omega)) ?_
      simp only [zp0, zp1, zp2, zp3]
      go_big_quiet_on
      refine wpQuiet_nil ?_
      refine wpStrong_call rfl (fun X => by simp [go_sem]) (fun X hX => add_any (replF ub (turnF 3 (decK K ub tw r f (r - 1)))) (kF K 0) X) ?_
      simp only [zp0, zp1, zp2, zp3]
      refine wpStrong_nil ?_
      intro Z hZ
      have HZ := hideit (StateAt.draw HY.out rfl hZ)
      clear hZ HY
      refine wpList_store_mid rfl 35 (.tmp 4) (.tmp 58) rfl _ 0 (row 16 (yv (decF K ub tw r f))).toArray rfl rfl (by rw [row_size]; exact HZ.out.2.1.there) (by rw [row_size]; exact info32) (row_one fun _ _ => rfl) ?_
      go_wp2
      exact bodyPost_ret (ret_row Tryd.results64 rfl (HZ.out.2.1.cells (g' := yv (decF K ub tw r f))) Tryd.underlying35 rfl info32) rfl ⟨rfl, below_setCells _ (by omega) _ _ _ HZ.out.2.2.2⟩
end Go.Proofs.YtgjabfjkokpkiaaDoor
namespace Go.Proofs.YtgjabfjkokpkiaaDoor
set_option maxRecDepth 20000
open Go.RowKit Go.BigFrame
def bxT (i : Nat) : BitVec 8 := boxB (BitVec.ofNat 8 i)
def ubT (i : Nat) : BitVec 8 := unboxB (BitVec.ofNat 8 i)
def twT (i : Nat) : BitVec 8 := mB (BitVec.ofNat 8 i) 2#8
theorem of8 (n : Nat) (hn : n < 256) : ((BitVec.ofNat 8 n).toNat : Int) = (n : Int) := by simp; omega
theorem box_tab (n : Nat) (hn : n < 256) (w : World) : Calls Tryd.prog 99 #[.int .u8 (n : Int)] w fun e w' => e = .returned (.int .u8 ((bxT n).toNat : Int)) ∧ w' = w := by
  have h := box_any (BitVec.ofNat 8 n) w
  rw [of8 n hn] at h
  exact h
theorem mul_tab (n : Nat) (hn : n < 256) (w : World) : Calls Tryd.prog 100 #[.int .u8 (n : Int), .int .u8 2] w fun e w' => e = .returned (.int .u8 ((twT n).toNat : Int)) ∧ Below w.heap.size w w' := by
  have h := mul_any (BitVec.ofNat 8 n) 2#8 w
  rw [of8 n hn] at h
  exact h.mono fun e w' ⟨h1, h2⟩ => ⟨h1, by rw [h2]; exact Below.refl _ _⟩
def bxP (n j : Nat) : BitVec 8 := if j < n then bxT j else 0#8
def ubP (n j : Nat) : BitVec 8 := if (ubT j).toNat < n then ubT j else 0#8
def twP (n j : Nat) : BitVec 8 := if j < n then twT j else 0#8
theorem box_unbox : ∀ a : BitVec 8, boxB (unboxB a) = a := by decide +kernel
theorem ub_bx (n : Nat) : ubT (bxT n).toNat = BitVec.ofNat 8 n := by
  unfold ubT bxT
  rw [BitVec.ofNat_toNat, BitVec.setWidth_eq, unbox_box]
theorem ub_eq (n j : Nat) (hn : n < 256) (hj : j < 256) (h : (ubT j).toNat = n) : j = (bxT n).toNat := by
  have h1 : ubT j = BitVec.ofNat 8 n := BitVec.eq_of_toNat_eq (by rw [h]; simp; omega)
  unfold bxT
  rw [← h1]
  unfold ubT
  rw [box_unbox]
  simp
  omega
theorem cv_step (r : Nat) (K : Nat → BitVec 8) (n : Nat) (hn : n < 256) (j : Nat) (hj : j < 1009) :
    (if j = 753 + n then (Value.int .u8 ((twT n).toNat : Int)) else if j = 497 + (bxT n).toNat then .int .u8 (n : Int) else if j = 241 + n then .int .u8 ((bxT n).toNat : Int) else cv r K (bxP n) (ubP n) (twP n) j) = cv r K (bxP (n + 1)) (ubP (n + 1)) (twP (n + 1)) j := by
  have hb := (bxT n).isLt
  unfold cv
  by_cases h0 : j = 0
  · subst h0
    rw [if_neg (by omega), if_neg (by omega), if_neg (by omega), if_pos rfl, if_pos rfl]
  by_cases h1 : j < 241
  · rw [if_neg (by omega), if_neg (by omega), if_neg (by omega), if_neg h0, if_pos h1, if_neg h0, if_pos h1]
  by_cases h2 : j < 497
  · rw [if_neg (by omega), if_neg (by omega), if_neg h0, if_neg h1, if_pos h2, if_neg h0, if_neg h1, if_pos h2]
    by_cases e : j = 241 + n
    · subst e
      rw [if_pos rfl]
      simp only [yv, bxP, show 241 + n - 241 = n by omega, if_pos (show n < n + 1 by omega)]
    · rw [if_neg e]
      simp only [yv, bxP, show (j - 241 < n + 1) ↔ (j - 241 < n) by omega]
  by_cases h3 : j < 753
  · rw [if_neg (by omega), if_neg (show ¬ j = 241 + n by omega), if_neg h0, if_neg h1, if_neg h2, if_pos h3, if_neg h0, if_neg h1, if_neg h2, if_pos h3]
    by_cases e : j = 497 + (bxT n).toNat
    · subst e
      rw [if_pos rfl]
      simp only [yv, ubP, show 497 + (bxT n).toNat - 497 = (bxT n).toNat by omega, ub_bx n]
      rw [if_pos (by simp; omega), of8 n hn]
    · rw [if_neg e]
      have hne : (ubT (j - 497)).toNat ≠ n := fun h => e (by have := ub_eq n (j - 497) hn (by omega) h; omega)
      simp only [yv, ubP, show ((ubT (j - 497)).toNat < n + 1) ↔ ((ubT (j - 497)).toNat < n) by omega]
  · rw [if_neg (show ¬ j = 497 + (bxT n).toNat by omega), if_neg (show ¬ j = 241 + n by omega), if_neg h0, if_neg h1, if_neg h2, if_neg h3, if_neg h0, if_neg h1, if_neg h2, if_neg h3]
    by_cases e : j = 753 + n
    · subst e
      rw [if_pos rfl]
      simp only [yv, twP, show 753 + n - 753 = n by omega, if_pos (show n < n + 1 by omega)]
    · rw [if_neg e]
      simp only [yv, twP, show (j - 753 < n + 1) ↔ (j - 753 < n) by omega]
def FillAt (c r : Nat) (K : Nat → BitVec 8) (w : World) (n : Nat) (X : World) : Prop := CipherAt c r K (bxP n) (ubP n) (twP n) X ∧ Below c w X
theorem cv_end (r : Nat) (K : Nat → BitVec 8) (j : Nat) (hj : j < 1009) : cv r K (bxP 256) (ubP 256) (twP 256) j = cv r K bxT ubT twT j := by
  have hb := (ubT (j - 497)).isLt
  unfold cv
  by_cases h0 : j = 0
  · rw [if_pos h0, if_pos h0]
  by_cases h1 : j < 241
  · rw [if_neg h0, if_pos h1, if_neg h0, if_pos h1]
  by_cases h2 : j < 497
  · rw [if_neg h0, if_neg h1, if_pos h2, if_neg h0, if_neg h1, if_pos h2]
    simp only [yv, bxP, if_pos (show j - 241 < 256 by omega)]
  by_cases h3 : j < 753
  · rw [if_neg h0, if_neg h1, if_neg h2, if_pos h3, if_neg h0, if_neg h1, if_neg h2, if_pos h3]
    simp only [yv, ubP, if_pos (show (ubT (j - 497)).toNat < 256 by omega)]
  · rw [if_neg h0, if_neg h1, if_neg h2, if_neg h3, if_neg h0, if_neg h1, if_neg h2, if_neg h3]
    simp only [yv, twP, if_pos (show j - 753 < 256 by omega)]
end Go.Proofs.YtgjabfjkokpkiaaDoor
