/-
  Encrypt: what it answers of any block under any key made ready; nothing that was there turns. The cipher's undoing of the mixing of columns. Decrypt: what it answers of any block under any key made ready; nothing that was there turns.
-/
import Derived.Test.YtfpfgbhdehbggaaGreatDoorQa1
import Derived.Test.YtfpfgbhdehbggaaGreatDoorQa2
import Derived.Test.YtfpfgbhdehbggaaGreatDoorQa20
namespace Go.Proofs.YtfpfgbhdehbggaaGreatDoor
set_option maxRecDepth 20000
open Go.RowKit Go.BigFrame
def kF (K : Nat → BitVec 8) (n j : Nat) : BitVec 8 := K (n * 16 + j)
def encK (K bx tw f : Nat → BitVec 8) : Nat → Nat → BitVec 8
  | 0 => addF f (kF K 0)
  | n + 1 => addF (mixF tw (turnF 1 (replF bx (encK K bx tw f n)))) (kF K (n + 1))
def encF (K bx tw : Nat → BitVec 8) (r : Nat) (f : Nat → BitVec 8) : Nat → BitVec 8 := addF (turnF 1 (replF bx (encK K bx tw f (r - 1)))) (kF K r)
theorem encK_succ (K bx tw f : Nat → BitVec 8) (n : Nat) (hn : 1 ≤ n) : addF (mixF tw (turnF 1 (replF bx (encK K bx tw f (n - 1))))) (kF K n) = encK K bx tw f n := by
  cases n with
  | zero => omega
  | succ n => simp only [Nat.add_sub_cancel, encK]
theorem makes32 {o : Oper} (hg : o.guard = none) (ho : o.op = .alloc 52) : Makes Tryz.prog o 16 (yv fun _ => 0#8) := ⟨hg, fun ρ w => ⟨(row 16 (yv fun _ => 0#8)).toArray, 52, by
  unfold execOp
  rw [ho]
  simp [go_sem]
  rfl, fun j hj => by rw [List.getElem?_toArray]; exact row_get 16 _ j hj⟩⟩
theorem load16 {W : World} {K : Act → Prop} {op : Oper} {a : Act} (x : Operand) (b off : Nat) (g : Nat → BitVec 8) (ho : op.op = .load 52 x) (hx : a.eval x = .pointer (some ⟨b, off, none⟩)) (hc : ∀ w', Ext W w' → w'.rangeAt b off (row 16 (yv g)))
    (h : K (a.put op.dst (.agg (row 16 (yv g)).toArray))) : op.quiet Tryz.prog a (fun w' => ∃ k : Kept (Ext W), w' = k.w) K :=
  ⟨_, fun w hw => by
    obtain ⟨k, rfl⟩ := hw
    unfold Oper.quietAt execOp
    simp only [ho, hx, Instr.loadAt, Instr.sureAddr, Sem.run_bind, Sem.run_pure, Result.andThen_ok, run_loadVar_mid (P := Tryz.prog) k.w b off 52 (row 16 (yv g)) _ (hc _ k.ok) Tryz.underlying52 rfl (by rw [row_length]; exact info32)]
    exact ⟨rfl, rfl⟩, h⟩
def StateAt (c r : Nat) (K bx ub tw : Nat → BitVec 8) (B : Nat) (w : World) (b : Nat) (f : Nat → BitVec 8) (X : World) : Prop :=
  RowAt b 16 (yv f) X ∧ RowAt (B + 1) 16 (yv fun _ => 0#8) X ∧ CipherAt c r K bx ub tw X ∧ Below B w X
theorem StateAt.ext {c r B b : Nat} {K bx ub tw f : Nat → BitVec 8} {w X Y : World} (h : StateAt c r K bx ub tw B w b f X) (hB : w.heap.size = B) (k : Ext X Y) : StateAt c r K bx ub tw B w b f Y :=
  ⟨h.1.carry k, h.2.1.carry k, h.2.2.1.carry k, Below.trans h.2.2.2 (Below.mono k (by have := Below.size h.2.2.2; omega))⟩
theorem StateAt.draw {c r B b : Nat} {K bx ub tw f : Nat → BitVec 8} {w X Y : World} (h : StateAt c r K bx ub tw B w b f X) (hB : w.heap.size = B) (k : Ext X.drew Y) : StateAt c r K bx ub tw B w b f Y :=
  StateAt.ext (X := X.drew) ⟨h.1.drew, h.2.1.drew, RowAt.drew h.2.2.1, h.2.2.2.drew⟩ hB k
theorem StateAt.put {c r B b : Nat} {K bx ub tw f : Nat → BitVec 8} {w X : World} (h : StateAt c r K bx ub tw B w b f X) (hb : B + 2 ≤ b) (hc : c < B) (g : Nat → BitVec 8) : StateAt c r K bx ub tw B w b g (X.setCells b 0 (row 16 (yv g))) :=
  ⟨h.1.cells, h.2.1.cellsOther (by omega) _ _, RowAt.cellsOther h.2.2.1 (by omega) _ _, below_setCells _ (by omega) _ _ _ h.2.2.2⟩
theorem kF_range {c r : Nat} {K bx ub tw : Nat → BitVec 8} {w : World} (h : CipherAt c r K bx ub tw w) (n : Nat) (hn : n ≤ 14) : w.rangeAt c (1 + n * 16) (row 16 (yv (kF K n))) := h.key n hn
set_option maxRecDepth 20000 in
set_option maxHeartbeats 2000000 in
theorem enc_any (c r : Nat) (K bx ub tw f : Nat → BitVec 8) (hr : 1 ≤ r) (hr2 : r ≤ 14) (w : World) (h : CipherAt c r K bx ub tw w) :
    Calls Tryz.prog 34 #[.pointer (some ⟨c, 0, none⟩), .agg (row 16 (yv f)).toArray] w fun e w' => e = .returned (.agg (row 16 (yv (encF K bx tw r f))).toArray) ∧ Below w.heap.size w w' := by
  have hz := store_Y16
  have hcs : c < w.heap.size := h.2.2
  have hne : ¬ (c = w.heap.size) := by omega
  have HA : RowAt w.heap.size 16 (yv f) ((w.alloc (.cells (row 16 (yv f)).toArray 52)).alloc (.cells (row 16 (yv fun _ => 0#8)).toArray 52)) := (RowAt.new w 16 (yv f) 52).alloc _
  have HZ : RowAt (w.heap.size + 1) 16 (yv fun _ => 0#8) ((w.alloc (.cells (row 16 (yv f)).toArray 52)).alloc (.cells (row 16 (yv fun _ => 0#8)).toArray 52)) := by
    have := RowAt.new (w.alloc (.cells (row 16 (yv f)).toArray 52)) 16 (yv fun _ => 0#8) 52
    simpa using this
  have HC : CipherAt c r K bx ub tw ((w.alloc (.cells (row 16 (yv f)).toArray 52)).alloc (.cells (row 16 (yv fun _ => 0#8)).toArray 52)) := RowAt.alloc (RowAt.alloc h _) _
  have HBl : Below w.heap.size w ((w.alloc (.cells (row 16 (yv f)).toArray 52)).alloc (.cells (row 16 (yv fun _ => 0#8)).toArray 52)) := ((Below.refl _ _).alloc (Nat.le_refl _) _).alloc (by simp) _
  replace HA := hideit HA
  replace HZ := hideit HZ
  replace HC := hideit HC
  replace HBl := hideit HBl
  clear h
  go_enter Tryz.func34, Tryz.ntmps34
  go_wp2
  have hne := kept_ne ((w.alloc (.cells (row 16 (yv f)).toArray 52)).alloc (.cells (row 16 (yv fun _ => 0#8)).toArray 52)).drew
  refine wp_region_made 7 16 (yv fun _ => 0#8) _ (by kernel_rfl) (by kernel_rfl) rfl (makes32 rfl rfl) ?_
  simp only [List.take_succ_cons, List.take_zero, List.drop_succ_cons, List.drop_zero]
  refine wpStrong_run 6 rfl ?_
  simp only [List.take_succ_cons, List.take_zero, List.drop_succ_cons, List.drop_zero]
  go_big_quiet_want
  refine load16 (.tmp 3) _ 0 f rfl rfl (fun w' hw' => (HA.out.drew.carry hw').range) ?_
  simp only [zp0, zp1, zp2, zp3]
  go_big_quiet_on
  repeat (go_big_quiet_step (fail))
  go_big_quiet_want
  refine load16 (.tmp 14) _ 1 (kF K 0) rfl rfl (fun w' hw' => kF_range (CipherAt.carry (RowAt.drew HC.out) hw') 0 (by omega)) ?_
  simp only [zp0, zp1, zp2, zp3]
  go_big_quiet_on
  refine wpQuiet_nil ?_
  refine wpStrong_call rfl (fun X => by simp [go_sem]) (fun X hX => add_any f (kF K 0) X) ?_
  simp only [zp0, zp1, zp2, zp3]
  refine wpStrong_nil ?_
  intro b X hb hX hR
  have hb2 : w.heap.size + 2 ≤ b := by
    have : ((w.alloc (.cells (row 16 (yv f)).toArray 52)).alloc (.cells (row 16 (yv fun _ => 0#8)).toArray 52)).heap.size = w.heap.size + 1 + 1 := by simp
    omega
  have HS := hideit (StateAt.ext (c := c) (r := r) (K := K) (bx := bx) (ub := ub) (tw := tw) (b := w.heap.size) (f := f) ⟨HA.out.drew, HZ.out.drew, RowAt.drew HC.out, HBl.out.drew⟩ rfl hX)
  have HS2 : StateAt c r K bx ub tw w.heap.size w b (fun _ => 0#8) X := ⟨hR, HS.out.2⟩
  replace HS2 := hideit HS2
  clear HA HZ HC HBl HS
  replace hR := hideit hR
  go_wp2_with (refine wpList_store_mid rfl 52 (.tmp 5) (.tmp 16) rfl _ 0 (row 16 (yv (addF f (kF K 0)))).toArray rfl rfl (by rw [row_size]; exact hR.out.there) (by rw [row_size]; exact info32) (row_one fun _ _ => rfl) ?_)
  have HS3 := hideit (HS2.out.put hb2 hcs (addF f (kF K 0)))
  clear hX hR HS2
  generalize X.setCells b 0 (row 16 (yv (addF f (kF K 0)))) = X1 at *
  go_loopw [6] (fun i wr => ∃ n : Nat, 1 ≤ n ∧ n ≤ r ∧ i = .int .i64 n ∧ StateAt c r K bx ub tw w.heap.size w b (encK K bx tw f (n - 1)) wr) (fun i _ => r - (intOf i).toNat)
  case atStart => exact ⟨1, by omega, by omega, rfl, HS3.out⟩
  case round =>
    obtain ⟨n, hn1, hn, rfl, hT⟩ := hrel
    have HT := hideit hT
    have e0 := CipherAt.rounds hT.2.2.1
    clear hT HS3
    by_cases hlt : n < r
    · have hlt2 : (n : Int) < (r : Int) := by omega
      go_wp2
      have hne := kept_ne wr.drew
      refine wp_region_late 8 (by kernel_rfl) (by kernel_rfl) (by decide) ?_
      simp only [List.take_succ_cons, List.take_zero, List.drop_succ_cons, List.drop_zero]
      refine wpStrong_run 5 rfl ?_
      simp only [List.take_succ_cons, List.take_zero, List.drop_succ_cons, List.drop_zero]
      go_big_quiet_step (fail)
      go_big_quiet_want
      refine load16 (.tmp 5) _ 0 (encK K bx tw f (n - 1)) rfl rfl (fun w' hw' => (HT.out.1.drew.carry hw').range) ?_
      simp only [zp0, zp1, zp2, zp3]
      go_big_quiet_on
      repeat (go_big_quiet_step (fail))
      refine wpQuiet_nil ?_
      refine wpStrong_call rfl (fun X => by simp [go_sem]) (fun X hX => repl_any (encK K bx tw f (n - 1)) bx c 241 X (CipherAt.box (CipherAt.carry (RowAt.drew HT.out.2.2.1) hX))) ?_
      simp only [zp0, zp1, zp2, zp3]
      refine wpStrong_call rfl (fun X => by simp [go_sem]) (fun X hX => turnRows_any (replF bx (encK K bx tw f (n - 1))) 1 (.inl rfl) X) ?_
      simp only [zp0, zp1, zp2, zp3]
      refine wpStrong_call rfl (fun X => by simp [go_sem]) (fun X hX => mix_any (turnF 1 (replF bx (encK K bx tw f (n - 1)))) tw c X (CipherAt.twice (CipherAt.carry (RowAt.drew HT.out.2.2.1) hX))) ?_
      simp only [zp0, zp1, zp2, zp3]
      refine wpStrong_nil ?_
      intro X hX
      have HX := hideit (StateAt.draw HT.out rfl hX)
      clear hX
      go_wp2_with (refine wpList_store_mid rfl 52 (.tmp 5) (.tmp 32) rfl _ 0 (row 16 (yv (mixF tw (turnF 1 (replF bx (encK K bx tw f (n - 1))))))).toArray rfl rfl (by rw [row_size]; exact HX.out.1.there) (by rw [row_size]; exact info32) (row_one fun _ _ => rfl) ?_)
      simp only [Act.put]
      have HY := hideit (HX.out.put hb2 hcs (mixF tw (turnF 1 (replF bx (encK K bx tw f (n - 1))))))
      clear HX HT
      generalize X.setCells b 0 (row 16 (yv (mixF tw (turnF 1 (replF bx (encK K bx tw f (n - 1))))))) = Y at *
      have hne := kept_ne Y.drew
      have i0 : (0 : Int) ≤ (n : Int) := by omega
      have i1 : (n : Int) < 15 := by omega
      refine wp_region_late 8 (by kernel_rfl) (by kernel_rfl) (by decide) ?_
      simp only [List.take_succ_cons, List.take_zero, List.drop_succ_cons, List.drop_zero]
      refine wpStrong_run 7 rfl ?_
      simp only [List.take_succ_cons, List.take_zero, List.drop_succ_cons, List.drop_zero]
      go_big_quiet_want
      refine load16 (.tmp 5) _ 0 (mixF tw (turnF 1 (replF bx (encK K bx tw f (n - 1))))) rfl rfl (fun w' hw' => (HY.out.1.drew.carry hw').range) ?_
      simp only [zp0, zp1, zp2, zp3]
      go_big_quiet_on
      repeat (go_big_quiet_step (fail))
      go_big_quiet_want
      refine load16 (.tmp 38) _ (1 + n * 16) (kF K n) rfl rfl (fun w' hw' => kF_range (CipherAt.carry (RowAt.drew HY.out.2.2.1) hw') n (by omega)) ?_
      simp only [zp0, zp1, zp2, zp3]
      go_big_quiet_on
      refine wpQuiet_nil ?_
      refine wpStrong_call rfl (fun X => by simp [go_sem]) (fun X hX => add_any (mixF tw (turnF 1 (replF bx (encK K bx tw f (n - 1))))) (kF K n) X) ?_
      simp only [zp0, zp1, zp2, zp3]
      refine wpStrong_nil ?_
      rw [encK_succ K bx tw f n hn1]
      intro Z hZ
      have HZ := hideit (StateAt.draw HY.out rfl hZ)
      clear hZ HY
      refine wpList_store_mid rfl 52 (.tmp 5) (.tmp 40) rfl _ 0 (row 16 (yv (encK K bx tw f n))).toArray rfl rfl (by rw [row_size]; exact HZ.out.1.there) (by rw [row_size]; exact info32) (row_one fun _ _ => rfl) ?_
      have HI := hideit (HZ.out.put hb2 hcs (encK K bx tw f n))
      clear HZ
      generalize Z.setCells b 0 (row 16 (yv (encK K bx tw f n))) = V at *
      replace HI : Hid (StateAt c r K bx ub tw w.heap.size w b (encK K bx tw f (n + 1 - 1)) V) := by rw [Nat.add_sub_cancel]; exact HI
      go_wp2
      go_roundw
      case rel =>
        first | exact ⟨(n + 1 : Nat), by omega, by omega, by go_num, HI.out⟩ | ((repeat apply Exists.intro); exact ⟨⟨n + 1, by omega, by omega, by go_num, HI.out⟩, rfl⟩)
      case measure => simp [intOf]; omega
    · obtain rfl : n = r := by omega
      have hnl : ¬ ((n : Int) < (n : Int)) := by omega
      go_wp2
      have hne := kept_ne wr.drew
      refine wp_region_late 6 (by kernel_rfl) (by kernel_rfl) (by decide) ?_
      simp only [List.take_succ_cons, List.take_zero, List.drop_succ_cons, List.drop_zero]
      refine wpStrong_run 4 rfl ?_
      simp only [List.take_succ_cons, List.take_zero, List.drop_succ_cons, List.drop_zero]
      go_big_quiet_want
      refine load16 (.tmp 5) _ 0 (encK K bx tw f (n - 1)) rfl rfl (fun w' hw' => (HT.out.1.drew.carry hw').range) ?_
      simp only [zp0, zp1, zp2, zp3]
      go_big_quiet_on
      repeat (go_big_quiet_step (fail))
      refine wpQuiet_nil ?_
      refine wpStrong_call rfl (fun X => by simp [go_sem]) (fun X hX => repl_any (encK K bx tw f (n - 1)) bx c 241 X (CipherAt.box (CipherAt.carry (RowAt.drew HT.out.2.2.1) hX))) ?_
      simp only [zp0, zp1, zp2, zp3]
      refine wpStrong_call rfl (fun X => by simp [go_sem]) (fun X hX => turnRows_any (replF bx (encK K bx tw f (n - 1))) 1 (.inl rfl) X) ?_
      simp only [zp0, zp1, zp2, zp3]
      refine wpStrong_nil ?_
      intro X hX
      have HX := hideit (StateAt.draw HT.out rfl hX)
      clear hX
      go_wp2_with (refine wpList_store_mid rfl 52 (.tmp 5) (.tmp 46) rfl _ 0 (row 16 (yv (turnF 1 (replF bx (encK K bx tw f (n - 1)))))).toArray rfl rfl (by rw [row_size]; exact HX.out.1.there) (by rw [row_size]; exact info32) (row_one fun _ _ => rfl) ?_)
      simp only [Act.put]
      have HY := hideit (HX.out.put hb2 hcs (turnF 1 (replF bx (encK K bx tw f (n - 1)))))
      clear HX HT e0
      generalize X.setCells b 0 (row 16 (yv (turnF 1 (replF bx (encK K bx tw f (n - 1)))))) = Y at *
      have hne := kept_ne Y.drew
      have e0 : ∀ k : Kept (Ext Y.drew), k.w.cell? ⟨c, 0, none⟩ = some (.int .i64 (n : Int)) := fun k => CipherAt.rounds (CipherAt.carry (RowAt.drew HY.out.2.2.1) k.ok)
      have i0 : (0 : Int) ≤ (n : Int) := by omega
      have i1 : (n : Int) < 15 := by omega
      refine wp_region_late 11 (by kernel_rfl) (by kernel_rfl) (by decide) ?_
      simp only [List.take_succ_cons, List.take_zero, List.drop_succ_cons, List.drop_zero]
      refine wpStrong_run 10 rfl ?_
      simp only [List.take_succ_cons, List.take_zero, List.drop_succ_cons, List.drop_zero]
      go_big_quiet_want
      refine load16 (.tmp 5) _ 0 (turnF 1 (replF bx (encK K bx tw f (n - 1)))) rfl rfl (fun w' hw' => (HY.out.1.drew.carry hw').range) ?_
      simp only [zp0, zp1, zp2, zp3]
      go_big_quiet_on
      repeat (go_big_quiet_step (fail))
      go_big_quiet_want
      refine load16 (.tmp 55) _ (1 + n * 16) (kF K n) rfl rfl (fun w' hw' => kF_range (CipherAt.carry (RowAt.drew HY.out.2.2.1) hw') n (by omega)) ?_
      simp only [zp0, zp1, zp2, zp3]
      go_big_quiet_on
      refine wpQuiet_nil ?_
      refine wpStrong_call rfl (fun X => by simp [go_sem]) (fun X hX => add_any (turnF 1 (replF bx (encK K bx tw f (n - 1)))) (kF K n) X) ?_
      simp only [zp0, zp1, zp2, zp3]
      refine wpStrong_nil ?_
      intro Z hZ
      have HZ := hideit (StateAt.draw HY.out rfl hZ)
      clear hZ HY
      go_wp2_with (refine wpList_store_mid rfl 52 (.tmp 4) (.tmp 57) rfl _ 0 (row 16 (yv (encF K bx tw n f))).toArray rfl rfl (by rw [row_size]; exact HZ.out.2.1.there) (by rw [row_size]; exact info32) (row_one fun _ _ => rfl) ?_)
      exact bodyPost_ret (ret_row Tryz.results34 rfl (HZ.out.2.1.cells (g' := yv (encF K bx tw n f))) Tryz.underlying52 rfl info32) rfl ⟨rfl, below_setCells _ (by omega) _ _ _ HZ.out.2.2.2⟩
end Go.Proofs.YtfpfgbhdehbggaaGreatDoor
namespace Go.Proofs.YtfpfgbhdehbggaaGreatDoor
set_option maxRecDepth 20000
open Go.RowKit
def preF (t f : Nat → BitVec 8) (j : Nat) : BitVec 8 := xB (f j) (t (t (xB (f (j / 4 * 4 + j % 2)) (f (j / 4 * 4 + (j % 2 + 2)))).toNat).toNat)
def unmixF (t f : Nat → BitVec 8) : Nat → BitVec 8 := mixF t (preF t f)
def PreAt (B : Nat) (w : World) (t f : Nat → BitVec 8) (i : Nat) (X : World) : Prop :=
  RowAt B 16 (yv fun j => if j < i then preF t f j else f j) X ∧ RowAt (B + 1) 16 (yv fun _ => 0#8) X ∧ Below B w X
def putB (B : Nat) (i : Nat) (v : BitVec 8) (X : World) : World := X.setCell ⟨B, i, none⟩ (.int .u8 (v.toNat : Int))
theorem PreAt.step {B : Nat} {w X : World} {t f : Nat → BitVec 8} {i : Nat} (h : PreAt B w t f i X) :
    PreAt B w t f (i + 4) (putB B (i + 3) (preF t f (i + 3)) (putB B (i + 2) (preF t f (i + 2)) (putB B (i + 1) (preF t f (i + 1)) (putB B i (preF t f i) X.drew.drew)))) := by
  obtain ⟨h1, h2, h3⟩ := h
  refine ⟨((((h1.drew.drew).set i _).set (i + 1) _).set (i + 2) _).set (i + 3) _ |>.congr ?_, ?_, ?_⟩
  · intro j _
    by_cases e3 : j = i + 3
    · subst e3; simp [yv]
    · by_cases e2 : j = i + 2
      · subst e2; simp [yv]
      · by_cases e1 : j = i + 1
        · subst e1; simp [yv]
        · by_cases e0 : j = i
          · subst e0; simp [yv]
          · have : (j < i + 4) ↔ (j < i) := by omega
            simp [yv, e0, e1, e2, e3, this]
  · unfold putB
    exact (((((h2.drew.drew).other _ _ (by simp)).other _ _ (by simp)).other _ _ (by simp)).other _ _ (by simp))
  · unfold putB
    exact (((((h3.drew.drew).setCell (by simp) _).setCell (by simp) _).setCell (by simp) _).setCell (by simp) _)
set_option maxRecDepth 20000 in
set_option maxHeartbeats 4000000 in
theorem unmix_any (f t : Nat → BitVec 8) (c : Nat) (w : World) (ht : TabAt c 753 t w) :
    Calls Tryz.prog 81 #[.pointer (some ⟨c, 0, none⟩), .agg (row 16 (yv f)).toArray] w fun e w' => e = .returned (.agg (row 16 (yv (unmixF t f))).toArray) ∧ Below w.heap.size w w' := by
  have hz := zero32
  have HT0 := hideit ht
  clear ht
  go_enter Tryz.func81, Tryz.ntmps81
  go_wp2
  go_loopw [5] (fun i wr => ∃ n : Nat, (n = 0 ∨ n = 4 ∨ n = 8 ∨ n = 12 ∨ n = 16) ∧ i = .int .i64 n ∧ PreAt w.heap.size w t f n wr) (fun i _ => 16 - (intOf i).toNat)
  case atStart =>
    refine ⟨0, by decide, rfl, ?_, ?_, ?_⟩
    · exact ((RowAt.new w 16 (yv f) 52).alloc _).congr (fun j _ => by simp [yv])
    · have := RowAt.newOf (w.alloc (Obj.cells (row 16 (yv f)).toArray 52)) 16 (yv fun _ => 0#8) 52 Y16 (fun j hj => Y16_get j hj _ rfl)
      simpa using this
    · exact ((Below.refl _ _).alloc (Nat.le_refl _) _).alloc (by simp) _
  case round =>
    obtain ⟨n, hn, rfl, hT⟩ := hrel
    by_cases hlt : n < 16
    · have hcB : c < w.heap.size := HT0.out.2
      have hne : ¬ (w.heap.size = c) := by omega
      have hne' : ¬ (c = w.heap.size) := by omega
      have ht : ∀ b : BitVec 8, wr.cell? ⟨c, 753 + b.toNat, none⟩ = some (.int .u8 ((t b.toNat).toNat : Int)) := fun b => (HT0.out.below HT0.out.2 hT.2.2).1 b.toNat b.isLt
      have HT := hideit hT
      obtain ⟨h1, _, _⟩ := hT
      have ox := xB_fact
      have hn' : n = 0 ∨ n = 4 ∨ n = 8 ∨ n = 12 := by omega
      clear hn hlt
      rcases hn' with rfl | rfl | rfl | rfl
      · have e0 := h1.1 0 (by decide)
        have e1 := h1.1 1 (by decide)
        have e2 := h1.1 2 (by decide)
        have e3 := h1.1 3 (by decide)
        have g0 := h1.2.1 0 (by decide)
        have g1 := h1.2.1 1 (by decide)
        have g2 := h1.2.1 2 (by decide)
        have g3 := h1.2.1 3 (by decide)
        simp only [yv, Nat.reduceLT, if_false] at e0 e1 e2 e3
        clear h1
        have t0 := ht (xB (f 0) (f 2))
        have t1 := ht (xB (f 1) (f 3))
        have t2 := ht (t (xB (f 0) (f 2)).toNat)
        have t3 := ht (t (xB (f 1) (f 3)).toNat)
        have b0 : ((xB (f 0) (f 2)).toNat : Int) < 256 := by have := (xB (f 0) (f 2)).isLt; omega
        have b1 : ((xB (f 1) (f 3)).toNat : Int) < 256 := by have := (xB (f 1) (f 3)).isLt; omega
        have b2 : ((t (xB (f 0) (f 2)).toNat).toNat : Int) < 256 := by have := (t (xB (f 0) (f 2)).toNat).isLt; omega
        have b3 : ((t (xB (f 1) (f 3)).toNat).toNat : Int) < 256 := by have := (t (xB (f 1) (f 3)).toNat).isLt; omega
        clear ht
        go_wp2
        go_region
        all_goals (try go_wp2)
        go_region
        all_goals (try go_wp2)
        go_roundw
        case rel =>
          first | exact ⟨4, by decide, by go_num, HT.out.step⟩ | ((repeat apply Exists.intro); exact ⟨⟨4, by decide, by go_num, HT.out.step⟩, rfl⟩)
        case measure => simp [intOf]
      · have e0 := h1.1 4 (by decide)
        have e1 := h1.1 5 (by decide)
        have e2 := h1.1 6 (by decide)
        have e3 := h1.1 7 (by decide)
        have g0 := h1.2.1 4 (by decide)
        have g1 := h1.2.1 5 (by decide)
        have g2 := h1.2.1 6 (by decide)
        have g3 := h1.2.1 7 (by decide)
        simp only [yv, Nat.reduceLT, if_false] at e0 e1 e2 e3
        clear h1
        have t0 := ht (xB (f 4) (f 6))
        have t1 := ht (xB (f 5) (f 7))
        have t2 := ht (t (xB (f 4) (f 6)).toNat)
        have t3 := ht (t (xB (f 5) (f 7)).toNat)
        have b0 : ((xB (f 4) (f 6)).toNat : Int) < 256 := by have := (xB (f 4) (f 6)).isLt; omega
        have b1 : ((xB (f 5) (f 7)).toNat : Int) < 256 := by have := (xB (f 5) (f 7)).isLt; omega
        have b2 : ((t (xB (f 4) (f 6)).toNat).toNat : Int) < 256 := by have := (t (xB (f 4) (f 6)).toNat).isLt; omega
        have b3 : ((t (xB (f 5) (f 7)).toNat).toNat : Int) < 256 := by have := (t (xB (f 5) (f 7)).toNat).isLt; omega
        clear ht
        go_wp2
        go_region
        all_goals (try go_wp2)
        go_region
        all_goals (try go_wp2)
        go_roundw
        case rel =>
          first | exact ⟨8, by decide, by go_num, HT.out.step⟩ | ((repeat apply Exists.intro); exact ⟨⟨8, by decide, by go_num, HT.out.step⟩, rfl⟩)
        case measure => simp [intOf]
      · have e0 := h1.1 8 (by decide)
        have e1 := h1.1 9 (by decide)
        have e2 := h1.1 10 (by decide)
        have e3 := h1.1 11 (by decide)
        have g0 := h1.2.1 8 (by decide)
        have g1 := h1.2.1 9 (by decide)
        have g2 := h1.2.1 10 (by decide)
        have g3 := h1.2.1 11 (by decide)
        simp only [yv, Nat.reduceLT, if_false] at e0 e1 e2 e3
        clear h1
        have t0 := ht (xB (f 8) (f 10))
        have t1 := ht (xB (f 9) (f 11))
        have t2 := ht (t (xB (f 8) (f 10)).toNat)
        have t3 := ht (t (xB (f 9) (f 11)).toNat)
        have b0 : ((xB (f 8) (f 10)).toNat : Int) < 256 := by have := (xB (f 8) (f 10)).isLt; omega
        have b1 : ((xB (f 9) (f 11)).toNat : Int) < 256 := by have := (xB (f 9) (f 11)).isLt; omega
        have b2 : ((t (xB (f 8) (f 10)).toNat).toNat : Int) < 256 := by have := (t (xB (f 8) (f 10)).toNat).isLt; omega
        have b3 : ((t (xB (f 9) (f 11)).toNat).toNat : Int) < 256 := by have := (t (xB (f 9) (f 11)).toNat).isLt; omega
        clear ht
        go_wp2
        go_region
        all_goals (try go_wp2)
        go_region
        all_goals (try go_wp2)
        go_roundw
        case rel =>
          first | exact ⟨12, by decide, by go_num, HT.out.step⟩ | ((repeat apply Exists.intro); exact ⟨⟨12, by decide, by go_num, HT.out.step⟩, rfl⟩)
        case measure => simp [intOf]
      · have e0 := h1.1 12 (by decide)
        have e1 := h1.1 13 (by decide)
        have e2 := h1.1 14 (by decide)
        have e3 := h1.1 15 (by decide)
        have g0 := h1.2.1 12 (by decide)
        have g1 := h1.2.1 13 (by decide)
        have g2 := h1.2.1 14 (by decide)
        have g3 := h1.2.1 15 (by decide)
        simp only [yv, Nat.reduceLT, if_false] at e0 e1 e2 e3
        clear h1
        have t0 := ht (xB (f 12) (f 14))
        have t1 := ht (xB (f 13) (f 15))
        have t2 := ht (t (xB (f 12) (f 14)).toNat)
        have t3 := ht (t (xB (f 13) (f 15)).toNat)
        have b0 : ((xB (f 12) (f 14)).toNat : Int) < 256 := by have := (xB (f 12) (f 14)).isLt; omega
        have b1 : ((xB (f 13) (f 15)).toNat : Int) < 256 := by have := (xB (f 13) (f 15)).isLt; omega
        have b2 : ((t (xB (f 12) (f 14)).toNat).toNat : Int) < 256 := by have := (t (xB (f 12) (f 14)).toNat).isLt; omega
        have b3 : ((t (xB (f 13) (f 15)).toNat).toNat : Int) < 256 := by have := (t (xB (f 13) (f 15)).toNat).isLt; omega
        clear ht
        go_wp2
        go_region
        all_goals (try go_wp2)
        go_region
        all_goals (try go_wp2)
        go_roundw
        case rel =>
          first | exact ⟨16, by decide, by go_num, HT.out.step⟩ | ((repeat apply Exists.intro); exact ⟨⟨16, by decide, by go_num, HT.out.step⟩, rfl⟩)
        case measure => simp [intOf]
    · obtain rfl : n = 16 := by omega
      obtain ⟨h1, h3, hB⟩ := hT
      have HTW := hideit (HT0.out.below HT0.out.2 hB)
      have HR := hideit (h1.congr (g' := yv (preF t f)) (fun j hj => by simp [yv, hj]))
      have HR0 := hideit h3
      clear h1 h3
      go_wp2_with (first | (refine wpList_load_mid rfl 52 (.tmp 3) rfl _ 0 rfl (row 16 (yv (preF t f))) _ HR.out.range Tryz.underlying52 rfl (by rw [row_length]; exact info32) ?_) | (go_at_call 63; refine (mix_any (preF t f) t c _ HTW.out).mono ?_; rintro e w' ⟨rfl, hb⟩) | (refine wpList_store_mid rfl 52 (.tmp 4) (.tmp 78) rfl _ 0 (row 16 (yv (mixF t (preF t f)))).toArray rfl rfl (by rw [row_size]; exact (HR0.out.carry hb).there) (by rw [row_size]; exact info32) (row_one fun _ _ => rfl) ?_))
      exact bodyPost_ret (ret_row Tryz.results81 rfl ((HR0.out.carry hb).cells (g' := yv (mixF t (preF t f)))) Tryz.underlying52 rfl info32) rfl ⟨rfl, below_setCells _ (by omega) _ _ _ (hB.trans (hb.mono hB.size))⟩
end Go.Proofs.YtfpfgbhdehbggaaGreatDoor
namespace Go.Proofs.YtfpfgbhdehbggaaGreatDoor
set_option maxRecDepth 20000
open Go.RowKit Go.BigFrame
def decK (K ub tw : Nat → BitVec 8) (r : Nat) (f : Nat → BitVec 8) : Nat → Nat → BitVec 8
  | 0 => addF f (kF K r)
  | m + 1 => unmixF tw (addF (replF ub (turnF 3 (decK K ub tw r f m))) (kF K (r - 1 - m)))
def decF (K ub tw : Nat → BitVec 8) (r : Nat) (f : Nat → BitVec 8) : Nat → BitVec 8 := addF (replF ub (turnF 3 (decK K ub tw r f (r - 1)))) (kF K 0)
theorem decK_succ (K ub tw f : Nat → BitVec 8) (r n : Nat) (hn : 1 ≤ n) (hr : n ≤ r - 1) : unmixF tw (addF (replF ub (turnF 3 (decK K ub tw r f (r - 1 - n)))) (kF K n)) = decK K ub tw r f (r - 1 - (n - 1)) := by
  obtain ⟨m, hm⟩ : ∃ m, m = r - 1 - n := ⟨_, rfl⟩
  have h1 : r - 1 - (n - 1) = m + 1 := by omega
  have h2 : r - 1 - m = n := by omega
  rw [h1, ← hm]
  simp only [decK, h2]
set_option maxRecDepth 20000 in
set_option maxHeartbeats 2000000 in
theorem dec_any (c r : Nat) (K bx ub tw f : Nat → BitVec 8) (hr : 1 ≤ r) (hr2 : r ≤ 14) (w : World) (h : CipherAt c r K bx ub tw w) :
    Calls Tryz.prog 51 #[.pointer (some ⟨c, 0, none⟩), .agg (row 16 (yv f)).toArray] w fun e w' => e = .returned (.agg (row 16 (yv (decF K ub tw r f))).toArray) ∧ Below w.heap.size w w' := by
  have hz := store_Y16
  have hcs : c < w.heap.size := h.2.2
  have hne : ¬ (c = w.heap.size) := by omega
  have HA : RowAt w.heap.size 16 (yv f) ((w.alloc (.cells (row 16 (yv f)).toArray 52)).alloc (.cells (row 16 (yv fun _ => 0#8)).toArray 52)) := (RowAt.new w 16 (yv f) 52).alloc _
  have HZ : RowAt (w.heap.size + 1) 16 (yv fun _ => 0#8) ((w.alloc (.cells (row 16 (yv f)).toArray 52)).alloc (.cells (row 16 (yv fun _ => 0#8)).toArray 52)) := by
    have := RowAt.new (w.alloc (.cells (row 16 (yv f)).toArray 52)) 16 (yv fun _ => 0#8) 52
    simpa using this
  have HC : CipherAt c r K bx ub tw ((w.alloc (.cells (row 16 (yv f)).toArray 52)).alloc (.cells (row 16 (yv fun _ => 0#8)).toArray 52)) := RowAt.alloc (RowAt.alloc h _) _
  have HBl : Below w.heap.size w ((w.alloc (.cells (row 16 (yv f)).toArray 52)).alloc (.cells (row 16 (yv fun _ => 0#8)).toArray 52)) := ((Below.refl _ _).alloc (Nat.le_refl _) _).alloc (by simp) _
  replace HA := hideit HA
  replace HZ := hideit HZ
  replace HC := hideit HC
  replace HBl := hideit HBl
  clear h
  have i0 : (0 : Int) ≤ (r : Int) := by omega
  have i1 : (r : Int) < 15 := by omega
  have e0 : ∀ k : Kept (Ext ((w.alloc (.cells (row 16 (yv f)).toArray 52)).alloc (.cells (row 16 (yv fun _ => 0#8)).toArray 52)).drew), k.w.cell? ⟨c, 0, none⟩ = some (.int .i64 (r : Int)) := fun k => CipherAt.rounds (CipherAt.carry (RowAt.drew HC.out) k.ok)
  go_enter Tryz.func51, Tryz.ntmps51
  go_wp2
  have hne := kept_ne ((w.alloc (.cells (row 16 (yv f)).toArray 52)).alloc (.cells (row 16 (yv fun _ => 0#8)).toArray 52)).drew
  refine wp_region_made 11 16 (yv fun _ => 0#8) _ (by kernel_rfl) (by kernel_rfl) rfl (makes32 rfl rfl) ?_
  simp only [List.take_succ_cons, List.take_zero, List.drop_succ_cons, List.drop_zero]
  refine wpStrong_run 10 rfl ?_
  simp only [List.take_succ_cons, List.take_zero, List.drop_succ_cons, List.drop_zero]
  go_big_quiet_want
  refine load16 (.tmp 3) _ 0 (f) rfl rfl (fun w' hw' => (HA.out.drew.carry hw').range) ?_
  simp only [zp0, zp1, zp2, zp3]
  go_big_quiet_on
  repeat (go_big_quiet_step (fail))
  go_big_quiet_want
  refine load16 (.tmp 18) _ (1 + r * 16) (kF K r) rfl rfl (fun w' hw' => kF_range (CipherAt.carry (RowAt.drew HC.out) hw') r (by omega)) ?_
  simp only [zp0, zp1, zp2, zp3]
  go_big_quiet_on
  refine wpQuiet_nil ?_
  refine wpStrong_call rfl (fun X => by simp [go_sem]) (fun X hX => add_any f (kF K r) X) ?_
  simp only [zp0, zp1, zp2, zp3]
  refine wpStrong_nil ?_
  intro b X hb hX hR
  have hb2 : w.heap.size + 2 ≤ b := by
    have : ((w.alloc (.cells (row 16 (yv f)).toArray 52)).alloc (.cells (row 16 (yv fun _ => 0#8)).toArray 52)).heap.size = w.heap.size + 1 + 1 := by simp
    omega
  have HS := hideit (StateAt.ext (c := c) (r := r) (K := K) (bx := bx) (ub := ub) (tw := tw) (b := w.heap.size) (f := f) ⟨HA.out.drew, HZ.out.drew, RowAt.drew HC.out, HBl.out.drew⟩ rfl hX)
  have HS2 : StateAt c r K bx ub tw w.heap.size w b (fun _ => 0#8) X := ⟨hR, HS.out.2⟩
  replace HS2 := hideit HS2
  clear HA HZ HC HBl HS e0
  replace hR := hideit hR
  refine wpList_store_mid rfl 52 (.tmp 5) (.tmp 20) rfl _ 0 (row 16 (yv (addF f (kF K r)))).toArray rfl rfl (by rw [row_size]; exact hR.out.there) (by rw [row_size]; exact info32) (row_one fun _ _ => rfl) ?_
  have HS3 := hideit (HS2.out.put hb2 hcs (addF f (kF K r)))
  clear hX hR HS2
  generalize X.setCells b 0 (row 16 (yv (addF f (kF K r)))) = X1 at *
  have e0 := CipherAt.rounds HS3.out.2.2.1
  have i2 : ((r - 1 : Nat) : Int) = (r : Int) - 1 := by omega
  go_wp2
  go_loopw [6] (fun i wr => ∃ n : Nat, n ≤ r - 1 ∧ i = .int .i64 n ∧ StateAt c r K bx ub tw w.heap.size w b (decK K ub tw r f (r - 1 - n)) wr) (fun i _ => (intOf i).toNat)
  case atStart => exact ⟨r - 1, by omega, by rw [i2], by rw [Nat.sub_self]; exact HS3.out⟩
  case round =>
    obtain ⟨n, hn, rfl, hT⟩ := hrel
    have HT := hideit hT
    clear hT HS3 e0
    by_cases hlt : 1 ≤ n
    · have hlt2 : (0 : Int) < (n : Int) := by omega
      go_wp2
      have hne := kept_ne (wr).drew
      refine wp_region_late 6 (by kernel_rfl) (by kernel_rfl) (by decide) ?_
      simp only [List.take_succ_cons, List.take_zero, List.drop_succ_cons, List.drop_zero]
      refine wpStrong_run 1 rfl ?_
      simp only [List.take_succ_cons, List.take_zero, List.drop_succ_cons, List.drop_zero]
      go_big_quiet_want
      refine load16 (.tmp 5) _ 0 (decK K ub tw r f (r - 1 - n)) rfl rfl (fun w' hw' => (HT.out.1.drew.carry hw').range) ?_
      simp only [zp0, zp1, zp2, zp3]
      go_big_quiet_on
      refine wpQuiet_nil ?_
      refine wpStrong_call rfl (fun X => by simp [go_sem]) (fun X hX => turnRows_any (decK K ub tw r f (r - 1 - n)) 3 (.inr rfl) X) ?_
      simp only [zp0, zp1, zp2, zp3]
      refine wpStrong_run 3 rfl ?_
      simp only [List.take_succ_cons, List.take_zero, List.drop_succ_cons, List.drop_zero]
      repeat (go_big_quiet_step (fail))
      refine wpQuiet_nil ?_
      refine wpStrong_call rfl (fun X => by simp [go_sem]) (fun X hX => repl_any (turnF 3 (decK K ub tw r f (r - 1 - n))) ub c 497 X (CipherAt.unbox (CipherAt.carry (RowAt.drew HT.out.2.2.1) hX))) ?_
      simp only [zp0, zp1, zp2, zp3]
      refine wpStrong_nil ?_
      intro X hX
      have HX := hideit (StateAt.draw HT.out rfl hX)
      clear hX
      refine wpList_store_mid rfl 52 (.tmp 5) (.tmp 35) rfl _ 0 (row 16 (yv (replF ub (turnF 3 (decK K ub tw r f (r - 1 - n)))))).toArray rfl rfl (by rw [row_size]; exact HX.out.1.there) (by rw [row_size]; exact info32) (row_one fun _ _ => rfl) ?_
      go_wp2
      try simp only [Act.put]
      have HY := hideit (HX.out.put hb2 hcs (replF ub (turnF 3 (decK K ub tw r f (r - 1 - n)))))
      clear HX HT
      generalize X.setCells b 0 (row 16 (yv (replF ub (turnF 3 (decK K ub tw r f (r - 1 - n)))))) = Y at *
      have j0 : (0 : Int) ≤ (n : Int) := by omega
      have j1 : (n : Int) < 15 := by omega
      have hne := kept_ne (Y).drew
      refine wp_region_late 10 (by kernel_rfl) (by kernel_rfl) (by decide) ?_
      simp only [List.take_succ_cons, List.take_zero, List.drop_succ_cons, List.drop_zero]
      refine wpStrong_run 8 rfl ?_
      simp only [List.take_succ_cons, List.take_zero, List.drop_succ_cons, List.drop_zero]
      go_big_quiet_step (fail)
      go_big_quiet_want
      refine load16 (.tmp 5) _ 0 (replF ub (turnF 3 (decK K ub tw r f (r - 1 - n)))) rfl rfl (fun w' hw' => (HY.out.1.drew.carry hw').range) ?_
      simp only [zp0, zp1, zp2, zp3]
      go_big_quiet_on
      repeat (go_big_quiet_step (fail))
      go_big_quiet_want
      refine load16 (.tmp 42) _ (1 + n * 16) (kF K n) rfl rfl (fun w' hw' => kF_range (CipherAt.carry (RowAt.drew HY.out.2.2.1) hw') n (by omega)) ?_
      simp only [zp0, zp1, zp2, zp3]
      go_big_quiet_on
      refine wpQuiet_nil ?_
      refine wpStrong_call rfl (fun X => by simp [go_sem]) (fun X hX => add_any (replF ub (turnF 3 (decK K ub tw r f (r - 1 - n)))) (kF K n) X) ?_
      simp only [zp0, zp1, zp2, zp3]
      refine wpStrong_call rfl (fun X => by simp [go_sem]) (fun X hX => unmix_any (addF (replF ub (turnF 3 (decK K ub tw r f (r - 1 - n)))) (kF K n)) tw c X (CipherAt.twice (CipherAt.carry (RowAt.drew HY.out.2.2.1) hX))) ?_
      simp only [zp0, zp1, zp2, zp3]
      refine wpStrong_nil ?_
      rw [decK_succ K ub tw f r n hlt hn]
      intro Z hZ
      have HZ := hideit (StateAt.draw HY.out rfl hZ)
      clear hZ HY
      refine wpList_store_mid rfl 52 (.tmp 5) (.tmp 45) rfl _ 0 (row 16 (yv (decK K ub tw r f (r - 1 - (n - 1))))).toArray rfl rfl (by rw [row_size]; exact HZ.out.1.there) (by rw [row_size]; exact info32) (row_one fun _ _ => rfl) ?_
      have HI := hideit (HZ.out.put hb2 hcs (decK K ub tw r f (r - 1 - (n - 1))))
      clear HZ
      generalize Z.setCells b 0 (row 16 (yv (decK K ub tw r f (r - 1 - (n - 1))))) = V at *
      have i3 : ((n - 1 : Nat) : Int) = (n : Int) - 1 := by omega
      go_wp2
      go_roundw
      case rel =>
        first | exact ⟨(n - 1 : Nat), by omega, by first | go_num | (rw [i3]) | (simp only [i3]), HI.out⟩ | ((repeat apply Exists.intro); exact ⟨⟨n - 1, by omega, by first | go_num | (rw [i3]) | (simp only [i3]), HI.out⟩, rfl⟩)
      case measure => simp [intOf]; omega
    · obtain rfl : n = 0 := by omega
      rw [Nat.sub_zero] at HT
      go_wp2
      have hne := kept_ne (wr).drew
      refine wp_region_late 6 (by kernel_rfl) (by kernel_rfl) (by decide) ?_
      simp only [List.take_succ_cons, List.take_zero, List.drop_succ_cons, List.drop_zero]
      refine wpStrong_run 1 rfl ?_
      simp only [List.take_succ_cons, List.take_zero, List.drop_succ_cons, List.drop_zero]
      go_big_quiet_want
      refine load16 (.tmp 5) _ 0 (decK K ub tw r f (r - 1)) rfl rfl (fun w' hw' => (HT.out.1.drew.carry hw').range) ?_
      simp only [zp0, zp1, zp2, zp3]
      go_big_quiet_on
      refine wpQuiet_nil ?_
      refine wpStrong_call rfl (fun X => by simp [go_sem]) (fun X hX => turnRows_any (decK K ub tw r f (r - 1)) 3 (.inr rfl) X) ?_
      simp only [zp0, zp1, zp2, zp3]
      refine wpStrong_run 3 rfl ?_
      simp only [List.take_succ_cons, List.take_zero, List.drop_succ_cons, List.drop_zero]
      repeat (go_big_quiet_step (fail))
      refine wpQuiet_nil ?_
      refine wpStrong_call rfl (fun X => by simp [go_sem]) (fun X hX => repl_any (turnF 3 (decK K ub tw r f (r - 1))) ub c 497 X (CipherAt.unbox (CipherAt.carry (RowAt.drew HT.out.2.2.1) hX))) ?_
      simp only [zp0, zp1, zp2, zp3]
      refine wpStrong_nil ?_
      intro X hX
      have HX := hideit (StateAt.draw HT.out rfl hX)
      clear hX
      refine wpList_store_mid rfl 52 (.tmp 5) (.tmp 51) rfl _ 0 (row 16 (yv (replF ub (turnF 3 (decK K ub tw r f (r - 1)))))).toArray rfl rfl (by rw [row_size]; exact HX.out.1.there) (by rw [row_size]; exact info32) (row_one fun _ _ => rfl) ?_
      go_wp2
      try simp only [Act.put]
      have HY := hideit (HX.out.put hb2 hcs (replF ub (turnF 3 (decK K ub tw r f (r - 1)))))
      clear HX HT
      generalize X.setCells b 0 (row 16 (yv (replF ub (turnF 3 (decK K ub tw r f (r - 1)))))) = Y at *
      have hne := kept_ne (Y).drew
      refine wp_region_late 7 (by kernel_rfl) (by kernel_rfl) (by decide) ?_
      simp only [List.take_succ_cons, List.take_zero, List.drop_succ_cons, List.drop_zero]
      refine wpStrong_run 6 rfl ?_
      simp only [List.take_succ_cons, List.take_zero, List.drop_succ_cons, List.drop_zero]
      go_big_quiet_want
      refine load16 (.tmp 5) _ 0 (replF ub (turnF 3 (decK K ub tw r f (r - 1)))) rfl rfl (fun w' hw' => (HY.out.1.drew.carry hw').range) ?_
      simp only [zp0, zp1, zp2, zp3]
      go_big_quiet_on
      repeat (go_big_quiet_step (fail))
      go_big_quiet_want
      refine load16 (.tmp 56) _ 1 (kF K 0) rfl rfl (fun w' hw' => kF_range (CipherAt.carry (RowAt.drew HY.out.2.2.1) hw') 0 (by omega)) ?_
      simp only [zp0, zp1, zp2, zp3]
      go_big_quiet_on
      refine wpQuiet_nil ?_
      refine wpStrong_call rfl (fun X => by simp [go_sem]) (fun X hX => add_any (replF ub (turnF 3 (decK K ub tw r f (r - 1)))) (kF K 0) X) ?_
      simp only [zp0, zp1, zp2, zp3]
      refine wpStrong_nil ?_
      intro Z hZ
      have HZ := hideit (StateAt.draw HY.out rfl hZ)
      clear hZ HY
      refine wpList_store_mid rfl 52 (.tmp 4) (.tmp 58) rfl _ 0 (row 16 (yv (decF K ub tw r f))).toArray rfl rfl (by rw [row_size]; exact HZ.out.2.1.there) (by rw [row_size]; exact info32) (row_one fun _ _ => rfl) ?_
      go_wp2
      exact bodyPost_ret (ret_row Tryz.results51 rfl (HZ.out.2.1.cells (g' := yv (decF K ub tw r f))) Tryz.underlying52 rfl info32) rfl ⟨rfl, below_setCells _ (by omega) _ _ _ HZ.out.2.2.2⟩
end Go.Proofs.YtfpfgbhdehbggaaGreatDoor
