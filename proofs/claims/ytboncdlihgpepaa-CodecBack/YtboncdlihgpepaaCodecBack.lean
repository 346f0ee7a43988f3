/-
  For all Ops the law CodecBack returns true, and its arguments read behind the call as they read before.
-/
import Derived.Test.YtboncdlihgpepaaRows
import Derived.ProofKit
import Derived.OpenShut
import Derived.ShutString
import Derived.ChangeOld
import Derived.Below
import Derived.SizedLaws
import Derived.Test.YtboncdlihgpepaaLives
import Derived.Test.YtboncdlihgpepaaBk
import Derived.Test.YtboncdlihgpepaaWp
import Derived.Test.YtboncdlihgpepaaLad
namespace Go.Proofs.Ytboncdlihgpepaa.codecBack
open Go.ChangeShapes Go.WideShapes Go.ChangeAt Go.RowKit
set_option linter.unusedVariables false

theorem own : ownKnob Try.prog.godebug = none := by kernel_rfl
theorem laidOut : laidOutB Try.prog = true := by kernel_rfl

open Go.BigFrame
/-- the lowest n bytes -/
def mkW (x : BitVec 64) (n : Nat) : BitVec 64 := BitVec.ofNat 64 (x.toNat % 2 ^ (8 * n))
theorem and_nat (a b : BitVec 64) : bits .and .u64 (a.toNat : Int) (b.toNat : Int) = ((a &&& b).toNat : Int) := by
  rw [u64_and_nat _ _ a.isLt b.isLt, BitVec.toNat_and]
theorem row4 (k m : Int) (x : BitVec 64) (u : Value) : row 4 (opv k m x u) = [.int .i64 k, .int .i64 m, .int .u64 (x.toNat : Int), u] := rfl
theorem mkW_nat (x : BitVec 64) (n : Nat) (hn : n ≤ 7) : (mkW x n).toNat = x.toNat % 2 ^ (8 * n) := by
  unfold mkW
  rw [BitVec.toNat_ofNat]
  exact Nat.mod_eq_of_lt (Nat.lt_of_le_of_lt (Nat.mod_le _ _) x.isLt)
theorem mkW_lt (x : BitVec 64) (n : Nat) (hn : n ≤ 7) : (mkW x n).toNat < 2 ^ (8 * n) := by
  rw [mkW_nat x n hn]
  exact Nat.mod_lt _ (Nat.two_pow_pos _)
theorem mk_and1 (x : BitVec 64) : bits .and .u64 (x.toNat : Int) 255 = ((mkW x 1).toNat : Int) := by
  rw [mkW_nat x 1 (by decide)]
  rw [show (255 : Int) = ((2 ^ 8 - 1 : Nat) : Int) from rfl, u64_and_nat _ _ x.isLt (by decide), Nat.and_two_pow_sub_one_eq_mod]
theorem mk_and2 (x : BitVec 64) : bits .and .u64 (x.toNat : Int) 65535 = ((mkW x 2).toNat : Int) := by
  rw [mkW_nat x 2 (by decide)]
  rw [show (65535 : Int) = ((2 ^ 16 - 1 : Nat) : Int) from rfl, u64_and_nat _ _ x.isLt (by decide), Nat.and_two_pow_sub_one_eq_mod]
theorem mk_and4 (x : BitVec 64) : bits .and .u64 (x.toNat : Int) 4294967295 = ((mkW x 4).toNat : Int) := by
  rw [mkW_nat x 4 (by decide)]
  rw [show (4294967295 : Int) = ((2 ^ 32 - 1 : Nat) : Int) from rfl, u64_and_nat _ _ x.isLt (by decide), Nat.and_two_pow_sub_one_eq_mod]
theorem neww_3 (n : Nat) (f : Nat → BitVec 8) (w : World) (hs : n + 3 ≤ 16777216) :
    Calls Try.prog 21 #[.int .i64 ((n : Int) + 3)] w fun e w' => ∃ c, e = .returned (.pointer (some ⟨c, 0, none⟩)) ∧ w.heap.size ≤ c ∧ Wr c (n + 3) 0 f false w' ∧ Ext w w' := by
  have k := neww_any (n + 3) f w hs
  rw [show ((n + 3 : Nat) : Int) = (n : Int) + 3 by omega] at k
  exact k.mono fun e w' h => ⟨_, h.1, Nat.le_refl _, h.2.1, h.2.2⟩
theorem row_bv2 {g m : Nat} {f : Nat → BitVec 8} {w : World} (h : RowAt g m (yv f) w) : BV (.slice (some ⟨g, 0, none⟩) m m) m f w := .inr ⟨⟨g, 0, none⟩, m, rfl, Nat.le_refl _, ⟨fun j hj => by
  have := h.1 j hj
  rw [show (⟨g, 0, none⟩ : Addr).add j = ⟨g, j, none⟩ by unfold Addr.add; by_cases h0 : j = 0 <;> simp [h0]]
  exact this, h.2.2⟩⟩
theorem shF_three (f : Nat → BitVec 8) (a b : Nat) : shF (shF f a) b = shF f (a + b) := by
  funext j; unfold shF; rw [Nat.add_assoc]
theorem did_cells {base m : Nat} {v : Value} {ks ns : Nat → Int} {xs : Nat → BitVec 64} {us : Nat → Value} {X : World} (h : OwnK 4 base 31 v m (opc ks ns xs us) X) : ∃ (od : Option Addr) (cd : Nat), v = .slice od m cd ∧ ∀ j, j < m → ∃ b, od = some ⟨b, 0, none⟩ ∧ b < X.heap.size ∧ OpAt b (j * 4) (ks j) (ns j) (xs j) (us j) X := by
  obtain ⟨od, cd, hv⟩ := h.form
  refine ⟨od, cd, hv, fun j hj => ?_⟩
  obtain ⟨b, cap, h1, _, _, _, hR⟩ := h.lies (by omega)
  rw [hv] at h1
  injection h1 with h1
  have hc : ∀ i, i < 4 → X.cell? ⟨b, j * 4 + i, none⟩ = some (opv (ks j) (ns j) (xs j) (us j) i) := fun i hi => by
    have := hR.1 (j * 4 + i) (by omega)
    rw [this]
    unfold opc
    rw [show (j * 4 + i) / 4 = j by omega, show (j * 4 + i) % 4 = i by omega]
  exact ⟨b, h1, hR.2.2, hc 0 (by omega), hc 1 (by omega), hc 2 (by omega), hc 3 (by omega)⟩
set_option maxRecDepth 20000 in
set_option maxHeartbeats 40000000 in
theorem walk (lv : Value) (w : World) (ho0 : OArg lv w) : Calls Try.prog 4 #[lv] w fun e w' => e = .returned (.bool true) ∧ Below w.heap.size w w' := by
  obtain ⟨n, cl, ol, iks, ins, ixs, ius, ils, ibs, hlv, hn9, hops⟩ : ∃ (n cl : Nat) (ol : Option Addr) (ks ms : Nat → Int) (xs : Nat → BitVec 64) (us : Nat → Value) (ls : Nat → Nat) (bs : Nat → Nat → BitVec 8), lv = .slice ol n cl ∧ n ≤ 9223372036854775807 ∧ ∀ i, i < n → ∃ (ab ao : Nat), ol = some ⟨ab, ao, none⟩ ∧ OpAt ab (ao + i * 4) (ks i) (ms i) (xs i) (us i) w ∧ PV (us i) (ls i) (bs i) w := by
    rcases ho0 with rfl | ⟨ab, ao, n, cap, ks, ms, xs, us, ls, bs, rfl, h1, h2, h3⟩
    · exact ⟨0, 0, none, fun _ => 0, fun _ => 0, fun _ => 0#64, fun _ => undef, fun _ => 0, fun _ _ => 0#8, rfl, by omega, fun i hi => by omega⟩
    · exact ⟨n, cap, _, ks, ms, xs, us, ls, bs, rfl, h2, fun i hi => ⟨ab, ao, rfl, h3 i hi⟩⟩
  subst hlv
  replace hops := hideit hops
  clear ho0
  go_enter Try.func4, Try.ntmps4
  go_wp2
  go_loopw [3, 4, 5] (fun s v i X => ∃ (k m : Nat) (ks ns : Nat → Int) (xs : Nat → BitVec 64) (us : Nat → Value) (ls : Nat → Nat) (bs : Nat → Nat → BitVec 8), k ≤ n ∧ k ≤ 500 ∧ m ≤ k ∧ i = .int .i64 k ∧ s = .int .i64 ((sumN ls m : Nat) : Int) ∧ OwnK 4 w.heap.size 31 v m (opc ks ns xs us) X ∧ (∀ j, j < m → GoodOp (ks j) (ns j) (xs j) (us j) (ls j) (bs j) w) ∧ Ext w X) (fun _ _ i _ => n - (intOf i).toNat)
  case atStart => exact ⟨0, 0, fun _ => 0, fun _ => 0, fun _ => 0#64, fun _ => undef, fun _ => 0, fun _ _ => 0#8, Nat.zero_le _, Nat.zero_le _, Nat.le_refl _, rfl, rfl, ownK_nil _ _ _ _ _, fun j hj => absurd hj (by omega), Ext.refl _⟩
  case round =>
    obtain ⟨k, m, ks, ns, xs, us, ls, bs, hk, hk5, hm, rfl, rfl, hD, hgood, hE⟩ := hrel
    have hsum : sumN ls m ≤ m * 1000 := sumN_bound ls 1000 m fun j hj => (hgood j hj).le
    replace hD := hideit hD
    replace hE := hideit hE
    replace hgood := hideit hgood
    obtain ⟨sz, hsz⟩ : ∃ sz, sz = sumN ls m := ⟨_, rfl⟩
    rw [← hsz] at hsum ⊢
    replace hsz := hideit hsz
    have s0 : (0 : Int) ≤ (sz : Int) := by omega
    have s1 : (sz : Int) ≤ 500000 := by omega
    by_cases hlt : k < n ∧ k < 500
    · have k0 : (0 : Int) ≤ (k : Int) := by omega
      have k1 : (k : Int) < (n : Int) := by omega
      have k2 : (k : Int) < 500 := by omega
      obtain ⟨ab, ao, rfl, hop, hpv⟩ := hops.out k hlt.1
      go_upto_region 6 with (fail)
      obtain ⟨ob, hob⟩ : ∃ ob, ob = wr.heap.size := ⟨_, rfl⟩
      have hu1 := hpv.one
      replace hpv := hideit hpv
      have hN : RowAt wr.heap.size 4 (opv 0 0 0#64 (.slice none 0 0)) (wr.alloc (.cells #[.int .i64 0, .int .i64 0, .int .u64 0, .slice none 0 0] 31)) := RowAt.newOf wr 4 _ 31 _ (fun j hj => by
        rcases (by omega : j = 0 ∨ j = 1 ∨ j = 2 ∨ j = 3) with rfl | rfl | rfl | rfl <;> rfl)
      have hN2 : RowAt wr.heap.size 4 (opv (iks k) (ins k) (ixs k) (ius k)) ((wr.alloc (.cells #[.int .i64 0, .int .i64 0, .int .u64 0, .slice none 0 0] 31)).setCells wr.heap.size 0 (row 4 (opv (iks k) (ins k) (ixs k) (ius k)))) := hN.cells
      have hEn : Ext wr ((wr.alloc (.cells #[.int .i64 0, .int .i64 0, .int .u64 0, .slice none 0 0] 31)).setCells wr.heap.size 0 (row 4 (opv (iks k) (ins k) (ixs k) (ius k)))) := below_setCells _ (Nat.le_refl _) _ _ _ ((Below.refl _ _).alloc (Nat.le_refl _) _)
      have hrg := opv_range (opAt_ext hop hE.out)
      refine wp_region_lit ?_
      refine wpList_run rfl (.slice (some ⟨ab, ao, none⟩) n cl) (by simp [go_sem]) ?_
      simp only [Act.put, List.setIfInBounds_toArray, List.set_cons_zero, List.set_cons_succ]
      refine wpList_run rfl (.int .i64 (k : Int)) (by simp [go_sem]) ?_
      simp only [Act.put, List.setIfInBounds_toArray, List.set_cons_zero, List.set_cons_succ]
      refine wpList_run rfl (.pointer (some ⟨ab, ao + k * 4, none⟩)) (by simp [go_sem, k1]) ?_
      simp only [Act.put, List.setIfInBounds_toArray, List.set_cons_zero, List.set_cons_succ]
      refine wpList_load_mid rfl 31 (.tmp 25) rfl ab (ao + k * 4) rfl (row 4 (opv (iks k) (ins k) (ixs k) (ius k))) _ hrg Try.underlying31 rfl (by kernel_rfl) ?_
      simp only [Act.put, List.setIfInBounds_toArray, List.set_cons_zero, List.set_cons_succ]
      refine wpList_to rfl (.pointer (some ⟨wr.heap.size, 0, none⟩)) (wr.alloc (.cells #[.int .i64 0, .int .i64 0, .int .u64 0, .slice none 0 0] 31)) (by simp [go_sem]) ?_
      simp only [Act.put, List.setIfInBounds_toArray, List.set_cons_zero, List.set_cons_succ]
      refine wpList_store_mid rfl 31 (.tmp 6) (.tmp 26) rfl wr.heap.size 0 (row 4 (opv (iks k) (ins k) (ixs k) (ius k))).toArray rfl rfl (by rw [row_size]; exact hN.there) (by kernel_rfl) (row_one (opv_one hu1)) ?_
      have hE2 := hideit (Ext.trans hE.out hEn)
      have hD2 := hideit (hD.out.ext hEn)
      have hN3 := hideit hN2
      have hDob := hideit (fun q hq => (hD.out.lt q hq).2)
      rw [← hob] at hDob
      have hobw : Hid (w.heap.size ≤ ob) := by rw [hob]; exact Below.size hE.out
      clear hN hN2 hEn hrg hD hE hop
      rw [show (row 4 (opv (iks k) (ins k) (ixs k) (ius k))).toArray.toList = row 4 (opv (iks k) (ins k) (ixs k) (ius k)) from rfl]
      generalize (wr.alloc (.cells #[.int .i64 0, .int .i64 0, .int .u64 0, .slice none 0 0] 31)).setCells wr.heap.size 0 (row 4 (opv (iks k) (ins k) (ixs k) (ius k))) = W2 at *
      rw [← hob] at hN3 ⊢
      clear hob
      obtain ⟨K, hK⟩ : ∃ K, K = iks k := ⟨_, rfl⟩
      obtain ⟨N, hNN⟩ : ∃ N, N = ins k := ⟨_, rfl⟩
      obtain ⟨xv, hx⟩ : ∃ xv, xv = ixs k := ⟨_, rfl⟩
      obtain ⟨u, hu⟩ : ∃ u, u = ius k := ⟨_, rfl⟩
      obtain ⟨ul, hul⟩ : ∃ ul, ul = ils k := ⟨_, rfl⟩
      obtain ⟨ub, hub⟩ : ∃ ub, ub = ibs k := ⟨_, rfl⟩
      rw [← hK, ← hNN, ← hx, ← hu] at hN3
      rw [← hu] at hu1
      rw [← hu, ← hul, ← hub] at hpv
      clear hK hNN hx hu hul hub hops
      have e0 : W2.cell? ⟨ob, 0, none⟩ = some (.int .i64 K) := hN3.out.1 0 (by decide)
      have e1 : W2.cell? ⟨ob, 1, none⟩ = some (.int .i64 N) := hN3.out.1 1 (by decide)
      have e2 : W2.cell? ⟨ob, 2, none⟩ = some (.int .u64 (xv.toNat : Int)) := hN3.out.1 2 (by decide)
      have e3 : W2.cell? ⟨ob, 3, none⟩ = some u := hN3.out.1 3 (by decide)
      simp only [Act.put]
      by_cases hK1 : K = 1
      · subst hK1
        rcases (by omega : N = 8 ∨ N = 1 ∨ N = 2 ∨ N = 4 ∨ (¬ N = 1 ∧ ¬ N = 2 ∧ ¬ N = 4 ∧ ¬ N = 8)) with rfl | rfl | rfl | rfl | ⟨nn1, nn2, nn4, nn8⟩
        · clear e3
          have hG : GoodOp (1) (8) (xv) u (8) (byB xv) w := .inl ⟨rfl, rfl, by decide, by decide, xv.isLt, fun _ _ => rfl⟩
          go_upto_region 13 with (fail)
          have hrg : W2.rangeAt ob 0 (row 4 (opv (1) (8) (xv) u)) := opv_range ⟨hN3.out.1 0 (by decide), hN3.out.1 1 (by decide), hN3.out.1 2 (by decide), hN3.out.1 3 (by decide)⟩
          obtain ⟨ov, cv, hv⟩ := hD2.out.form
          subst hv
          have hE4 : Ext W2 (W2.alloc (.cells (row 4 (opv (1) (8) (xv) u)).toArray 31)) := (Below.refl _ _).alloc (Nat.le_refl _) _
          have hN4 := RowAt.newOf W2 4 (opv (1) (8) (xv) u) 31 (row 4 (opv (1) (8) (xv) u)).toArray (fun j hj => by rw [List.getElem?_toArray]; exact row_get 4 _ j hj)
          refine wp_region_lit ?_
          refine wpList_run rfl (.slice ov m cv) (by simp [go_sem]) ?_
          simp only [Act.put, List.setIfInBounds_toArray, List.set_cons_zero, List.set_cons_succ]
          refine wpList_load_mid rfl 31 (.tmp 6) rfl ob 0 rfl (row 4 (opv (1) (8) (xv) u)) _ hrg Try.underlying31 rfl (by kernel_rfl) ?_
          simp only [Act.put, List.setIfInBounds_toArray, List.set_cons_zero, List.set_cons_succ]
          refine wpList_to rfl (.slice (some ⟨W2.heap.size, 0, none⟩) 1 1) (W2.alloc (.cells (row 4 (opv (1) (8) (xv) u)).toArray 31)) (by simp [go_sem, row4]) ?_
          have hO5 := hideit (hD2.out.ext hE4)
          have hE5 := hideit (Ext.trans hE2.out hE4)
          have hsz5 := hideit (Below.size hE5.out)
          have hL5 : Hid (LieAt ⟨W2.heap.size, 0, none⟩ (1 * 4) (opv (1) (8) (xv) u) (W2.alloc (.cells (row 4 (opv (1) (8) (xv) u)).toArray 31))) := hideit ⟨fun j hj => by
            rw [show (⟨W2.heap.size, 0, none⟩ : Addr).add j = ⟨W2.heap.size, j, none⟩ by unfold Addr.add; by_cases h0 : j = 0 <;> simp [h0]]
            exact hN4.1 j (by omega), hN4.2.2⟩
          clear hrg hE4 hN4 hD2 hE2 hN3 e0 e1 e2
          obtain ⟨W5, hW5⟩ : ∃ W5, W5 = W2.alloc (.cells (row 4 (opv (1) (8) (xv) u)).toArray 31) := ⟨_, rfl⟩
          rw [← hW5] at hO5 hE5 hsz5 hL5 ⊢
          clear hW5
          simp only [Act.put, List.setIfInBounds_toArray, List.set_cons_zero, List.set_cons_succ]
          refine wpList_growK (n := m) (base := w.heap.size) elem23 (by decide) rfl (.tmp 82) (.tmp 84) rfl rfl hO5.out ⟨W2.heap.size, 0, none⟩ 1 1 (opv (1) (8) (xv) u) (opc (snoc ks m (1)) (snoc ns m (8)) (snoc xs m (xv)) (snoc us m u)) rfl hL5.out (opv_one hu1) (fun j hj => opc_snoc_lt j hj) (fun j hj => opc_snoc_at j hj) (by omega) (by omega) hsz5.out ?_
          intro v6 w6 hO6 hg6
          have hE6 := hideit (Below.trans hE5.out (below_grown hsz5.out hg6 fun q hq => (hO5.out.lt q hq).1))
          replace hO6 := hideit hO6
          clear hO5 hE5 hsz5 hL5 hg6
          simp only [Act.put, List.setIfInBounds_toArray, List.set_cons_zero, List.set_cons_succ]
          go_wp2
          exact ⟨⟨k + 1, m + 1, _, _, _, _, snoc ls m (8), snoc bs m (byB xv), by omega, by omega, by omega, by go_num, by rw [sumN_snoc, ← hsz.out]; go_num, hO6.out, good_snoc hgood.out hG, hE6.out⟩, by simp [intOf]; omega⟩
        · clear e3
          have q1 : ∀ k : Kept (Ext W2.drew), k.w.cell? ⟨ob, 1, none⟩ = some (.int .i64 1) := hN3.out.kept 1 (by decide)
          have q2 : ∀ k : Kept (Ext W2.drew), k.w.cell? ⟨ob, 2, none⟩ = some (.int .u64 (xv.toNat : Int)) := hN3.out.kept 2 (by decide)
          have fa := mk_and1 xv
          go_upto_region 9 with (fail)
          have hne := kept_ne W2.drew
          refine wp_region_late 9 (by kernel_rfl) (by kernel_rfl) (by decide) ?_
          simp only [List.take_succ_cons, List.take_zero, List.drop_succ_cons, List.drop_zero]
          refine wpStrong_run 9 rfl ?_
          simp only [List.take_succ_cons, List.take_zero, List.drop_succ_cons, List.drop_zero]
          repeat (go_big_quiet_step (fail))
          refine wpQuiet_nil ?_
          refine wpStrong_nil ?_
          intro Y hY
          have hNY := hideit (hN3.out.drew.carry hY)
          have hEY := hideit (Ext.trans (Ext.draw hE2.out) hY)
          have hDY := hideit (hD2.out.ext (Ext.trans (Ext.refl W2).draw hY))
          have e5 := hNY.out.1 2 (by decide)
          have g5 := hNY.out.2.1 2 (by decide)
          clear q1 q2 hne hY hN3 hE2 hD2 e0 e1 e2 fa
          go_upto_region 10 with (fail)
          have hN3 : Hid (RowAt ob 4 (opv 1 1 (mkW xv 1) u) (Y.setCell ⟨ob, 2, none⟩ (.int .u64 ((mkW xv 1).toNat : Int)))) := hideit ((RowAt.set hNY.out 2 _).congr fun j hj => by
            rcases (by omega : j = 0 ∨ j = 1 ∨ j = 2 ∨ j = 3) with rfl | rfl | rfl | rfl <;> rfl)
          have hE2 := hideit (Below.setCell hEY.out (p := ⟨ob, 2, none⟩) hobw.out (.int .u64 ((mkW xv 1).toNat : Int)))
          have hD2 := hideit (hDY.out.but (but_setCell Y ob 2 (.int .u64 ((mkW xv 1).toNat : Int))) (fun hh => by have := hDob.out _ hh; omega))
          clear hNY hEY hDY e5 g5
          generalize Y.setCell ⟨ob, 2, none⟩ (.int .u64 ((mkW xv 1).toNat : Int)) = W3 at *
          have e0 : W3.cell? ⟨ob, 0, none⟩ = some (.int .i64 1) := hN3.out.1 0 (by decide)
          have e1 : W3.cell? ⟨ob, 1, none⟩ = some (.int .i64 1) := hN3.out.1 1 (by decide)
          have e2 : W3.cell? ⟨ob, 2, none⟩ = some (.int .u64 ((mkW xv 1).toNat : Int)) := hN3.out.1 2 (by decide)
          have hG : GoodOp (1) (1) (mkW xv 1) u (1) (byB (mkW xv 1)) w := .inl ⟨rfl, rfl, by decide, by decide, mkW_lt xv 1 (by decide), fun _ _ => rfl⟩
          go_upto_region 13 with (fail)
          have hrg : W3.rangeAt ob 0 (row 4 (opv (1) (1) (mkW xv 1) u)) := opv_range ⟨hN3.out.1 0 (by decide), hN3.out.1 1 (by decide), hN3.out.1 2 (by decide), hN3.out.1 3 (by decide)⟩
          obtain ⟨ov, cv, hv⟩ := hD2.out.form
          subst hv
          have hE4 : Ext W3 (W3.alloc (.cells (row 4 (opv (1) (1) (mkW xv 1) u)).toArray 31)) := (Below.refl _ _).alloc (Nat.le_refl _) _
          have hN4 := RowAt.newOf W3 4 (opv (1) (1) (mkW xv 1) u) 31 (row 4 (opv (1) (1) (mkW xv 1) u)).toArray (fun j hj => by rw [List.getElem?_toArray]; exact row_get 4 _ j hj)
          refine wp_region_lit ?_
          refine wpList_run rfl (.slice ov m cv) (by simp [go_sem]) ?_
          simp only [Act.put, List.setIfInBounds_toArray, List.set_cons_zero, List.set_cons_succ]
          refine wpList_load_mid rfl 31 (.tmp 6) rfl ob 0 rfl (row 4 (opv (1) (1) (mkW xv 1) u)) _ hrg Try.underlying31 rfl (by kernel_rfl) ?_
          simp only [Act.put, List.setIfInBounds_toArray, List.set_cons_zero, List.set_cons_succ]
          refine wpList_to rfl (.slice (some ⟨W3.heap.size, 0, none⟩) 1 1) (W3.alloc (.cells (row 4 (opv (1) (1) (mkW xv 1) u)).toArray 31)) (by simp [go_sem, row4]) ?_
          have hO5 := hideit (hD2.out.ext hE4)
          have hE5 := hideit (Ext.trans hE2.out hE4)
          have hsz5 := hideit (Below.size hE5.out)
          have hL5 : Hid (LieAt ⟨W3.heap.size, 0, none⟩ (1 * 4) (opv (1) (1) (mkW xv 1) u) (W3.alloc (.cells (row 4 (opv (1) (1) (mkW xv 1) u)).toArray 31))) := hideit ⟨fun j hj => by
            rw [show (⟨W3.heap.size, 0, none⟩ : Addr).add j = ⟨W3.heap.size, j, none⟩ by unfold Addr.add; by_cases h0 : j = 0 <;> simp [h0]]
            exact hN4.1 j (by omega), hN4.2.2⟩
          clear hrg hE4 hN4 hD2 hE2 hN3 e0 e1 e2
          obtain ⟨W5, hW5⟩ : ∃ W5, W5 = W3.alloc (.cells (row 4 (opv (1) (1) (mkW xv 1) u)).toArray 31) := ⟨_, rfl⟩
          rw [← hW5] at hO5 hE5 hsz5 hL5 ⊢
          clear hW5
          simp only [Act.put, List.setIfInBounds_toArray, List.set_cons_zero, List.set_cons_succ]
          refine wpList_growK (n := m) (base := w.heap.size) elem23 (by decide) rfl (.tmp 82) (.tmp 84) rfl rfl hO5.out ⟨W3.heap.size, 0, none⟩ 1 1 (opv (1) (1) (mkW xv 1) u) (opc (snoc ks m (1)) (snoc ns m (1)) (snoc xs m (mkW xv 1)) (snoc us m u)) rfl hL5.out (opv_one hu1) (fun j hj => opc_snoc_lt j hj) (fun j hj => opc_snoc_at j hj) (by omega) (by omega) hsz5.out ?_
          intro v6 w6 hO6 hg6
          have hE6 := hideit (Below.trans hE5.out (below_grown hsz5.out hg6 fun q hq => (hO5.out.lt q hq).1))
          replace hO6 := hideit hO6
          clear hO5 hE5 hsz5 hL5 hg6
          simp only [Act.put, List.setIfInBounds_toArray, List.set_cons_zero, List.set_cons_succ]
          go_wp2
          exact ⟨⟨k + 1, m + 1, _, _, _, _, snoc ls m (1), snoc bs m (byB (mkW xv 1)), by omega, by omega, by omega, by go_num, by rw [sumN_snoc, ← hsz.out]; go_num, hO6.out, good_snoc hgood.out hG, hE6.out⟩, by simp [intOf]; omega⟩
        · clear e3
          have q1 : ∀ k : Kept (Ext W2.drew), k.w.cell? ⟨ob, 1, none⟩ = some (.int .i64 2) := hN3.out.kept 1 (by decide)
          have q2 : ∀ k : Kept (Ext W2.drew), k.w.cell? ⟨ob, 2, none⟩ = some (.int .u64 (xv.toNat : Int)) := hN3.out.kept 2 (by decide)
          have fa := mk_and2 xv
          go_upto_region 9 with (fail)
          have hne := kept_ne W2.drew
          refine wp_region_late 9 (by kernel_rfl) (by kernel_rfl) (by decide) ?_
          simp only [List.take_succ_cons, List.take_zero, List.drop_succ_cons, List.drop_zero]
          refine wpStrong_run 9 rfl ?_
          simp only [List.take_succ_cons, List.take_zero, List.drop_succ_cons, List.drop_zero]
          repeat (go_big_quiet_step (fail))
          refine wpQuiet_nil ?_
          refine wpStrong_nil ?_
          intro Y hY
          have hNY := hideit (hN3.out.drew.carry hY)
          have hEY := hideit (Ext.trans (Ext.draw hE2.out) hY)
          have hDY := hideit (hD2.out.ext (Ext.trans (Ext.refl W2).draw hY))
          have e5 := hNY.out.1 2 (by decide)
          have g5 := hNY.out.2.1 2 (by decide)
          clear q1 q2 hne hY hN3 hE2 hD2 e0 e1 e2 fa
          go_upto_region 10 with (fail)
          have hN3 : Hid (RowAt ob 4 (opv 1 2 (mkW xv 2) u) (Y.setCell ⟨ob, 2, none⟩ (.int .u64 ((mkW xv 2).toNat : Int)))) := hideit ((RowAt.set hNY.out 2 _).congr fun j hj => by
            rcases (by omega : j = 0 ∨ j = 1 ∨ j = 2 ∨ j = 3) with rfl | rfl | rfl | rfl <;> rfl)
          have hE2 := hideit (Below.setCell hEY.out (p := ⟨ob, 2, none⟩) hobw.out (.int .u64 ((mkW xv 2).toNat : Int)))
          have hD2 := hideit (hDY.out.but (but_setCell Y ob 2 (.int .u64 ((mkW xv 2).toNat : Int))) (fun hh => by have := hDob.out _ hh; omega))
          clear hNY hEY hDY e5 g5
          generalize Y.setCell ⟨ob, 2, none⟩ (.int .u64 ((mkW xv 2).toNat : Int)) = W3 at *
          have e0 : W3.cell? ⟨ob, 0, none⟩ = some (.int .i64 1) := hN3.out.1 0 (by decide)
          have e1 : W3.cell? ⟨ob, 1, none⟩ = some (.int .i64 2) := hN3.out.1 1 (by decide)
          have e2 : W3.cell? ⟨ob, 2, none⟩ = some (.int .u64 ((mkW xv 2).toNat : Int)) := hN3.out.1 2 (by decide)
          have hG : GoodOp (1) (2) (mkW xv 2) u (2) (byB (mkW xv 2)) w := .inl ⟨rfl, rfl, by decide, by decide, mkW_lt xv 2 (by decide), fun _ _ => rfl⟩
          go_upto_region 13 with (fail)
          have hrg : W3.rangeAt ob 0 (row 4 (opv (1) (2) (mkW xv 2) u)) := opv_range ⟨hN3.out.1 0 (by decide), hN3.out.1 1 (by decide), hN3.out.1 2 (by decide), hN3.out.1 3 (by decide)⟩
          obtain ⟨ov, cv, hv⟩ := hD2.out.form
          subst hv
          have hE4 : Ext W3 (W3.alloc (.cells (row 4 (opv (1) (2) (mkW xv 2) u)).toArray 31)) := (Below.refl _ _).alloc (Nat.le_refl _) _
          have hN4 := RowAt.newOf W3 4 (opv (1) (2) (mkW xv 2) u) 31 (row 4 (opv (1) (2) (mkW xv 2) u)).toArray (fun j hj => by rw [List.getElem?_toArray]; exact row_get 4 _ j hj)
          refine wp_region_lit ?_
          refine wpList_run rfl (.slice ov m cv) (by simp [go_sem]) ?_
          simp only [Act.put, List.setIfInBounds_toArray, List.set_cons_zero, List.set_cons_succ]
          refine wpList_load_mid rfl 31 (.tmp 6) rfl ob 0 rfl (row 4 (opv (1) (2) (mkW xv 2) u)) _ hrg Try.underlying31 rfl (by kernel_rfl) ?_
          simp only [Act.put, List.setIfInBounds_toArray, List.set_cons_zero, List.set_cons_succ]
          refine wpList_to rfl (.slice (some ⟨W3.heap.size, 0, none⟩) 1 1) (W3.alloc (.cells (row 4 (opv (1) (2) (mkW xv 2) u)).toArray 31)) (by simp [go_sem, row4]) ?_
          have hO5 := hideit (hD2.out.ext hE4)
          have hE5 := hideit (Ext.trans hE2.out hE4)
          have hsz5 := hideit (Below.size hE5.out)
          have hL5 : Hid (LieAt ⟨W3.heap.size, 0, none⟩ (1 * 4) (opv (1) (2) (mkW xv 2) u) (W3.alloc (.cells (row 4 (opv (1) (2) (mkW xv 2) u)).toArray 31))) := hideit ⟨fun j hj => by
            rw [show (⟨W3.heap.size, 0, none⟩ : Addr).add j = ⟨W3.heap.size, j, none⟩ by unfold Addr.add; by_cases h0 : j = 0 <;> simp [h0]]
            exact hN4.1 j (by omega), hN4.2.2⟩
          clear hrg hE4 hN4 hD2 hE2 hN3 e0 e1 e2
          obtain ⟨W5, hW5⟩ : ∃ W5, W5 = W3.alloc (.cells (row 4 (opv (1) (2) (mkW xv 2) u)).toArray 31) := ⟨_, rfl⟩
          rw [← hW5] at hO5 hE5 hsz5 hL5 ⊢
          clear hW5
          simp only [Act.put, List.setIfInBounds_toArray, List.set_cons_zero, List.set_cons_succ]
          refine wpList_growK (n := m) (base := w.heap.size) elem23 (by decide) rfl (.tmp 82) (.tmp 84) rfl rfl hO5.out ⟨W3.heap.size, 0, none⟩ 1 1 (opv (1) (2) (mkW xv 2) u) (opc (snoc ks m (1)) (snoc ns m (2)) (snoc xs m (mkW xv 2)) (snoc us m u)) rfl hL5.out (opv_one hu1) (fun j hj => opc_snoc_lt j hj) (fun j hj => opc_snoc_at j hj) (by omega) (by omega) hsz5.out ?_
          intro v6 w6 hO6 hg6
          have hE6 := hideit (Below.trans hE5.out (below_grown hsz5.out hg6 fun q hq => (hO5.out.lt q hq).1))
          replace hO6 := hideit hO6
          clear hO5 hE5 hsz5 hL5 hg6
          simp only [Act.put, List.setIfInBounds_toArray, List.set_cons_zero, List.set_cons_succ]
          go_wp2
          exact ⟨⟨k + 1, m + 1, _, _, _, _, snoc ls m (2), snoc bs m (byB (mkW xv 2)), by omega, by omega, by omega, by go_num, by rw [sumN_snoc, ← hsz.out]; go_num, hO6.out, good_snoc hgood.out hG, hE6.out⟩, by simp [intOf]; omega⟩
        · clear e3
          have q1 : ∀ k : Kept (Ext W2.drew), k.w.cell? ⟨ob, 1, none⟩ = some (.int .i64 4) := hN3.out.kept 1 (by decide)
          have q2 : ∀ k : Kept (Ext W2.drew), k.w.cell? ⟨ob, 2, none⟩ = some (.int .u64 (xv.toNat : Int)) := hN3.out.kept 2 (by decide)
          have fa := mk_and4 xv
          go_upto_region 9 with (fail)
          have hne := kept_ne W2.drew
          refine wp_region_late 9 (by kernel_rfl) (by kernel_rfl) (by decide) ?_
          simp only [List.take_succ_cons, List.take_zero, List.drop_succ_cons, List.drop_zero]
          refine wpStrong_run 9 rfl ?_
          simp only [List.take_succ_cons, List.take_zero, List.drop_succ_cons, List.drop_zero]
          repeat (go_big_quiet_step (fail))
          refine wpQuiet_nil ?_
          refine wpStrong_nil ?_
          intro Y hY
          have hNY := hideit (hN3.out.drew.carry hY)
          have hEY := hideit (Ext.trans (Ext.draw hE2.out) hY)
          have hDY := hideit (hD2.out.ext (Ext.trans (Ext.refl W2).draw hY))
          have e5 := hNY.out.1 2 (by decide)
          have g5 := hNY.out.2.1 2 (by decide)
          clear q1 q2 hne hY hN3 hE2 hD2 e0 e1 e2 fa
          go_upto_region 10 with (fail)
          have hN3 : Hid (RowAt ob 4 (opv 1 4 (mkW xv 4) u) (Y.setCell ⟨ob, 2, none⟩ (.int .u64 ((mkW xv 4).toNat : Int)))) := hideit ((RowAt.set hNY.out 2 _).congr fun j hj => by
            rcases (by omega : j = 0 ∨ j = 1 ∨ j = 2 ∨ j = 3) with rfl | rfl | rfl | rfl <;> rfl)
          have hE2 := hideit (Below.setCell hEY.out (p := ⟨ob, 2, none⟩) hobw.out (.int .u64 ((mkW xv 4).toNat : Int)))
          have hD2 := hideit (hDY.out.but (but_setCell Y ob 2 (.int .u64 ((mkW xv 4).toNat : Int))) (fun hh => by have := hDob.out _ hh; omega))
          clear hNY hEY hDY e5 g5
          generalize Y.setCell ⟨ob, 2, none⟩ (.int .u64 ((mkW xv 4).toNat : Int)) = W3 at *
          have e0 : W3.cell? ⟨ob, 0, none⟩ = some (.int .i64 1) := hN3.out.1 0 (by decide)
          have e1 : W3.cell? ⟨ob, 1, none⟩ = some (.int .i64 4) := hN3.out.1 1 (by decide)
          have e2 : W3.cell? ⟨ob, 2, none⟩ = some (.int .u64 ((mkW xv 4).toNat : Int)) := hN3.out.1 2 (by decide)
          have hG : GoodOp (1) (4) (mkW xv 4) u (4) (byB (mkW xv 4)) w := .inl ⟨rfl, rfl, by decide, by decide, mkW_lt xv 4 (by decide), fun _ _ => rfl⟩
          go_upto_region 13 with (fail)
          have hrg : W3.rangeAt ob 0 (row 4 (opv (1) (4) (mkW xv 4) u)) := opv_range ⟨hN3.out.1 0 (by decide), hN3.out.1 1 (by decide), hN3.out.1 2 (by decide), hN3.out.1 3 (by decide)⟩
          obtain ⟨ov, cv, hv⟩ := hD2.out.form
          subst hv
          have hE4 : Ext W3 (W3.alloc (.cells (row 4 (opv (1) (4) (mkW xv 4) u)).toArray 31)) := (Below.refl _ _).alloc (Nat.le_refl _) _
          have hN4 := RowAt.newOf W3 4 (opv (1) (4) (mkW xv 4) u) 31 (row 4 (opv (1) (4) (mkW xv 4) u)).toArray (fun j hj => by rw [List.getElem?_toArray]; exact row_get 4 _ j hj)
          refine wp_region_lit ?_
          refine wpList_run rfl (.slice ov m cv) (by simp [go_sem]) ?_
          simp only [Act.put, List.setIfInBounds_toArray, List.set_cons_zero, List.set_cons_succ]
          refine wpList_load_mid rfl 31 (.tmp 6) rfl ob 0 rfl (row 4 (opv (1) (4) (mkW xv 4) u)) _ hrg Try.underlying31 rfl (by kernel_rfl) ?_
          simp only [Act.put, List.setIfInBounds_toArray, List.set_cons_zero, List.set_cons_succ]
          refine wpList_to rfl (.slice (some ⟨W3.heap.size, 0, none⟩) 1 1) (W3.alloc (.cells (row 4 (opv (1) (4) (mkW xv 4) u)).toArray 31)) (by simp [go_sem, row4]) ?_
          have hO5 := hideit (hD2.out.ext hE4)
          have hE5 := hideit (Ext.trans hE2.out hE4)
          have hsz5 := hideit (Below.size hE5.out)
          have hL5 : Hid (LieAt ⟨W3.heap.size, 0, none⟩ (1 * 4) (opv (1) (4) (mkW xv 4) u) (W3.alloc (.cells (row 4 (opv (1) (4) (mkW xv 4) u)).toArray 31))) := hideit ⟨fun j hj => by
            rw [show (⟨W3.heap.size, 0, none⟩ : Addr).add j = ⟨W3.heap.size, j, none⟩ by unfold Addr.add; by_cases h0 : j = 0 <;> simp [h0]]
            exact hN4.1 j (by omega), hN4.2.2⟩
          clear hrg hE4 hN4 hD2 hE2 hN3 e0 e1 e2
          obtain ⟨W5, hW5⟩ : ∃ W5, W5 = W3.alloc (.cells (row 4 (opv (1) (4) (mkW xv 4) u)).toArray 31) := ⟨_, rfl⟩
          rw [← hW5] at hO5 hE5 hsz5 hL5 ⊢
          clear hW5
          simp only [Act.put, List.setIfInBounds_toArray, List.set_cons_zero, List.set_cons_succ]
          refine wpList_growK (n := m) (base := w.heap.size) elem23 (by decide) rfl (.tmp 82) (.tmp 84) rfl rfl hO5.out ⟨W3.heap.size, 0, none⟩ 1 1 (opv (1) (4) (mkW xv 4) u) (opc (snoc ks m (1)) (snoc ns m (4)) (snoc xs m (mkW xv 4)) (snoc us m u)) rfl hL5.out (opv_one hu1) (fun j hj => opc_snoc_lt j hj) (fun j hj => opc_snoc_at j hj) (by omega) (by omega) hsz5.out ?_
          intro v6 w6 hO6 hg6
          have hE6 := hideit (Below.trans hE5.out (below_grown hsz5.out hg6 fun q hq => (hO5.out.lt q hq).1))
          replace hO6 := hideit hO6
          clear hO5 hE5 hsz5 hL5 hg6
          simp only [Act.put, List.setIfInBounds_toArray, List.set_cons_zero, List.set_cons_succ]
          go_wp2
          exact ⟨⟨k + 1, m + 1, _, _, _, _, snoc ls m (4), snoc bs m (byB (mkW xv 4)), by omega, by omega, by omega, by go_num, by rw [sumN_snoc, ← hsz.out]; go_num, hO6.out, good_snoc hgood.out hG, hE6.out⟩, by simp [intOf]; omega⟩
        · have bb1 : (N == 1) = false := by simpa using nn1
          have bb2 : (N == 2) = false := by simpa using nn2
          have bb4 : (N == 4) = false := by simpa using nn4
          have bb8 : (N == 8) = false := by simpa using nn8
          go_wp2
          exact ⟨⟨k + 1, m, ks, ns, xs, us, ls, bs, by omega, by omega, by omega, by go_num, by rw [← hsz.out], hD2.out, hgood.out, hE2.out⟩, by simp [intOf]; omega⟩
      · have bk1 : (K == 1) = false := by simpa using hK1
        obtain ⟨ou, cu, rfl⟩ := hpv.out.form
        have ul0 : (0 : Int) ≤ (ul : Int) := by omega
        by_cases hK2 : K = 2
        · subst hK2
          by_cases hul : ul < 1000
          · have ul1 : (ul : Int) < 1000 := by omega
            have hG : GoodOp (2) (N) (xv) (.slice ou ul cu) (ul) (ub) w := .inr ⟨rfl, hpv.out, hul⟩
            go_upto_region 13 with (fail)
            have hrg : W2.rangeAt ob 0 (row 4 (opv (2) (N) (xv) (.slice ou ul cu))) := opv_range ⟨hN3.out.1 0 (by decide), hN3.out.1 1 (by decide), hN3.out.1 2 (by decide), hN3.out.1 3 (by decide)⟩
            obtain ⟨ov, cv, hv⟩ := hD2.out.form
            subst hv
            have hE4 : Ext W2 (W2.alloc (.cells (row 4 (opv (2) (N) (xv) (.slice ou ul cu))).toArray 31)) := (Below.refl _ _).alloc (Nat.le_refl _) _
            have hN4 := RowAt.newOf W2 4 (opv (2) (N) (xv) (.slice ou ul cu)) 31 (row 4 (opv (2) (N) (xv) (.slice ou ul cu))).toArray (fun j hj => by rw [List.getElem?_toArray]; exact row_get 4 _ j hj)
            refine wp_region_lit ?_
            refine wpList_run rfl (.slice ov m cv) (by simp [go_sem]) ?_
            simp only [Act.put, List.setIfInBounds_toArray, List.set_cons_zero, List.set_cons_succ]
            refine wpList_load_mid rfl 31 (.tmp 6) rfl ob 0 rfl (row 4 (opv (2) (N) (xv) (.slice ou ul cu))) _ hrg Try.underlying31 rfl (by kernel_rfl) ?_
            simp only [Act.put, List.setIfInBounds_toArray, List.set_cons_zero, List.set_cons_succ]
            refine wpList_to rfl (.slice (some ⟨W2.heap.size, 0, none⟩) 1 1) (W2.alloc (.cells (row 4 (opv (2) (N) (xv) (.slice ou ul cu))).toArray 31)) (by simp [go_sem, row4]) ?_
            have hO5 := hideit (hD2.out.ext hE4)
            have hE5 := hideit (Ext.trans hE2.out hE4)
            have hsz5 := hideit (Below.size hE5.out)
            have hL5 : Hid (LieAt ⟨W2.heap.size, 0, none⟩ (1 * 4) (opv (2) (N) (xv) (.slice ou ul cu)) (W2.alloc (.cells (row 4 (opv (2) (N) (xv) (.slice ou ul cu))).toArray 31))) := hideit ⟨fun j hj => by
              rw [show (⟨W2.heap.size, 0, none⟩ : Addr).add j = ⟨W2.heap.size, j, none⟩ by unfold Addr.add; by_cases h0 : j = 0 <;> simp [h0]]
              exact hN4.1 j (by omega), hN4.2.2⟩
            clear hrg hE4 hN4 hD2 hE2 hN3 e0 e1 e2
            obtain ⟨W5, hW5⟩ : ∃ W5, W5 = W2.alloc (.cells (row 4 (opv (2) (N) (xv) (.slice ou ul cu))).toArray 31) := ⟨_, rfl⟩
            rw [← hW5] at hO5 hE5 hsz5 hL5 ⊢
            clear hW5
            simp only [Act.put, List.setIfInBounds_toArray, List.set_cons_zero, List.set_cons_succ]
            refine wpList_growK (n := m) (base := w.heap.size) elem23 (by decide) rfl (.tmp 82) (.tmp 84) rfl rfl hO5.out ⟨W2.heap.size, 0, none⟩ 1 1 (opv (2) (N) (xv) (.slice ou ul cu)) (opc (snoc ks m (2)) (snoc ns m (N)) (snoc xs m (xv)) (snoc us m (.slice ou ul cu))) rfl hL5.out (opv_one hu1) (fun j hj => opc_snoc_lt j hj) (fun j hj => opc_snoc_at j hj) (by omega) (by omega) hsz5.out ?_
            intro v6 w6 hO6 hg6
            have hE6 := hideit (Below.trans hE5.out (below_grown hsz5.out hg6 fun q hq => (hO5.out.lt q hq).1))
            replace hO6 := hideit hO6
            clear hO5 hE5 hsz5 hL5 hg6
            simp only [Act.put, List.setIfInBounds_toArray, List.set_cons_zero, List.set_cons_succ]
            go_wp2
            exact ⟨⟨k + 1, m + 1, _, _, _, _, snoc ls m (ul), snoc bs m (ub), by omega, by omega, by omega, by go_num, by rw [sumN_snoc, ← hsz.out]; go_num, hO6.out, good_snoc hgood.out hG, hE6.out⟩, by simp [intOf]; omega⟩
          · have ul1 : ¬ (ul : Int) < 1000 := by omega
            go_wp2
            exact ⟨⟨k + 1, m, ks, ns, xs, us, ls, bs, by omega, by omega, by omega, by go_num, by rw [← hsz.out], hD2.out, hgood.out, hE2.out⟩, by simp [intOf]; omega⟩
        · have bk2 : (K == 2) = false := by simpa using hK2
          go_wp2
          exact ⟨⟨k + 1, m, ks, ns, xs, us, ls, bs, by omega, by omega, by omega, by go_num, by rw [← hsz.out], hD2.out, hgood.out, hE2.out⟩, by simp [intOf]; omega⟩
    · rcases (by omega : k = n ∨ (k < n ∧ k = 500)) with hkn | ⟨hkn, hk500⟩
      · have k1 : ¬ (k : Int) < (n : Int) := by omega
        clear hkn hlt hsum
        have hcells : Hid (∃ (od : Option Addr) (cd : Nat), _ = Value.slice od m cd ∧ ∀ j, j < m → ∃ b, od = some ⟨b, 0, none⟩ ∧ b < wr.heap.size ∧ OpAt b (j * 4) (ks j) (ns j) (xs j) (us j) wr) := did_cells hD.out
        obtain ⟨od, cd, hv, hall⟩ := hcells.out
        subst hv
        replace hall := hideit hall
        have kn := hideit (neww_3 sz (encF ls bs 0) wr (by omega))
        clear hcells hD hops
        go_upto_region 17 with (first
          | (go_at_call 21; refine kn.out.mono ?_; rintro e w1 ⟨c, rfl, hc1, hW1, hE1⟩; replace hc1 := hideit hc1; replace hW1 := hideit hW1; replace hE1 := hideit hE1; clear kn)
          | (go_at_call 11; refine (lives_any _).mono ?_; rintro e w2 ⟨rfl, hE2⟩; have hW2 := hideit (hW1.out.ext hE2); replace hE2 := hideit (Ext.trans hE1.out hE2); clear hW1 hE1))
        have hops2 : Hid (∀ j, j < m → ∃ b, od = some ⟨b, 0, none⟩ ∧ b < c ∧ OpAt b (j * 4) (ks j) (ns j) (xs j) (us j) w2) := fun j hj => by
          obtain ⟨b, h1, h2, h3⟩ := hall.out j hj
          exact ⟨b, h1, Nat.lt_of_lt_of_le h2 hc1.out, opAt_ext h3 hE2.out⟩
        have hcw : Hid (w.heap.size ≤ c) := Nat.le_trans (Below.size hE.out) hc1.out
        have hE3 := hideit (Ext.trans hE.out hE2.out)
        clear hall hE hE2 hc1
        go_wp2
        go_loopw [8] (fun i X => ∃ q : Nat, q ≤ m ∧ i = .int .i64 q ∧ Wr c (sz + 3) (sumN ls q) (encF ls bs q) false X ∧ (∀ j, j < m → ∃ b, od = some ⟨b, 0, none⟩ ∧ b < c ∧ OpAt b (j * 4) (ks j) (ns j) (xs j) (us j) X) ∧ Ext w X) (fun i _ => m - (intOf i).toNat)
        case atStart => exact ⟨0, Nat.zero_le _, rfl, hW2.out, hops2.out, hE3.out⟩
        case round =>
          obtain ⟨q, hq, rfl, hW, ho, hEw⟩ := hrel
          clear hW2 hops2 hE3
          replace hW := hideit hW
          replace ho := hideit ho
          replace hEw := hideit hEw
          by_cases hlt2 : q < m
          · have q0 : (0 : Int) ≤ (q : Int) := by omega
            have q1 : (q : Int) < (m : Int) := by omega
            obtain ⟨b, rfl, hbc, hop⟩ := ho.out q hlt2
            have hg := hgood.out q hlt2
            have hsz2 : sumN ls q + ls q ≤ sz := by
              have h9 := sumN_le ls (q + 1) m (by omega)
              simp only [sumN] at h9
              rw [hsz.out]
              exact h9
            obtain ⟨p0, p1, p2, p3⟩ := hop
            rcases hg with ⟨g1, g2, g3, g4, g5, g6⟩ | ⟨g1, g2, g3⟩
            · rw [g1] at p0
              rw [g2] at p1
              have kk := hideit (wuint_ok c (sz + 3) (sumN ls q) (ls q) (encF ls bs q) false (xs q) wr.drew (hW.out.ext (Ext.refl wr).draw) (by omega) (by omega) g3 g4 (Nat.div_eq_of_lt g5))
              replace g6 := hideit g6
              clear g1 g2 g3 g5 p3
              go_upto_region 21 with (fail)
              obtain ⟨lq, hlq⟩ : ∃ lq : Int, lq = ((ls q : Nat) : Int) := ⟨_, rfl⟩
              rw [← hlq] at p1 kk
              have hC0 : (fun X : World => X.cell? ⟨b, q * 4 + 1, none⟩ = some (.int .i64 lq) ∧ X.cell? ⟨b, q * 4 + 2, none⟩ = some (.int .u64 ((xs q).toNat : Int))) wr.drew := ⟨p1, p2⟩
              clear hlq p0
              refine wp_region_lad (fun X : World => X.cell? ⟨b, q * 4 + 1, none⟩ = some (.int .i64 lq) ∧ X.cell? ⟨b, q * 4 + 2, none⟩ = some (.int .u64 ((xs q).toNat : Int))) [(false, 0), (false, 1), (false, 2), (false, 3), (false, 4), (false, 5), (false, 6), (false, 7), (false, 8), (false, 9), (false, 10), (true, 11)] (by kernel_rfl) (by kernel_rfl) (by decide +kernel) (by decide +kernel) (by decide +kernel) (by decide +kernel) hC0 ?_
              refine wpX_f _ (.pointer (some ⟨c, 0, none⟩)) rfl rfl (fun X _ => by simp [go_sem]) ?_
              simp only [List.getElem_toArray, List.getElem_cons_zero, Act.put, List.setIfInBounds_toArray, List.set_cons_zero, List.set_cons_succ]
              refine wpX_f _ (.slice (some ⟨b, 0, none⟩) m cd) rfl rfl (fun X _ => by simp [go_sem]) ?_
              simp only [List.getElem_toArray, List.getElem_cons_zero, List.getElem_cons_succ, Act.put, List.setIfInBounds_toArray, List.set_cons_zero, List.set_cons_succ]
              refine wpX_f _ (.int .i64 (q : Int)) rfl rfl (fun X _ => by simp [go_sem]) ?_
              simp only [List.getElem_toArray, List.getElem_cons_zero, List.getElem_cons_succ, Act.put, List.setIfInBounds_toArray, List.set_cons_zero, List.set_cons_succ]
              refine wpX_f _ (.pointer (some ⟨b, q * 4, none⟩)) rfl rfl (fun X _ => by simp [go_sem, q1]) ?_
              simp only [List.getElem_toArray, List.getElem_cons_zero, List.getElem_cons_succ, Act.put, List.setIfInBounds_toArray, List.set_cons_zero, List.set_cons_succ]
              refine wpX_f _ (.pointer (some ⟨b, q * 4 + 1, none⟩)) rfl rfl (fun X _ => by simp [go_sem]) ?_
              simp only [List.getElem_toArray, List.getElem_cons_zero, List.getElem_cons_succ, Act.put, List.setIfInBounds_toArray, List.set_cons_zero, List.set_cons_succ]
              refine wpX_f _ (.int .i64 lq) rfl rfl (fun X hX => by simp [go_sem, show X.cell? ⟨b, q * 4 + 1, none⟩ = _ from hX.1]) ?_
              simp only [List.getElem_toArray, List.getElem_cons_zero, List.getElem_cons_succ, Act.put, List.setIfInBounds_toArray, List.set_cons_zero, List.set_cons_succ]
              refine wpX_f _ (.slice (some ⟨b, 0, none⟩) m cd) rfl rfl (fun X _ => by simp [go_sem]) ?_
              simp only [List.getElem_toArray, List.getElem_cons_zero, List.getElem_cons_succ, Act.put, List.setIfInBounds_toArray, List.set_cons_zero, List.set_cons_succ]
              refine wpX_f _ (.int .i64 (q : Int)) rfl rfl (fun X _ => by simp [go_sem]) ?_
              simp only [List.getElem_toArray, List.getElem_cons_zero, List.getElem_cons_succ, Act.put, List.setIfInBounds_toArray, List.set_cons_zero, List.set_cons_succ]
              refine wpX_f _ (.pointer (some ⟨b, q * 4, none⟩)) rfl rfl (fun X _ => by simp [go_sem, q1]) ?_
              simp only [List.getElem_toArray, List.getElem_cons_zero, List.getElem_cons_succ, Act.put, List.setIfInBounds_toArray, List.set_cons_zero, List.set_cons_succ]
              refine wpX_f _ (.pointer (some ⟨b, q * 4 + 2, none⟩)) rfl rfl (fun X _ => by simp [go_sem]) ?_
              simp only [List.getElem_toArray, List.getElem_cons_zero, List.getElem_cons_succ, Act.put, List.setIfInBounds_toArray, List.set_cons_zero, List.set_cons_succ]
              refine wpX_f _ (.int .u64 ((xs q).toNat : Int)) rfl rfl (fun X hX => by simp [go_sem, show X.cell? ⟨b, q * 4 + 2, none⟩ = _ from hX.2]) ?_
              simp only [List.getElem_toArray, List.getElem_cons_zero, List.getElem_cons_succ, Act.put, List.setIfInBounds_toArray, List.set_cons_zero, List.set_cons_succ]
              refine wpX_call _ rfl rfl (by simp [go_sem]) (kk.out.mono ?_)
              rintro e w3 ⟨rfl, hW3, hB3⟩
              refine ⟨_, rfl, _, fun _ h => h, ⟨(hB3.cell (p := ⟨b, q * 4 + 1, none⟩) hbc).trans p1, (hB3.cell (p := ⟨b, q * 4 + 2, none⟩) hbc).trans p2⟩, ?_⟩
              simp only [List.getElem_toArray, List.getElem_cons_zero, List.getElem_cons_succ, Act.put, List.setIfInBounds_toArray, List.set_cons_zero, List.set_cons_succ]
              refine wpX_nil ?_
              have hW4 : Hid (Wr c (sz + 3) (sumN ls (q + 1)) (encF ls bs (q + 1)) false w3) := hideit (hW3.congr fun j hj => by
                simp only [encF]
                unfold catF
                by_cases h1 : j < sumN ls q
                · rw [if_pos h1, if_pos h1]
                · rw [if_neg h1, if_neg h1]
                  exact (g6.out _ (by omega)).symm)
              have ho4 : Hid (∀ j, j < m → ∃ b', (some ⟨b, 0, none⟩ : Option Addr) = some ⟨b', 0, none⟩ ∧ b' < c ∧ OpAt b' (j * 4) (ks j) (ns j) (xs j) (us j) w3) := fun j hj => by
                obtain ⟨b', h1, h2, h3⟩ := ho.out j hj
                exact ⟨b', h1, h2, (hB3.cell (p := ⟨b', _, none⟩) h2).trans h3.1, (hB3.cell (p := ⟨b', _, none⟩) h2).trans h3.2.1, (hB3.cell (p := ⟨b', _, none⟩) h2).trans h3.2.2.1, (hB3.cell (p := ⟨b', _, none⟩) h2).trans h3.2.2.2⟩
              have hE4 := hideit (Below.trans (Ext.draw hEw.out) (Below.mono hB3 hcw.out))
              clear hC0 p1 p2 kk hW3 hB3 hW ho hEw g6
              go_wp2
              exact ⟨⟨q + 1, by omega, by go_num, hW4.out, ho4.out, hE4.out⟩, by simp [intOf]; omega⟩
            · rw [g1] at p0
              obtain ⟨ou, cu, hu⟩ := g2.form
              rw [hu] at p3 g2
              have kk := hideit (wbytes_okP c (sz + 3) (sumN ls q) (ls q) (encF ls bs q) (bs q) false (.slice ou (ls q) cu) wr hW.out (by omega) (by omega) (g2.ext hEw.out))
              clear p1 p2 g1
              go_wp2_with (go_at_call 23; refine kk.out.mono ?_; rintro e w3 ⟨rfl, hW3, hB3⟩; replace hW3 := hideit hW3; replace hB3 := hideit hB3; clear kk)
              have ho4 : Hid (∀ j, j < m → ∃ b', (some ⟨b, 0, none⟩ : Option Addr) = some ⟨b', 0, none⟩ ∧ b' < c ∧ OpAt b' (j * 4) (ks j) (ns j) (xs j) (us j) w3) := fun j hj => by
                obtain ⟨b', h1, h2, h3⟩ := ho.out j hj
                exact ⟨b', h1, h2, (hB3.out.cell (p := ⟨b', _, none⟩) h2).trans h3.1, (hB3.out.cell (p := ⟨b', _, none⟩) h2).trans h3.2.1, (hB3.out.cell (p := ⟨b', _, none⟩) h2).trans h3.2.2.1, (hB3.out.cell (p := ⟨b', _, none⟩) h2).trans h3.2.2.2⟩
              exact ⟨⟨q + 1, by omega, by go_num, hW3.out, ho4.out, Below.trans hEw.out (Below.mono hB3.out hcw.out)⟩, by simp [intOf]; omega⟩
          · obtain rfl : q = m := by omega
            have q1 : ¬ (q : Int) < (q : Int) := by omega
            have hWs := hW.out
            rw [← hsz.out] at hWs
            have hcl := hWs.lt
            replace hWs := hideit hWs
            have h3i : ((sz + 3 : Nat) : Int) = (sz : Int) + 3 := by omega
            clear hW
            go_upto_region 27 with (first
              | (go_at_call 24; refine (wdone_ok c (sz + 3) sz (encF ls bs q) _ hWs.out (by omega) (by omega)).mono ?_; rintro e w4 ⟨g, rfl, _, hR4, hE4⟩; replace hR4 := hideit (row_bv2 hR4); replace hE4 := hideit hE4)
              | (go_at_call 9; refine (newr_any _ (sz + 3) _ _ hR4.out (by omega)).mono ?_; rintro e w5 ⟨r, rfl, hr5, hR5, hE5⟩; replace hr5 := hideit hr5; replace hR5 := hideit hR5; have hc4 := hideit (Nat.lt_of_lt_of_le hcl (Below.size hE4.out)); replace hE5 := hideit (Ext.trans hE4.out hE5); clear hE4 hR4))
            have ho5 : Hid (∀ j, j < q → ∃ b', od = some ⟨b', 0, none⟩ ∧ b' < c ∧ OpAt b' (j * 4) (ks j) (ns j) (xs j) (us j) w5) := fun j hj => by
              obtain ⟨b', h1, h2, h3⟩ := ho.out j hj
              exact ⟨b', h1, h2, opAt_ext h3 hE5.out⟩
            have hE6 := hideit (Ext.trans hEw.out hE5.out)
            have hF : Hid (∀ k j, k < q → j < ls k → padF (encF ls bs q) sz (sumN ls k + j) = bs k j) := fun k j hk hj => by
              have h9 := sumN_le ls (k + 1) q (by omega)
              simp only [sumN] at h9
              unfold padF
              rw [if_pos (by rw [hsz.out]; omega)]
              exact encF_at ls bs q k j hk hj
            have hF3 : Hid (∀ j, j < 3 → padF (encF ls bs q) sz (sz + j) = 0#8) := fun j hj => by
              unfold padF
              rw [if_neg (by omega)]
            obtain ⟨F, hFF⟩ : ∃ F, F = padF (encF ls bs q) sz := ⟨_, rfl⟩
            rw [← hFF] at hF hF3 hR5
            obtain ⟨lo, hlo⟩ : ∃ lo, lo = w4.heap.size := ⟨_, rfl⟩
            rw [← hlo] at hr5 hR5 hc4
            have hbr : Hid (∀ b', b' < c → b' < r) := fun b' h => by have := hc4.out; have := hr5.out; omega
            have hwr : Hid (w.heap.size ≤ r) := by show _ ≤ _; have := hc4.out; have := hr5.out; have := hcw.out; omega
            clear hFF hlo ho hEw hE5 hWs hcl
            go_wp2
            go_loopw [12] (fun i X => ∃ p : Nat, p ≤ q ∧ i = .int .i64 p ∧ Rd lo r (sz + 3 - sumN ls p) (shF F (sumN ls p)) false X ∧ (∀ j, j < q → ∃ b', od = some ⟨b', 0, none⟩ ∧ b' < c ∧ OpAt b' (j * 4) (ks j) (ns j) (xs j) (us j) X) ∧ Ext w X) (fun i _ => q - (intOf i).toNat)
            case atStart => exact ⟨0, Nat.zero_le _, rfl, by
              have e1 : shF F (sumN ls 0) = F := by funext j; unfold shF; simp only [sumN]; rw [Nat.zero_add]
              rw [e1]
              exact hR5.out, ho5.out, hE6.out⟩
            case round =>
              clear hR5 ho5 hE6
              obtain ⟨p, hp, rfl, hR, ho, hEw⟩ := hrel
              replace hR := hideit hR
              replace ho := hideit ho
              replace hEw := hideit hEw
              by_cases hlt3 : p < q
              · have p0' : (0 : Int) ≤ (p : Int) := by omega
                have r1 : (p : Int) < (q : Int) := by omega
                obtain ⟨b, rfl, hbc, hop⟩ := ho.out p hlt3
                have hg := hgood.out p hlt3
                have hsz2 : sumN ls p + ls p ≤ sz := by
                  have h9 := sumN_le ls (p + 1) q (by omega)
                  simp only [sumN] at h9
                  rw [hsz.out]
                  exact h9
                have hblk : b < wr.drew.heap.size := World.block_lt_of_cell? wr _ hop.1
                have hbne : b ≠ r := Nat.ne_of_lt (hbr.out b hbc)
                obtain ⟨p0, p1, p2, p3⟩ := hop
                rcases hg with ⟨g1, g2, g3, g4, g5, g6⟩ | ⟨g1, g2, g3⟩
                · rw [g1] at p0
                  rw [g2] at p1
                  have kk := ruint_ok lo r (sz + 3 - sumN ls p) (ls p) (shF F (sumN ls p)) wr.drew (hR.out.ext (Ext.refl wr).draw) (by omega) g3 g4
                  rw [le_byN (shF F (sumN ls p)) (xs p) (ls p) g3 (fun j hj => by unfold shF; rw [hF.out p j hlt3 hj, g6 j hj]) g5, shF_three, Nat.sub_sub] at kk
                  replace kk := hideit kk
                  clear g1 g2 g3 g5 g6 p3
                  go_upto_region 30 with (fail)
                  obtain ⟨lq, hlq⟩ : ∃ lq : Int, lq = ((ls p : Nat) : Int) := ⟨_, rfl⟩
                  rw [← hlq] at p1 kk
                  have hC0 : (fun X : World => X.cell? ⟨b, p * 4, none⟩ = some (.int .i64 1) ∧ X.cell? ⟨b, p * 4 + 1, none⟩ = some (.int .i64 lq) ∧ X.cell? ⟨b, p * 4 + 2, none⟩ = some (.int .u64 ((xs p).toNat : Int))) wr.drew := ⟨p0, p1, p2⟩
                  clear hlq
                  refine wp_region_lad (fun X : World => X.cell? ⟨b, p * 4, none⟩ = some (.int .i64 1) ∧ X.cell? ⟨b, p * 4 + 1, none⟩ = some (.int .i64 lq) ∧ X.cell? ⟨b, p * 4 + 2, none⟩ = some (.int .u64 ((xs p).toNat : Int))) [(false, 0), (false, 1), (false, 2), (false, 3), (false, 4), (false, 5), (false, 6), (false, 7), (false, 8), (false, 9), (false, 10), (false, 11), (false, 12), (false, 14), (false, 15), (false, 16), (false, 17), (false, 18), (true, 13), (false, 19), (false, 20), (false, 21), (false, 22), (false, 23), (false, 24), (false, 25), (false, 26), (false, 27), (false, 28), (false, 29), (false, 30), (false, 31), (false, 32), (false, 33), (false, 34), (false, 35), (false, 36), (false, 37), (false, 38), (false, 39), (false, 40), (false, 41), (false, 42), (false, 43), (false, 44), (false, 45), (false, 46)] (by kernel_rfl) (by kernel_rfl) (by decide +kernel) (by decide +kernel) (by decide +kernel) (by decide +kernel) hC0 ?_
                  refine wpX_f _ (.slice (some ⟨b, 0, none⟩) q cd) rfl rfl (fun X _ => by simp [go_sem]) ?_
                  simp only [List.getElem_toArray, List.getElem_cons_zero, Act.put, List.setIfInBounds_toArray, List.set_cons_zero, List.set_cons_succ]
                  refine wpX_f _ (.int .i64 (p : Int)) rfl rfl (fun X _ => by simp [go_sem]) ?_
                  simp only [List.getElem_toArray, List.getElem_cons_zero, List.getElem_cons_succ, Act.put, List.setIfInBounds_toArray, List.set_cons_zero, List.set_cons_succ]
                  refine wpX_f _ (.pointer (some ⟨b, p * 4, none⟩)) rfl rfl (fun X _ => by simp [go_sem, r1]) ?_
                  simp only [List.getElem_toArray, List.getElem_cons_zero, List.getElem_cons_succ, Act.put, List.setIfInBounds_toArray, List.set_cons_zero, List.set_cons_succ]
                  refine wpX_f _ (.pointer (some ⟨b, p * 4, none⟩)) rfl rfl (fun X _ => by simp [go_sem]) ?_
                  simp only [List.getElem_toArray, List.getElem_cons_zero, List.getElem_cons_succ, Act.put, List.setIfInBounds_toArray, List.set_cons_zero, List.set_cons_succ]
                  refine wpX_f _ (.int .i64 1) rfl rfl (fun X hX => by simp [go_sem, show X.cell? ⟨b, p * 4, none⟩ = _ from hX.1]) ?_
                  simp only [List.getElem_toArray, List.getElem_cons_zero, List.getElem_cons_succ, Act.put, List.setIfInBounds_toArray, List.set_cons_zero, List.set_cons_succ]
                  refine wpX_f _ (.bool true) rfl rfl (fun X _ => by simp [go_sem]) ?_
                  simp only [List.getElem_toArray, List.getElem_cons_zero, List.getElem_cons_succ, Act.put, List.setIfInBounds_toArray, List.set_cons_zero, List.set_cons_succ]
                  refine wpX_f _ (.bool true) rfl rfl (fun X _ => by simp [go_sem]) ?_
                  simp only [List.getElem_toArray, List.getElem_cons_zero, List.getElem_cons_succ, Act.put, List.setIfInBounds_toArray, List.set_cons_zero, List.set_cons_succ]
                  refine wpX_f _ (.pointer (some ⟨r, 0, none⟩)) rfl rfl (fun X _ => by simp [go_sem]) ?_
                  simp only [List.getElem_toArray, List.getElem_cons_zero, List.getElem_cons_succ, Act.put, List.setIfInBounds_toArray, List.set_cons_zero, List.set_cons_succ]
                  refine wpX_f _ (.slice (some ⟨b, 0, none⟩) q cd) rfl rfl (fun X _ => by simp [go_sem]) ?_
                  simp only [List.getElem_toArray, List.getElem_cons_zero, List.getElem_cons_succ, Act.put, List.setIfInBounds_toArray, List.set_cons_zero, List.set_cons_succ]
                  refine wpX_f _ (.int .i64 (p : Int)) rfl rfl (fun X _ => by simp [go_sem]) ?_
                  simp only [List.getElem_toArray, List.getElem_cons_zero, List.getElem_cons_succ, Act.put, List.setIfInBounds_toArray, List.set_cons_zero, List.set_cons_succ]
                  refine wpX_f _ (.pointer (some ⟨b, p * 4, none⟩)) rfl rfl (fun X _ => by simp [go_sem, r1]) ?_
                  simp only [List.getElem_toArray, List.getElem_cons_zero, List.getElem_cons_succ, Act.put, List.setIfInBounds_toArray, List.set_cons_zero, List.set_cons_succ]
                  refine wpX_f _ (.pointer (some ⟨b, p * 4 + 1, none⟩)) rfl rfl (fun X _ => by simp [go_sem]) ?_
                  simp only [List.getElem_toArray, List.getElem_cons_zero, List.getElem_cons_succ, Act.put, List.setIfInBounds_toArray, List.set_cons_zero, List.set_cons_succ]
                  refine wpX_f _ (.int .i64 lq) rfl rfl (fun X hX => by simp [go_sem, show X.cell? ⟨b, p * 4 + 1, none⟩ = _ from hX.2.1]) ?_
                  simp only [List.getElem_toArray, List.getElem_cons_zero, List.getElem_cons_succ, Act.put, List.setIfInBounds_toArray, List.set_cons_zero, List.set_cons_succ]
                  refine wpX_f _ (.slice (some ⟨b, 0, none⟩) q cd) rfl rfl (fun X _ => by simp [go_sem]) ?_
                  simp only [List.getElem_toArray, List.getElem_cons_zero, List.getElem_cons_succ, Act.put, List.setIfInBounds_toArray, List.set_cons_zero, List.set_cons_succ]
                  refine wpX_f _ (.int .i64 (p : Int)) rfl rfl (fun X _ => by simp [go_sem]) ?_
                  simp only [List.getElem_toArray, List.getElem_cons_zero, List.getElem_cons_succ, Act.put, List.setIfInBounds_toArray, List.set_cons_zero, List.set_cons_succ]
                  refine wpX_f _ (.pointer (some ⟨b, p * 4, none⟩)) rfl rfl (fun X _ => by simp [go_sem, r1]) ?_
                  simp only [List.getElem_toArray, List.getElem_cons_zero, List.getElem_cons_succ, Act.put, List.setIfInBounds_toArray, List.set_cons_zero, List.set_cons_succ]
                  refine wpX_f _ (.pointer (some ⟨b, p * 4 + 2, none⟩)) rfl rfl (fun X _ => by simp [go_sem]) ?_
                  simp only [List.getElem_toArray, List.getElem_cons_zero, List.getElem_cons_succ, Act.put, List.setIfInBounds_toArray, List.set_cons_zero, List.set_cons_succ]
                  refine wpX_f _ (.int .u64 ((xs p).toNat : Int)) rfl rfl (fun X hX => by simp [go_sem, show X.cell? ⟨b, p * 4 + 2, none⟩ = _ from hX.2.2]) ?_
                  simp only [List.getElem_toArray, List.getElem_cons_zero, List.getElem_cons_succ, Act.put, List.setIfInBounds_toArray, List.set_cons_zero, List.set_cons_succ]
                  refine wpX_call _ rfl rfl (by simp [go_sem]) (kk.out.mono ?_)
                  rintro e w6 ⟨rfl, hR6, hB6⟩
                  refine ⟨_, rfl, _, fun _ h => h, ⟨(hB6.cell ⟨b, p * 4, none⟩ hblk hbne).trans p0, (hB6.cell ⟨b, p * 4 + 1, none⟩ hblk hbne).trans p1, (hB6.cell ⟨b, p * 4 + 2, none⟩ hblk hbne).trans p2⟩, ?_⟩
                  simp only [List.getElem_toArray, List.getElem_cons_zero, List.getElem_cons_succ, Act.put, List.setIfInBounds_toArray, List.set_cons_zero, List.set_cons_succ]
                  refine wpX_f _ (.bool false) rfl rfl (fun X _ => by simp [go_sem]) ?_
                  simp only [List.getElem_toArray, List.getElem_cons_zero, List.getElem_cons_succ, Act.put, List.setIfInBounds_toArray, List.set_cons_zero, List.set_cons_succ]
                  refine wpX_f _ (.bool false) rfl rfl (fun X _ => by simp [go_sem]) ?_
                  simp only [List.getElem_toArray, List.getElem_cons_zero, List.getElem_cons_succ, Act.put, List.setIfInBounds_toArray, List.set_cons_zero, List.set_cons_succ]
                  refine wpX_f _ (.bool false) rfl rfl (fun X _ => by simp [go_sem]) ?_
                  simp only [List.getElem_toArray, List.getElem_cons_zero, List.getElem_cons_succ, Act.put, List.setIfInBounds_toArray, List.set_cons_zero, List.set_cons_succ]
                  refine wpX_f _ (.slice (some ⟨b, 0, none⟩) q cd) rfl rfl (fun X _ => by simp [go_sem]) ?_
                  simp only [List.getElem_toArray, List.getElem_cons_zero, List.getElem_cons_succ, Act.put, List.setIfInBounds_toArray, List.set_cons_zero, List.set_cons_succ]
                  refine wpX_f _ (.int .i64 (p : Int)) rfl rfl (fun X _ => by simp [go_sem]) ?_
                  simp only [List.getElem_toArray, List.getElem_cons_zero, List.getElem_cons_succ, Act.put, List.setIfInBounds_toArray, List.set_cons_zero, List.set_cons_succ]
                  refine wpX_f _ (.pointer (some ⟨b, p * 4, none⟩)) rfl rfl (fun X _ => by simp [go_sem, r1]) ?_
                  simp only [List.getElem_toArray, List.getElem_cons_zero, List.getElem_cons_succ, Act.put, List.setIfInBounds_toArray, List.set_cons_zero, List.set_cons_succ]
                  refine wpX_f _ (.pointer (some ⟨b, p * 4, none⟩)) rfl rfl (fun X _ => by simp [go_sem]) ?_
                  simp only [List.getElem_toArray, List.getElem_cons_zero, List.getElem_cons_succ, Act.put, List.setIfInBounds_toArray, List.set_cons_zero, List.set_cons_succ]
                  refine wpX_f _ (.int .i64 1) rfl rfl (fun X hX => by simp [go_sem, show X.cell? ⟨b, p * 4, none⟩ = _ from hX.1]) ?_
                  simp only [List.getElem_toArray, List.getElem_cons_zero, List.getElem_cons_succ, Act.put, List.setIfInBounds_toArray, List.set_cons_zero, List.set_cons_succ]
                  refine wpX_f _ (.bool false) rfl rfl (fun X _ => by simp [go_sem]) ?_
                  simp only [List.getElem_toArray, List.getElem_cons_zero, List.getElem_cons_succ, Act.put, List.setIfInBounds_toArray, List.set_cons_zero, List.set_cons_succ]
                  refine wpX_f _ (.bool false) rfl rfl (fun X _ => by simp [go_sem]) ?_
                  simp only [List.getElem_toArray, List.getElem_cons_zero, List.getElem_cons_succ, Act.put, List.setIfInBounds_toArray, List.set_cons_zero, List.set_cons_succ]
                  refine wpX_fskip _ rfl rfl ?_
                  simp only [List.getElem_toArray, List.getElem_cons_zero, List.getElem_cons_succ, Act.put, List.setIfInBounds_toArray, List.set_cons_zero, List.set_cons_succ]
                  refine wpX_fskip _ rfl rfl ?_
                  simp only [List.getElem_toArray, List.getElem_cons_zero, List.getElem_cons_succ, Act.put, List.setIfInBounds_toArray, List.set_cons_zero, List.set_cons_succ]
                  refine wpX_fskip _ rfl rfl ?_
                  simp only [List.getElem_toArray, List.getElem_cons_zero, List.getElem_cons_succ, Act.put, List.setIfInBounds_toArray, List.set_cons_zero, List.set_cons_succ]
                  refine wpX_fskip _ rfl rfl ?_
                  simp only [List.getElem_toArray, List.getElem_cons_zero, List.getElem_cons_succ, Act.put, List.setIfInBounds_toArray, List.set_cons_zero, List.set_cons_succ]
                  refine wpX_fskip _ rfl rfl ?_
                  simp only [List.getElem_toArray, List.getElem_cons_zero, List.getElem_cons_succ, Act.put, List.setIfInBounds_toArray, List.set_cons_zero, List.set_cons_succ]
                  refine wpX_fskip _ rfl rfl ?_
                  simp only [List.getElem_toArray, List.getElem_cons_zero, List.getElem_cons_succ, Act.put, List.setIfInBounds_toArray, List.set_cons_zero, List.set_cons_succ]
                  refine wpX_fskip _ rfl rfl ?_
                  simp only [List.getElem_toArray, List.getElem_cons_zero, List.getElem_cons_succ, Act.put, List.setIfInBounds_toArray, List.set_cons_zero, List.set_cons_succ]
                  refine wpX_fskip _ rfl rfl ?_
                  simp only [List.getElem_toArray, List.getElem_cons_zero, List.getElem_cons_succ, Act.put, List.setIfInBounds_toArray, List.set_cons_zero, List.set_cons_succ]
                  refine wpX_fskip _ rfl rfl ?_
                  simp only [List.getElem_toArray, List.getElem_cons_zero, List.getElem_cons_succ, Act.put, List.setIfInBounds_toArray, List.set_cons_zero, List.set_cons_succ]
                  refine wpX_fskip _ rfl rfl ?_
                  simp only [List.getElem_toArray, List.getElem_cons_zero, List.getElem_cons_succ, Act.put, List.setIfInBounds_toArray, List.set_cons_zero, List.set_cons_succ]
                  refine wpX_fskip _ rfl rfl ?_
                  simp only [List.getElem_toArray, List.getElem_cons_zero, List.getElem_cons_succ, Act.put, List.setIfInBounds_toArray, List.set_cons_zero, List.set_cons_succ]
                  refine wpX_fskip _ rfl rfl ?_
                  simp only [List.getElem_toArray, List.getElem_cons_zero, List.getElem_cons_succ, Act.put, List.setIfInBounds_toArray, List.set_cons_zero, List.set_cons_succ]
                  refine wpX_fskip _ rfl rfl ?_
                  simp only [List.getElem_toArray, List.getElem_cons_zero, List.getElem_cons_succ, Act.put, List.setIfInBounds_toArray, List.set_cons_zero, List.set_cons_succ]
                  refine wpX_fskip _ rfl rfl ?_
                  simp only [List.getElem_toArray, List.getElem_cons_zero, List.getElem_cons_succ, Act.put, List.setIfInBounds_toArray, List.set_cons_zero, List.set_cons_succ]
                  refine wpX_fskip _ rfl rfl ?_
                  simp only [List.getElem_toArray, List.getElem_cons_zero, List.getElem_cons_succ, Act.put, List.setIfInBounds_toArray, List.set_cons_zero, List.set_cons_succ]
                  refine wpX_fskip _ rfl rfl ?_
                  simp only [List.getElem_toArray, List.getElem_cons_zero, List.getElem_cons_succ, Act.put, List.setIfInBounds_toArray, List.set_cons_zero, List.set_cons_succ]
                  refine wpX_f _ (.bool false) rfl rfl (fun X _ => by simp [go_sem]) ?_
                  simp only [List.getElem_toArray, List.getElem_cons_zero, List.getElem_cons_succ, Act.put, List.setIfInBounds_toArray, List.set_cons_zero, List.set_cons_succ]
                  refine wpX_f _ (.bool false) rfl rfl (fun X _ => by simp [go_sem]) ?_
                  simp only [List.getElem_toArray, List.getElem_cons_zero, List.getElem_cons_succ, Act.put, List.setIfInBounds_toArray, List.set_cons_zero, List.set_cons_succ]
                  refine wpX_nil ?_
                  have ho6 : Hid (∀ j, j < q → ∃ b', (some ⟨b, 0, none⟩ : Option Addr) = some ⟨b', 0, none⟩ ∧ b' < c ∧ OpAt b' (j * 4) (ks j) (ns j) (xs j) (us j) w6) := fun j hj => by
                    obtain ⟨b', h1, h2, h3⟩ := ho.out j hj
                    have k1 : b' < wr.drew.heap.size := World.block_lt_of_cell? wr _ h3.1
                    have k2 : b' ≠ r := Nat.ne_of_lt (hbr.out b' h2)
                    exact ⟨b', h1, h2, (hB6.cell ⟨b', _, none⟩ k1 k2).trans h3.1, (hB6.cell ⟨b', _, none⟩ k1 k2).trans h3.2.1, (hB6.cell ⟨b', _, none⟩ k1 k2).trans h3.2.2.1, (hB6.cell ⟨b', _, none⟩ k1 k2).trans h3.2.2.2⟩
                  have hE6 := hideit (Ext.but (Ext.draw hEw.out) hB6 hwr.out)
                  replace hR6 := hideit hR6
                  clear hC0 p0 p1 p2 kk hB6 hR ho hEw hblk
                  go_wp2
                  exact ⟨⟨p + 1, by omega, by go_num, hR6.out, ho6.out, hE6.out⟩, by simp [intOf]; omega⟩
                · rw [g1] at p0
                  obtain ⟨ou, cu, hu⟩ := g2.form
                  rw [hu] at p3 g2
                  have hbs : ∀ j, j < ls p → shF F (sumN ls p) j = bs p j := fun j hj => by unfold shF; exact hF.out p j hlt3 hj
                  have kk := rbytes_ok lo r (sz + 3 - sumN ls p) (ls p) (shF F (sumN ls p)) wr.drew (hR.out.ext (Ext.refl wr).draw) (by omega) (by omega)
                  rw [shF_three, Nat.sub_sub] at kk
                  replace kk := hideit kk
                  obtain ⟨lp, hlp⟩ : ∃ lp, lp = ls p := ⟨_, rfl⟩
                  obtain ⟨bp, hbp⟩ : ∃ bp, bp = bs p := ⟨_, rfl⟩
                  obtain ⟨str, hstr⟩ : ∃ str, str = bstr lp (fun j => ((bp j).toNat : Int)) := ⟨_, rfl⟩
                  rw [← hlp] at p3
                  rw [← hlp, ← hbp] at g2 hbs
                  have hkk : Hid (Calls Try.prog 14 #[.pointer (some ⟨r, 0, none⟩), .int .i64 (lp : Int)] wr.drew fun e w' => ∃ o5 c5, e = .returned (.slice o5 lp c5) ∧ BV (.slice o5 lp c5) lp bp w' ∧ Rd lo r (sz + 3 - sumN ls (p + 1)) (shF F (sumN ls (p + 1))) false w' ∧ But r wr.drew w') := by
                    rw [hlp]
                    refine kk.out.mono ?_
                    rintro e w' ⟨v5, h1, h2, _, h4, h5⟩
                    have h6 := (h2.congr (g' := yv bp) fun j hj => by simp only [yv]; rw [hbs j (by rw [hlp]; exact hj)]).bv
                    obtain ⟨o5, c5, h7⟩ := h6.form
                    rw [h7] at h1 h6
                    exact ⟨o5, c5, h1, h6, h4, h5⟩
                  have hcP : ∀ X : World, PV (.slice ou lp cu) lp bp X → (convert 22 9 (.slice ou lp cu)).run Try.prog X = .ok (.string str) X := fun X h => by rw [hstr]; exact convP _ _ _ X h
                  have hcV : ∀ (o5 : Option Addr) (c5 : Nat) (X : World), BV (.slice o5 lp c5) lp bp X → (convert 22 9 (.slice o5 lp c5)).run Try.prog X = .ok (.string str) X := fun o5 c5 X h => by rw [hstr]; exact convV _ _ _ X h
                  replace hlp := hideit hlp
                  clear hstr hbp kk hbs g1 p1 p2 hu
                  go_upto_region 30 with (fail)
                  have hC0 : (fun X : World => X.cell? ⟨b, p * 4, none⟩ = some (.int .i64 2) ∧ X.cell? ⟨b, p * 4 + 3, none⟩ = some (.slice ou lp cu) ∧ PV (.slice ou lp cu) lp bp X) wr.drew := ⟨p0, p3, g2.ext (Ext.draw hEw.out)⟩
                  refine wp_region_lad (fun X : World => X.cell? ⟨b, p * 4, none⟩ = some (.int .i64 2) ∧ X.cell? ⟨b, p * 4 + 3, none⟩ = some (.slice ou lp cu) ∧ PV (.slice ou lp cu) lp bp X) [(false, 0), (false, 1), (false, 2), (false, 3), (false, 4), (false, 5), (false, 6), (false, 7), (false, 8), (false, 9), (false, 10), (false, 11), (false, 12), (false, 13), (false, 14), (false, 15), (false, 16), (false, 17), (false, 18), (false, 19), (false, 20), (false, 21), (false, 22), (false, 23), (false, 24), (false, 25), (false, 26), (false, 27), (false, 28), (false, 29), (false, 30), (false, 31), (false, 32), (false, 33), (false, 34), (false, 35), (false, 38), (false, 39), (false, 40), (false, 41), (false, 42), (false, 43), (true, 36), (false, 37), (false, 44), (false, 45), (false, 46)] (by kernel_rfl) (by kernel_rfl) (by decide +kernel) (by decide +kernel) (by decide +kernel) (by decide +kernel) hC0 ?_
                  refine wpX_f _ (.slice (some ⟨b, 0, none⟩) q cd) rfl rfl (fun X _ => by simp [go_sem]) ?_
                  simp only [List.getElem_toArray, List.getElem_cons_zero, Act.put, List.setIfInBounds_toArray, List.set_cons_zero, List.set_cons_succ]
                  refine wpX_f _ (.int .i64 (p : Int)) rfl rfl (fun X _ => by simp [go_sem]) ?_
                  simp only [List.getElem_toArray, List.getElem_cons_zero, List.getElem_cons_succ, Act.put, List.setIfInBounds_toArray, List.set_cons_zero, List.set_cons_succ]
                  refine wpX_f _ (.pointer (some ⟨b, p * 4, none⟩)) rfl rfl (fun X _ => by simp [go_sem, r1]) ?_
                  simp only [List.getElem_toArray, List.getElem_cons_zero, List.getElem_cons_succ, Act.put, List.setIfInBounds_toArray, List.set_cons_zero, List.set_cons_succ]
                  refine wpX_f _ (.pointer (some ⟨b, p * 4, none⟩)) rfl rfl (fun X _ => by simp [go_sem]) ?_
                  simp only [List.getElem_toArray, List.getElem_cons_zero, List.getElem_cons_succ, Act.put, List.setIfInBounds_toArray, List.set_cons_zero, List.set_cons_succ]
                  refine wpX_f _ (.int .i64 2) rfl rfl (fun X hX => by simp [go_sem, show X.cell? ⟨b, p * 4, none⟩ = _ from hX.1]) ?_
                  simp only [List.getElem_toArray, List.getElem_cons_zero, List.getElem_cons_succ, Act.put, List.setIfInBounds_toArray, List.set_cons_zero, List.set_cons_succ]
                  refine wpX_f _ (.bool false) rfl rfl (fun X _ => by simp [go_sem]) ?_
                  simp only [List.getElem_toArray, List.getElem_cons_zero, List.getElem_cons_succ, Act.put, List.setIfInBounds_toArray, List.set_cons_zero, List.set_cons_succ]
                  refine wpX_f _ (.bool false) rfl rfl (fun X _ => by simp [go_sem]) ?_
                  simp only [List.getElem_toArray, List.getElem_cons_zero, List.getElem_cons_succ, Act.put, List.setIfInBounds_toArray, List.set_cons_zero, List.set_cons_succ]
                  refine wpX_fskip _ rfl rfl ?_
                  simp only [List.getElem_toArray, List.getElem_cons_zero, List.getElem_cons_succ, Act.put, List.setIfInBounds_toArray, List.set_cons_zero, List.set_cons_succ]
                  refine wpX_fskip _ rfl rfl ?_
                  simp only [List.getElem_toArray, List.getElem_cons_zero, List.getElem_cons_succ, Act.put, List.setIfInBounds_toArray, List.set_cons_zero, List.set_cons_succ]
                  refine wpX_fskip _ rfl rfl ?_
                  simp only [List.getElem_toArray, List.getElem_cons_zero, List.getElem_cons_succ, Act.put, List.setIfInBounds_toArray, List.set_cons_zero, List.set_cons_succ]
                  refine wpX_fskip _ rfl rfl ?_
                  simp only [List.getElem_toArray, List.getElem_cons_zero, List.getElem_cons_succ, Act.put, List.setIfInBounds_toArray, List.set_cons_zero, List.set_cons_succ]
                  refine wpX_fskip _ rfl rfl ?_
                  simp only [List.getElem_toArray, List.getElem_cons_zero, List.getElem_cons_succ, Act.put, List.setIfInBounds_toArray, List.set_cons_zero, List.set_cons_succ]
                  refine wpX_fskip _ rfl rfl ?_
                  simp only [List.getElem_toArray, List.getElem_cons_zero, List.getElem_cons_succ, Act.put, List.setIfInBounds_toArray, List.set_cons_zero, List.set_cons_succ]
                  refine wpX_fskip _ rfl rfl ?_
                  simp only [List.getElem_toArray, List.getElem_cons_zero, List.getElem_cons_succ, Act.put, List.setIfInBounds_toArray, List.set_cons_zero, List.set_cons_succ]
                  refine wpX_fskip _ rfl rfl ?_
                  simp only [List.getElem_toArray, List.getElem_cons_zero, List.getElem_cons_succ, Act.put, List.setIfInBounds_toArray, List.set_cons_zero, List.set_cons_succ]
                  refine wpX_fskip _ rfl rfl ?_
                  simp only [List.getElem_toArray, List.getElem_cons_zero, List.getElem_cons_succ, Act.put, List.setIfInBounds_toArray, List.set_cons_zero, List.set_cons_succ]
                  refine wpX_fskip _ rfl rfl ?_
                  simp only [List.getElem_toArray, List.getElem_cons_zero, List.getElem_cons_succ, Act.put, List.setIfInBounds_toArray, List.set_cons_zero, List.set_cons_succ]
                  refine wpX_fskip _ rfl rfl ?_
                  simp only [List.getElem_toArray, List.getElem_cons_zero, List.getElem_cons_succ, Act.put, List.setIfInBounds_toArray, List.set_cons_zero, List.set_cons_succ]
                  refine wpX_fskip _ rfl rfl ?_
                  simp only [List.getElem_toArray, List.getElem_cons_zero, List.getElem_cons_succ, Act.put, List.setIfInBounds_toArray, List.set_cons_zero, List.set_cons_succ]
                  refine wpX_fskip _ rfl rfl ?_
                  simp only [List.getElem_toArray, List.getElem_cons_zero, List.getElem_cons_succ, Act.put, List.setIfInBounds_toArray, List.set_cons_zero, List.set_cons_succ]
                  refine wpX_f _ (.bool false) rfl rfl (fun X _ => by simp [go_sem]) ?_
                  simp only [List.getElem_toArray, List.getElem_cons_zero, List.getElem_cons_succ, Act.put, List.setIfInBounds_toArray, List.set_cons_zero, List.set_cons_succ]
                  refine wpX_f _ (.bool false) rfl rfl (fun X _ => by simp [go_sem]) ?_
                  simp only [List.getElem_toArray, List.getElem_cons_zero, List.getElem_cons_succ, Act.put, List.setIfInBounds_toArray, List.set_cons_zero, List.set_cons_succ]
                  refine wpX_f _ (.slice (some ⟨b, 0, none⟩) q cd) rfl rfl (fun X _ => by simp [go_sem]) ?_
                  simp only [List.getElem_toArray, List.getElem_cons_zero, List.getElem_cons_succ, Act.put, List.setIfInBounds_toArray, List.set_cons_zero, List.set_cons_succ]
                  refine wpX_f _ (.int .i64 (p : Int)) rfl rfl (fun X _ => by simp [go_sem]) ?_
                  simp only [List.getElem_toArray, List.getElem_cons_zero, List.getElem_cons_succ, Act.put, List.setIfInBounds_toArray, List.set_cons_zero, List.set_cons_succ]
                  refine wpX_f _ (.pointer (some ⟨b, p * 4, none⟩)) rfl rfl (fun X _ => by simp [go_sem, r1]) ?_
                  simp only [List.getElem_toArray, List.getElem_cons_zero, List.getElem_cons_succ, Act.put, List.setIfInBounds_toArray, List.set_cons_zero, List.set_cons_succ]
                  refine wpX_f _ (.pointer (some ⟨b, p * 4, none⟩)) rfl rfl (fun X _ => by simp [go_sem]) ?_
                  simp only [List.getElem_toArray, List.getElem_cons_zero, List.getElem_cons_succ, Act.put, List.setIfInBounds_toArray, List.set_cons_zero, List.set_cons_succ]
                  refine wpX_f _ (.int .i64 2) rfl rfl (fun X hX => by simp [go_sem, show X.cell? ⟨b, p * 4, none⟩ = _ from hX.1]) ?_
                  simp only [List.getElem_toArray, List.getElem_cons_zero, List.getElem_cons_succ, Act.put, List.setIfInBounds_toArray, List.set_cons_zero, List.set_cons_succ]
                  refine wpX_f _ (.bool true) rfl rfl (fun X _ => by simp [go_sem]) ?_
                  simp only [List.getElem_toArray, List.getElem_cons_zero, List.getElem_cons_succ, Act.put, List.setIfInBounds_toArray, List.set_cons_zero, List.set_cons_succ]
                  refine wpX_f _ (.bool true) rfl rfl (fun X _ => by simp [go_sem]) ?_
                  simp only [List.getElem_toArray, List.getElem_cons_zero, List.getElem_cons_succ, Act.put, List.setIfInBounds_toArray, List.set_cons_zero, List.set_cons_succ]
                  refine wpX_f _ (.pointer (some ⟨r, 0, none⟩)) rfl rfl (fun X _ => by simp [go_sem]) ?_
                  simp only [List.getElem_toArray, List.getElem_cons_zero, List.getElem_cons_succ, Act.put, List.setIfInBounds_toArray, List.set_cons_zero, List.set_cons_succ]
                  refine wpX_f _ (.slice (some ⟨b, 0, none⟩) q cd) rfl rfl (fun X _ => by simp [go_sem]) ?_
                  simp only [List.getElem_toArray, List.getElem_cons_zero, List.getElem_cons_succ, Act.put, List.setIfInBounds_toArray, List.set_cons_zero, List.set_cons_succ]
                  refine wpX_f _ (.int .i64 (p : Int)) rfl rfl (fun X _ => by simp [go_sem]) ?_
                  simp only [List.getElem_toArray, List.getElem_cons_zero, List.getElem_cons_succ, Act.put, List.setIfInBounds_toArray, List.set_cons_zero, List.set_cons_succ]
                  refine wpX_f _ (.pointer (some ⟨b, p * 4, none⟩)) rfl rfl (fun X _ => by simp [go_sem, r1]) ?_
                  simp only [List.getElem_toArray, List.getElem_cons_zero, List.getElem_cons_succ, Act.put, List.setIfInBounds_toArray, List.set_cons_zero, List.set_cons_succ]
                  refine wpX_f _ (.pointer (some ⟨b, p * 4 + 3, none⟩)) rfl rfl (fun X _ => by simp [go_sem]) ?_
                  simp only [List.getElem_toArray, List.getElem_cons_zero, List.getElem_cons_succ, Act.put, List.setIfInBounds_toArray, List.set_cons_zero, List.set_cons_succ]
                  refine wpX_f _ (.slice ou lp cu) rfl rfl (fun X hX => by simp [go_sem, show X.cell? ⟨b, p * 4 + 3, none⟩ = _ from hX.2.1]) ?_
                  simp only [List.getElem_toArray, List.getElem_cons_zero, List.getElem_cons_succ, Act.put, List.setIfInBounds_toArray, List.set_cons_zero, List.set_cons_succ]
                  refine wpX_f _ (.int .i64 (lp : Int)) rfl rfl (fun X _ => by simp [go_sem]) ?_
                  simp only [List.getElem_toArray, List.getElem_cons_zero, List.getElem_cons_succ, Act.put, List.setIfInBounds_toArray, List.set_cons_zero, List.set_cons_succ]
                  refine wpX_f _ (.slice (some ⟨b, 0, none⟩) q cd) rfl rfl (fun X _ => by simp [go_sem]) ?_
                  simp only [List.getElem_toArray, List.getElem_cons_zero, List.getElem_cons_succ, Act.put, List.setIfInBounds_toArray, List.set_cons_zero, List.set_cons_succ]
                  refine wpX_f _ (.int .i64 (p : Int)) rfl rfl (fun X _ => by simp [go_sem]) ?_
                  simp only [List.getElem_toArray, List.getElem_cons_zero, List.getElem_cons_succ, Act.put, List.setIfInBounds_toArray, List.set_cons_zero, List.set_cons_succ]
                  refine wpX_f _ (.pointer (some ⟨b, p * 4, none⟩)) rfl rfl (fun X _ => by simp [go_sem, r1]) ?_
                  simp only [List.getElem_toArray, List.getElem_cons_zero, List.getElem_cons_succ, Act.put, List.setIfInBounds_toArray, List.set_cons_zero, List.set_cons_succ]
                  refine wpX_f _ (.pointer (some ⟨b, p * 4 + 3, none⟩)) rfl rfl (fun X _ => by simp [go_sem]) ?_
                  simp only [List.getElem_toArray, List.getElem_cons_zero, List.getElem_cons_succ, Act.put, List.setIfInBounds_toArray, List.set_cons_zero, List.set_cons_succ]
                  refine wpX_f _ (.slice ou lp cu) rfl rfl (fun X hX => by simp [go_sem, show X.cell? ⟨b, p * 4 + 3, none⟩ = _ from hX.2.1]) ?_
                  simp only [List.getElem_toArray, List.getElem_cons_zero, List.getElem_cons_succ, Act.put, List.setIfInBounds_toArray, List.set_cons_zero, List.set_cons_succ]
                  refine wpX_f _ (.string str) rfl rfl (fun X hX => by simp [go_sem, hcP X hX.2.2]) ?_
                  simp only [List.getElem_toArray, List.getElem_cons_zero, List.getElem_cons_succ, Act.put, List.setIfInBounds_toArray, List.set_cons_zero, List.set_cons_succ]
                  refine wpX_call _ rfl rfl (by simp [go_sem]) (hkk.out.mono ?_)
                  rintro e w6 ⟨o5, c5, rfl, hV6, hR6, hB6⟩
                  refine ⟨_, rfl, (fun X : World => (X.cell? ⟨b, p * 4, none⟩ = some (.int .i64 2) ∧ X.cell? ⟨b, p * 4 + 3, none⟩ = some (.slice ou lp cu) ∧ PV (.slice ou lp cu) lp bp X) ∧ BV (.slice o5 lp c5) lp bp X), fun _ h => h.1, ⟨⟨(hB6.cell ⟨b, p * 4, none⟩ hblk hbne).trans p0, (hB6.cell ⟨b, p * 4 + 3, none⟩ hblk hbne).trans p3, g2.ext (Ext.but (Ext.draw hEw.out) hB6 hwr.out)⟩, hV6⟩, ?_⟩
                  simp only [List.getElem_toArray, List.getElem_cons_zero, List.getElem_cons_succ, Act.put, List.setIfInBounds_toArray, List.set_cons_zero, List.set_cons_succ]
                  refine wpX_f _ (.string str) rfl rfl (fun X hX => by simp [go_sem, hcV o5 c5 X hX.2]) ?_
                  simp only [List.getElem_toArray, List.getElem_cons_zero, List.getElem_cons_succ, Act.put, List.setIfInBounds_toArray, List.set_cons_zero, List.set_cons_succ]
                  refine wpX_f _ (.bool false) rfl rfl (fun X _ => by simp [go_sem]) ?_
                  simp only [List.getElem_toArray, List.getElem_cons_zero, List.getElem_cons_succ, Act.put, List.setIfInBounds_toArray, List.set_cons_zero, List.set_cons_succ]
                  refine wpX_f _ (.bool false) rfl rfl (fun X _ => by simp [go_sem]) ?_
                  simp only [List.getElem_toArray, List.getElem_cons_zero, List.getElem_cons_succ, Act.put, List.setIfInBounds_toArray, List.set_cons_zero, List.set_cons_succ]
                  refine wpX_f _ (.bool false) rfl rfl (fun X _ => by simp [go_sem]) ?_
                  simp only [List.getElem_toArray, List.getElem_cons_zero, List.getElem_cons_succ, Act.put, List.setIfInBounds_toArray, List.set_cons_zero, List.set_cons_succ]
                  refine wpX_nil ?_
                  have ho6 : Hid (∀ j, j < q → ∃ b', (some ⟨b, 0, none⟩ : Option Addr) = some ⟨b', 0, none⟩ ∧ b' < c ∧ OpAt b' (j * 4) (ks j) (ns j) (xs j) (us j) w6) := fun j hj => by
                    obtain ⟨b', h1, h2, h3⟩ := ho.out j hj
                    have k1 : b' < wr.drew.heap.size := World.block_lt_of_cell? wr _ h3.1
                    have k2 : b' ≠ r := Nat.ne_of_lt (hbr.out b' h2)
                    exact ⟨b', h1, h2, (hB6.cell ⟨b', _, none⟩ k1 k2).trans h3.1, (hB6.cell ⟨b', _, none⟩ k1 k2).trans h3.2.1, (hB6.cell ⟨b', _, none⟩ k1 k2).trans h3.2.2.1, (hB6.cell ⟨b', _, none⟩ k1 k2).trans h3.2.2.2⟩
                  have hE6 := hideit (Ext.but (Ext.draw hEw.out) hB6 hwr.out)
                  replace hR6 := hideit hR6
                  clear hC0 p0 p3 hkk hB6 hR ho hEw hblk hcP hcV hV6 g2
                  go_wp2
                  exact ⟨⟨p + 1, by omega, by go_num, hR6.out, ho6.out, hE6.out⟩, by simp [intOf]; omega⟩
              · obtain rfl : p = q := by omega
                have r1 : ¬ (p : Int) < (p : Int) := by omega
                have hRz := hR.out
                rw [← hsz.out, Nat.add_sub_cancel_left] at hRz
                have hz : dnI (false || !zB (shF F sz) 3) = 0 := by
                  rw [show zB (shF F sz) 3 = true from (zB_spec 3).2 (fun i hi => hF3.out i hi)]
                  rfl
                replace hRz := hideit hRz
                clear hR
                go_wp2_with (first
                  | (go_at_call 18; refine (rleft_any _ r 3 _ false _ hRz.out).mono ?_; rintro e w7 ⟨rfl, hww⟩; replace hww := hww.symm; subst hww)
                  | (go_at_call 19; refine (rdone_any _ r 3 _ false _ hRz.out (by omega)).mono ?_; rintro e w7 ⟨rfl, hww⟩; replace hww := hww.symm; subst hww; rw [hz]))
                go_ret
                exact ⟨rfl, hEw.out⟩
      · have k1 : (k : Int) < (n : Int) := by omega
        have k2 : ¬ (k : Int) < 500 := by omega
        clear hk500 hkn hlt hsum
        have hcells : Hid (∃ (od : Option Addr) (cd : Nat), _ = Value.slice od m cd ∧ ∀ j, j < m → ∃ b, od = some ⟨b, 0, none⟩ ∧ b < wr.heap.size ∧ OpAt b (j * 4) (ks j) (ns j) (xs j) (us j) wr) := did_cells hD.out
        obtain ⟨od, cd, hv, hall⟩ := hcells.out
        subst hv
        replace hall := hideit hall
        have kn := hideit (neww_3 sz (encF ls bs 0) wr (by omega))
        clear hcells hD hops
        go_upto_region 17 with (first
          | (go_at_call 21; refine kn.out.mono ?_; rintro e w1 ⟨c, rfl, hc1, hW1, hE1⟩; replace hc1 := hideit hc1; replace hW1 := hideit hW1; replace hE1 := hideit hE1; clear kn)
          | (go_at_call 11; refine (lives_any _).mono ?_; rintro e w2 ⟨rfl, hE2⟩; have hW2 := hideit (hW1.out.ext hE2); replace hE2 := hideit (Ext.trans hE1.out hE2); clear hW1 hE1))
        have hops2 : Hid (∀ j, j < m → ∃ b, od = some ⟨b, 0, none⟩ ∧ b < c ∧ OpAt b (j * 4) (ks j) (ns j) (xs j) (us j) w2) := fun j hj => by
          obtain ⟨b, h1, h2, h3⟩ := hall.out j hj
          exact ⟨b, h1, Nat.lt_of_lt_of_le h2 hc1.out, opAt_ext h3 hE2.out⟩
        have hcw : Hid (w.heap.size ≤ c) := Nat.le_trans (Below.size hE.out) hc1.out
        have hE3 := hideit (Ext.trans hE.out hE2.out)
        clear hall hE hE2 hc1
        go_wp2
        go_loopw [8] (fun i X => ∃ q : Nat, q ≤ m ∧ i = .int .i64 q ∧ Wr c (sz + 3) (sumN ls q) (encF ls bs q) false X ∧ (∀ j, j < m → ∃ b, od = some ⟨b, 0, none⟩ ∧ b < c ∧ OpAt b (j * 4) (ks j) (ns j) (xs j) (us j) X) ∧ Ext w X) (fun i _ => m - (intOf i).toNat)
        case atStart => exact ⟨0, Nat.zero_le _, rfl, hW2.out, hops2.out, hE3.out⟩
        case round =>
          obtain ⟨q, hq, rfl, hW, ho, hEw⟩ := hrel
          clear hW2 hops2 hE3
          replace hW := hideit hW
          replace ho := hideit ho
          replace hEw := hideit hEw
          by_cases hlt2 : q < m
          · have q0 : (0 : Int) ≤ (q : Int) := by omega
            have q1 : (q : Int) < (m : Int) := by omega
            obtain ⟨b, rfl, hbc, hop⟩ := ho.out q hlt2
            have hg := hgood.out q hlt2
            have hsz2 : sumN ls q + ls q ≤ sz := by
              have h9 := sumN_le ls (q + 1) m (by omega)
              simp only [sumN] at h9
              rw [hsz.out]
              exact h9
            obtain ⟨p0, p1, p2, p3⟩ := hop
            rcases hg with ⟨g1, g2, g3, g4, g5, g6⟩ | ⟨g1, g2, g3⟩
            · rw [g1] at p0
              rw [g2] at p1
              have kk := hideit (wuint_ok c (sz + 3) (sumN ls q) (ls q) (encF ls bs q) false (xs q) wr.drew (hW.out.ext (Ext.refl wr).draw) (by omega) (by omega) g3 g4 (Nat.div_eq_of_lt g5))
              replace g6 := hideit g6
              clear g1 g2 g3 g5 p3
              go_upto_region 21 with (fail)
              obtain ⟨lq, hlq⟩ : ∃ lq : Int, lq = ((ls q : Nat) : Int) := ⟨_, rfl⟩
              rw [← hlq] at p1 kk
              have hC0 : (fun X : World => X.cell? ⟨b, q * 4 + 1, none⟩ = some (.int .i64 lq) ∧ X.cell? ⟨b, q * 4 + 2, none⟩ = some (.int .u64 ((xs q).toNat : Int))) wr.drew := ⟨p1, p2⟩
              clear hlq p0
              refine wp_region_lad (fun X : World => X.cell? ⟨b, q * 4 + 1, none⟩ = some (.int .i64 lq) ∧ X.cell? ⟨b, q * 4 + 2, none⟩ = some (.int .u64 ((xs q).toNat : Int))) [(false, 0), (false, 1), (false, 2), (false, 3), (false, 4), (false, 5), (false, 6), (false, 7), (false, 8), (false, 9), (false, 10), (true, 11)] (by kernel_rfl) (by kernel_rfl) (by decide +kernel) (by decide +kernel) (by decide +kernel) (by decide +kernel) hC0 ?_
              refine wpX_f _ (.pointer (some ⟨c, 0, none⟩)) rfl rfl (fun X _ => by simp [go_sem]) ?_
              simp only [List.getElem_toArray, List.getElem_cons_zero, Act.put, List.setIfInBounds_toArray, List.set_cons_zero, List.set_cons_succ]
              refine wpX_f _ (.slice (some ⟨b, 0, none⟩) m cd) rfl rfl (fun X _ => by simp [go_sem]) ?_
              simp only [List.getElem_toArray, List.getElem_cons_zero, List.getElem_cons_succ, Act.put, List.setIfInBounds_toArray, List.set_cons_zero, List.set_cons_succ]
              refine wpX_f _ (.int .i64 (q : Int)) rfl rfl (fun X _ => by simp [go_sem]) ?_
              simp only [List.getElem_toArray, List.getElem_cons_zero, List.getElem_cons_succ, Act.put, List.setIfInBounds_toArray, List.set_cons_zero, List.set_cons_succ]
              refine wpX_f _ (.pointer (some ⟨b, q * 4, none⟩)) rfl rfl (fun X _ => by simp [go_sem, q1]) ?_
              simp only [List.getElem_toArray, List.getElem_cons_zero, List.getElem_cons_succ, Act.put, List.setIfInBounds_toArray, List.set_cons_zero, List.set_cons_succ]
              refine wpX_f _ (.pointer (some ⟨b, q * 4 + 1, none⟩)) rfl rfl (fun X _ => by simp [go_sem]) ?_
              simp only [List.getElem_toArray, List.getElem_cons_zero, List.getElem_cons_succ, Act.put, List.setIfInBounds_toArray, List.set_cons_zero, List.set_cons_succ]
              refine wpX_f _ (.int .i64 lq) rfl rfl (fun X hX => by simp [go_sem, show X.cell? ⟨b, q * 4 + 1, none⟩ = _ from hX.1]) ?_
              simp only [List.getElem_toArray, List.getElem_cons_zero, List.getElem_cons_succ, Act.put, List.setIfInBounds_toArray, List.set_cons_zero, List.set_cons_succ]
              refine wpX_f _ (.slice (some ⟨b, 0, none⟩) m cd) rfl rfl (fun X _ => by simp [go_sem]) ?_
              simp only [List.getElem_toArray, List.getElem_cons_zero, List.getElem_cons_succ, Act.put, List.setIfInBounds_toArray, List.set_cons_zero, List.set_cons_succ]
              refine wpX_f _ (.int .i64 (q : Int)) rfl rfl (fun X _ => by simp [go_sem]) ?_
              simp only [List.getElem_toArray, List.getElem_cons_zero, List.getElem_cons_succ, Act.put, List.setIfInBounds_toArray, List.set_cons_zero, List.set_cons_succ]
              refine wpX_f _ (.pointer (some ⟨b, q * 4, none⟩)) rfl rfl (fun X _ => by simp [go_sem, q1]) ?_
              simp only [List.getElem_toArray, List.getElem_cons_zero, List.getElem_cons_succ, Act.put, List.setIfInBounds_toArray, List.set_cons_zero, List.set_cons_succ]
              refine wpX_f _ (.pointer (some ⟨b, q * 4 + 2, none⟩)) rfl rfl (fun X _ => by simp [go_sem]) ?_
              simp only [List.getElem_toArray, List.getElem_cons_zero, List.getElem_cons_succ, Act.put, List.setIfInBounds_toArray, List.set_cons_zero, List.set_cons_succ]
              refine wpX_f _ (.int .u64 ((xs q).toNat : Int)) rfl rfl (fun X hX => by simp [go_sem, show X.cell? ⟨b, q * 4 + 2, none⟩ = _ from hX.2]) ?_
              simp only [List.getElem_toArray, List.getElem_cons_zero, List.getElem_cons_succ, Act.put, List.setIfInBounds_toArray, List.set_cons_zero, List.set_cons_succ]
              refine wpX_call _ rfl rfl (by simp [go_sem]) (kk.out.mono ?_)
              rintro e w3 ⟨rfl, hW3, hB3⟩
              refine ⟨_, rfl, _, fun _ h => h, ⟨(hB3.cell (p := ⟨b, q * 4 + 1, none⟩) hbc).trans p1, (hB3.cell (p := ⟨b, q * 4 + 2, none⟩) hbc).trans p2⟩, ?_⟩
              simp only [List.getElem_toArray, List.getElem_cons_zero, List.getElem_cons_succ, Act.put, List.setIfInBounds_toArray, List.set_cons_zero, List.set_cons_succ]
              refine wpX_nil ?_
              have hW4 : Hid (Wr c (sz + 3) (sumN ls (q + 1)) (encF ls bs (q + 1)) false w3) := hideit (hW3.congr fun j hj => by
                simp only [encF]
                unfold catF
                by_cases h1 : j < sumN ls q
                · rw [if_pos h1, if_pos h1]
                · rw [if_neg h1, if_neg h1]
                  exact (g6.out _ (by omega)).symm)
              have ho4 : Hid (∀ j, j < m → ∃ b', (some ⟨b, 0, none⟩ : Option Addr) = some ⟨b', 0, none⟩ ∧ b' < c ∧ OpAt b' (j * 4) (ks j) (ns j) (xs j) (us j) w3) := fun j hj => by
                obtain ⟨b', h1, h2, h3⟩ := ho.out j hj
                exact ⟨b', h1, h2, (hB3.cell (p := ⟨b', _, none⟩) h2).trans h3.1, (hB3.cell (p := ⟨b', _, none⟩) h2).trans h3.2.1, (hB3.cell (p := ⟨b', _, none⟩) h2).trans h3.2.2.1, (hB3.cell (p := ⟨b', _, none⟩) h2).trans h3.2.2.2⟩
              have hE4 := hideit (Below.trans (Ext.draw hEw.out) (Below.mono hB3 hcw.out))
              clear hC0 p1 p2 kk hW3 hB3 hW ho hEw g6
              go_wp2
              exact ⟨⟨q + 1, by omega, by go_num, hW4.out, ho4.out, hE4.out⟩, by simp [intOf]; omega⟩
            · rw [g1] at p0
              obtain ⟨ou, cu, hu⟩ := g2.form
              rw [hu] at p3 g2
              have kk := hideit (wbytes_okP c (sz + 3) (sumN ls q) (ls q) (encF ls bs q) (bs q) false (.slice ou (ls q) cu) wr hW.out (by omega) (by omega) (g2.ext hEw.out))
              clear p1 p2 g1
              go_wp2_with (go_at_call 23; refine kk.out.mono ?_; rintro e w3 ⟨rfl, hW3, hB3⟩; replace hW3 := hideit hW3; replace hB3 := hideit hB3; clear kk)
              have ho4 : Hid (∀ j, j < m → ∃ b', (some ⟨b, 0, none⟩ : Option Addr) = some ⟨b', 0, none⟩ ∧ b' < c ∧ OpAt b' (j * 4) (ks j) (ns j) (xs j) (us j) w3) := fun j hj => by
                obtain ⟨b', h1, h2, h3⟩ := ho.out j hj
                exact ⟨b', h1, h2, (hB3.out.cell (p := ⟨b', _, none⟩) h2).trans h3.1, (hB3.out.cell (p := ⟨b', _, none⟩) h2).trans h3.2.1, (hB3.out.cell (p := ⟨b', _, none⟩) h2).trans h3.2.2.1, (hB3.out.cell (p := ⟨b', _, none⟩) h2).trans h3.2.2.2⟩
              exact ⟨⟨q + 1, by omega, by go_num, hW3.out, ho4.out, Below.trans hEw.out (Below.mono hB3.out hcw.out)⟩, by simp [intOf]; omega⟩
          · obtain rfl : q = m := by omega
            have q1 : ¬ (q : Int) < (q : Int) := by omega
            have hWs := hW.out
            rw [← hsz.out] at hWs
            have hcl := hWs.lt
            replace hWs := hideit hWs
            have h3i : ((sz + 3 : Nat) : Int) = (sz : Int) + 3 := by omega
            clear hW
            go_upto_region 27 with (first
              | (go_at_call 24; refine (wdone_ok c (sz + 3) sz (encF ls bs q) _ hWs.out (by omega) (by omega)).mono ?_; rintro e w4 ⟨g, rfl, _, hR4, hE4⟩; replace hR4 := hideit (row_bv2 hR4); replace hE4 := hideit hE4)
              | (go_at_call 9; refine (newr_any _ (sz + 3) _ _ hR4.out (by omega)).mono ?_; rintro e w5 ⟨r, rfl, hr5, hR5, hE5⟩; replace hr5 := hideit hr5; replace hR5 := hideit hR5; have hc4 := hideit (Nat.lt_of_lt_of_le hcl (Below.size hE4.out)); replace hE5 := hideit (Ext.trans hE4.out hE5); clear hE4 hR4))
            have ho5 : Hid (∀ j, j < q → ∃ b', od = some ⟨b', 0, none⟩ ∧ b' < c ∧ OpAt b' (j * 4) (ks j) (ns j) (xs j) (us j) w5) := fun j hj => by
              obtain ⟨b', h1, h2, h3⟩ := ho.out j hj
              exact ⟨b', h1, h2, opAt_ext h3 hE5.out⟩
            have hE6 := hideit (Ext.trans hEw.out hE5.out)
            have hF : Hid (∀ k j, k < q → j < ls k → padF (encF ls bs q) sz (sumN ls k + j) = bs k j) := fun k j hk hj => by
              have h9 := sumN_le ls (k + 1) q (by omega)
              simp only [sumN] at h9
              unfold padF
              rw [if_pos (by rw [hsz.out]; omega)]
              exact encF_at ls bs q k j hk hj
            have hF3 : Hid (∀ j, j < 3 → padF (encF ls bs q) sz (sz + j) = 0#8) := fun j hj => by
              unfold padF
              rw [if_neg (by omega)]
            obtain ⟨F, hFF⟩ : ∃ F, F = padF (encF ls bs q) sz := ⟨_, rfl⟩
            rw [← hFF] at hF hF3 hR5
            obtain ⟨lo, hlo⟩ : ∃ lo, lo = w4.heap.size := ⟨_, rfl⟩
            rw [← hlo] at hr5 hR5 hc4
            have hbr : Hid (∀ b', b' < c → b' < r) := fun b' h => by have := hc4.out; have := hr5.out; omega
            have hwr : Hid (w.heap.size ≤ r) := by show _ ≤ _; have := hc4.out; have := hr5.out; have := hcw.out; omega
            clear hFF hlo ho hEw hE5 hWs hcl
            go_wp2
            go_loopw [12] (fun i X => ∃ p : Nat, p ≤ q ∧ i = .int .i64 p ∧ Rd lo r (sz + 3 - sumN ls p) (shF F (sumN ls p)) false X ∧ (∀ j, j < q → ∃ b', od = some ⟨b', 0, none⟩ ∧ b' < c ∧ OpAt b' (j * 4) (ks j) (ns j) (xs j) (us j) X) ∧ Ext w X) (fun i _ => q - (intOf i).toNat)
            case atStart => exact ⟨0, Nat.zero_le _, rfl, by
              have e1 : shF F (sumN ls 0) = F := by funext j; unfold shF; simp only [sumN]; rw [Nat.zero_add]
              rw [e1]
              exact hR5.out, ho5.out, hE6.out⟩
            case round =>
              clear hR5 ho5 hE6
              obtain ⟨p, hp, rfl, hR, ho, hEw⟩ := hrel
              replace hR := hideit hR
              replace ho := hideit ho
              replace hEw := hideit hEw
              by_cases hlt3 : p < q
              · have p0' : (0 : Int) ≤ (p : Int) := by omega
                have r1 : (p : Int) < (q : Int) := by omega
                obtain ⟨b, rfl, hbc, hop⟩ := ho.out p hlt3
                have hg := hgood.out p hlt3
                have hsz2 : sumN ls p + ls p ≤ sz := by
                  have h9 := sumN_le ls (p + 1) q (by omega)
                  simp only [sumN] at h9
                  rw [hsz.out]
                  exact h9
                have hblk : b < wr.drew.heap.size := World.block_lt_of_cell? wr _ hop.1
                have hbne : b ≠ r := Nat.ne_of_lt (hbr.out b hbc)
                obtain ⟨p0, p1, p2, p3⟩ := hop
                rcases hg with ⟨g1, g2, g3, g4, g5, g6⟩ | ⟨g1, g2, g3⟩
                · rw [g1] at p0
                  rw [g2] at p1
                  have kk := ruint_ok lo r (sz + 3 - sumN ls p) (ls p) (shF F (sumN ls p)) wr.drew (hR.out.ext (Ext.refl wr).draw) (by omega) g3 g4
                  rw [le_byN (shF F (sumN ls p)) (xs p) (ls p) g3 (fun j hj => by unfold shF; rw [hF.out p j hlt3 hj, g6 j hj]) g5, shF_three, Nat.sub_sub] at kk
                  replace kk := hideit kk
                  clear g1 g2 g3 g5 g6 p3
                  go_upto_region 30 with (fail)
                  obtain ⟨lq, hlq⟩ : ∃ lq : Int, lq = ((ls p : Nat) : Int) := ⟨_, rfl⟩
                  rw [← hlq] at p1 kk
                  have hC0 : (fun X : World => X.cell? ⟨b, p * 4, none⟩ = some (.int .i64 1) ∧ X.cell? ⟨b, p * 4 + 1, none⟩ = some (.int .i64 lq) ∧ X.cell? ⟨b, p * 4 + 2, none⟩ = some (.int .u64 ((xs p).toNat : Int))) wr.drew := ⟨p0, p1, p2⟩
                  clear hlq
                  refine wp_region_lad (fun X : World => X.cell? ⟨b, p * 4, none⟩ = some (.int .i64 1) ∧ X.cell? ⟨b, p * 4 + 1, none⟩ = some (.int .i64 lq) ∧ X.cell? ⟨b, p * 4 + 2, none⟩ = some (.int .u64 ((xs p).toNat : Int))) [(false, 0), (false, 1), (false, 2), (false, 3), (false, 4), (false, 5), (false, 6), (false, 7), (false, 8), (false, 9), (false, 10), (false, 11), (false, 12), (false, 14), (false, 15), (false, 16), (false, 17), (false, 18), (true, 13), (false, 19), (false, 20), (false, 21), (false, 22), (false, 23), (false, 24), (false, 25), (false, 26), (false, 27), (false, 28), (false, 29), (false, 30), (false, 31), (false, 32), (false, 33), (false, 34), (false, 35), (false, 36), (false, 37), (false, 38), (false, 39), (false, 40), (false, 41), (false, 42), (false, 43), (false, 44), (false, 45), (false, 46)] (by kernel_rfl) (by kernel_rfl) (by decide +kernel) (by decide +kernel) (by decide +kernel) (by decide +kernel) hC0 ?_
                  refine wpX_f _ (.slice (some ⟨b, 0, none⟩) q cd) rfl rfl (fun X _ => by simp [go_sem]) ?_
                  simp only [List.getElem_toArray, List.getElem_cons_zero, Act.put, List.setIfInBounds_toArray, List.set_cons_zero, List.set_cons_succ]
                  refine wpX_f _ (.int .i64 (p : Int)) rfl rfl (fun X _ => by simp [go_sem]) ?_
                  simp only [List.getElem_toArray, List.getElem_cons_zero, List.getElem_cons_succ, Act.put, List.setIfInBounds_toArray, List.set_cons_zero, List.set_cons_succ]
                  refine wpX_f _ (.pointer (some ⟨b, p * 4, none⟩)) rfl rfl (fun X _ => by simp [go_sem, r1]) ?_
                  simp only [List.getElem_toArray, List.getElem_cons_zero, List.getElem_cons_succ, Act.put, List.setIfInBounds_toArray, List.set_cons_zero, List.set_cons_succ]
                  refine wpX_f _ (.pointer (some ⟨b, p * 4, none⟩)) rfl rfl (fun X _ => by simp [go_sem]) ?_
                  simp only [List.getElem_toArray, List.getElem_cons_zero, List.getElem_cons_succ, Act.put, List.setIfInBounds_toArray, List.set_cons_zero, List.set_cons_succ]
                  refine wpX_f _ (.int .i64 1) rfl rfl (fun X hX => by simp [go_sem, show X.cell? ⟨b, p * 4, none⟩ = _ from hX.1]) ?_
                  simp only [List.getElem_toArray, List.getElem_cons_zero, List.getElem_cons_succ, Act.put, List.setIfInBounds_toArray, List.set_cons_zero, List.set_cons_succ]
                  refine wpX_f _ (.bool true) rfl rfl (fun X _ => by simp [go_sem]) ?_
                  simp only [List.getElem_toArray, List.getElem_cons_zero, List.getElem_cons_succ, Act.put, List.setIfInBounds_toArray, List.set_cons_zero, List.set_cons_succ]
                  refine wpX_f _ (.bool true) rfl rfl (fun X _ => by simp [go_sem]) ?_
                  simp only [List.getElem_toArray, List.getElem_cons_zero, List.getElem_cons_succ, Act.put, List.setIfInBounds_toArray, List.set_cons_zero, List.set_cons_succ]
                  refine wpX_f _ (.pointer (some ⟨r, 0, none⟩)) rfl rfl (fun X _ => by simp [go_sem]) ?_
                  simp only [List.getElem_toArray, List.getElem_cons_zero, List.getElem_cons_succ, Act.put, List.setIfInBounds_toArray, List.set_cons_zero, List.set_cons_succ]
                  refine wpX_f _ (.slice (some ⟨b, 0, none⟩) q cd) rfl rfl (fun X _ => by simp [go_sem]) ?_
                  simp only [List.getElem_toArray, List.getElem_cons_zero, List.getElem_cons_succ, Act.put, List.setIfInBounds_toArray, List.set_cons_zero, List.set_cons_succ]
                  refine wpX_f _ (.int .i64 (p : Int)) rfl rfl (fun X _ => by simp [go_sem]) ?_
                  simp only [List.getElem_toArray, List.getElem_cons_zero, List.getElem_cons_succ, Act.put, List.setIfInBounds_toArray, List.set_cons_zero, List.set_cons_succ]
                  refine wpX_f _ (.pointer (some ⟨b, p * 4, none⟩)) rfl rfl (fun X _ => by simp [go_sem, r1]) ?_
                  simp only [List.getElem_toArray, List.getElem_cons_zero, List.getElem_cons_succ, Act.put, List.setIfInBounds_toArray, List.set_cons_zero, List.set_cons_succ]
                  refine wpX_f _ (.pointer (some ⟨b, p * 4 + 1, none⟩)) rfl rfl (fun X _ => by simp [go_sem]) ?_
                  simp only [List.getElem_toArray, List.getElem_cons_zero, List.getElem_cons_succ, Act.put, List.setIfInBounds_toArray, List.set_cons_zero, List.set_cons_succ]
                  refine wpX_f _ (.int .i64 lq) rfl rfl (fun X hX => by simp [go_sem, show X.cell? ⟨b, p * 4 + 1, none⟩ = _ from hX.2.1]) ?_
                  simp only [List.getElem_toArray, List.getElem_cons_zero, List.getElem_cons_succ, Act.put, List.setIfInBounds_toArray, List.set_cons_zero, List.set_cons_succ]
                  refine wpX_f _ (.slice (some ⟨b, 0, none⟩) q cd) rfl rfl (fun X _ => by simp [go_sem]) ?_
                  simp only [List.getElem_toArray, List.getElem_cons_zero, List.getElem_cons_succ, Act.put, List.setIfInBounds_toArray, List.set_cons_zero, List.set_cons_succ]
                  refine wpX_f _ (.int .i64 (p : Int)) rfl rfl (fun X _ => by simp [go_sem]) ?_
                  simp only [List.getElem_toArray, List.getElem_cons_zero, List.getElem_cons_succ, Act.put, List.setIfInBounds_toArray, List.set_cons_zero, List.set_cons_succ]
                  refine wpX_f _ (.pointer (some ⟨b, p * 4, none⟩)) rfl rfl (fun X _ => by simp [go_sem, r1]) ?_
                  simp only [List.getElem_toArray, List.getElem_cons_zero, List.getElem_cons_succ, Act.put, List.setIfInBounds_toArray, List.set_cons_zero, List.set_cons_succ]
                  refine wpX_f _ (.pointer (some ⟨b, p * 4 + 2, none⟩)) rfl rfl (fun X _ => by simp [go_sem]) ?_
                  simp only [List.getElem_toArray, List.getElem_cons_zero, List.getElem_cons_succ, Act.put, List.setIfInBounds_toArray, List.set_cons_zero, List.set_cons_succ]
                  refine wpX_f _ (.int .u64 ((xs p).toNat : Int)) rfl rfl (fun X hX => by simp [go_sem, show X.cell? ⟨b, p * 4 + 2, none⟩ = _ from hX.2.2]) ?_
                  simp only [List.getElem_toArray, List.getElem_cons_zero, List.getElem_cons_succ, Act.put, List.setIfInBounds_toArray, List.set_cons_zero, List.set_cons_succ]
                  refine wpX_call _ rfl rfl (by simp [go_sem]) (kk.out.mono ?_)
                  rintro e w6 ⟨rfl, hR6, hB6⟩
                  refine ⟨_, rfl, _, fun _ h => h, ⟨(hB6.cell ⟨b, p * 4, none⟩ hblk hbne).trans p0, (hB6.cell ⟨b, p * 4 + 1, none⟩ hblk hbne).trans p1, (hB6.cell ⟨b, p * 4 + 2, none⟩ hblk hbne).trans p2⟩, ?_⟩
                  simp only [List.getElem_toArray, List.getElem_cons_zero, List.getElem_cons_succ, Act.put, List.setIfInBounds_toArray, List.set_cons_zero, List.set_cons_succ]
                  refine wpX_f _ (.bool false) rfl rfl (fun X _ => by simp [go_sem]) ?_
                  simp only [List.getElem_toArray, List.getElem_cons_zero, List.getElem_cons_succ, Act.put, List.setIfInBounds_toArray, List.set_cons_zero, List.set_cons_succ]
                  refine wpX_f _ (.bool false) rfl rfl (fun X _ => by simp [go_sem]) ?_
                  simp only [List.getElem_toArray, List.getElem_cons_zero, List.getElem_cons_succ, Act.put, List.setIfInBounds_toArray, List.set_cons_zero, List.set_cons_succ]
                  refine wpX_f _ (.bool false) rfl rfl (fun X _ => by simp [go_sem]) ?_
                  simp only [List.getElem_toArray, List.getElem_cons_zero, List.getElem_cons_succ, Act.put, List.setIfInBounds_toArray, List.set_cons_zero, List.set_cons_succ]
                  refine wpX_f _ (.slice (some ⟨b, 0, none⟩) q cd) rfl rfl (fun X _ => by simp [go_sem]) ?_
                  simp only [List.getElem_toArray, List.getElem_cons_zero, List.getElem_cons_succ, Act.put, List.setIfInBounds_toArray, List.set_cons_zero, List.set_cons_succ]
                  refine wpX_f _ (.int .i64 (p : Int)) rfl rfl (fun X _ => by simp [go_sem]) ?_
                  simp only [List.getElem_toArray, List.getElem_cons_zero, List.getElem_cons_succ, Act.put, List.setIfInBounds_toArray, List.set_cons_zero, List.set_cons_succ]
                  refine wpX_f _ (.pointer (some ⟨b, p * 4, none⟩)) rfl rfl (fun X _ => by simp [go_sem, r1]) ?_
                  simp only [List.getElem_toArray, List.getElem_cons_zero, List.getElem_cons_succ, Act.put, List.setIfInBounds_toArray, List.set_cons_zero, List.set_cons_succ]
                  refine wpX_f _ (.pointer (some ⟨b, p * 4, none⟩)) rfl rfl (fun X _ => by simp [go_sem]) ?_
                  simp only [List.getElem_toArray, List.getElem_cons_zero, List.getElem_cons_succ, Act.put, List.setIfInBounds_toArray, List.set_cons_zero, List.set_cons_succ]
                  refine wpX_f _ (.int .i64 1) rfl rfl (fun X hX => by simp [go_sem, show X.cell? ⟨b, p * 4, none⟩ = _ from hX.1]) ?_
                  simp only [List.getElem_toArray, List.getElem_cons_zero, List.getElem_cons_succ, Act.put, List.setIfInBounds_toArray, List.set_cons_zero, List.set_cons_succ]
                  refine wpX_f _ (.bool false) rfl rfl (fun X _ => by simp [go_sem]) ?_
                  simp only [List.getElem_toArray, List.getElem_cons_zero, List.getElem_cons_succ, Act.put, List.setIfInBounds_toArray, List.set_cons_zero, List.set_cons_succ]
                  refine wpX_f _ (.bool false) rfl rfl (fun X _ => by simp [go_sem]) ?_
                  simp only [List.getElem_toArray, List.getElem_cons_zero, List.getElem_cons_succ, Act.put, List.setIfInBounds_toArray, List.set_cons_zero, List.set_cons_succ]
                  refine wpX_fskip _ rfl rfl ?_
                  simp only [List.getElem_toArray, List.getElem_cons_zero, List.getElem_cons_succ, Act.put, List.setIfInBounds_toArray, List.set_cons_zero, List.set_cons_succ]
                  refine wpX_fskip _ rfl rfl ?_
                  simp only [List.getElem_toArray, List.getElem_cons_zero, List.getElem_cons_succ, Act.put, List.setIfInBounds_toArray, List.set_cons_zero, List.set_cons_succ]
                  refine wpX_fskip _ rfl rfl ?_
                  simp only [List.getElem_toArray, List.getElem_cons_zero, List.getElem_cons_succ, Act.put, List.setIfInBounds_toArray, List.set_cons_zero, List.set_cons_succ]
                  refine wpX_fskip _ rfl rfl ?_
                  simp only [List.getElem_toArray, List.getElem_cons_zero, List.getElem_cons_succ, Act.put, List.setIfInBounds_toArray, List.set_cons_zero, List.set_cons_succ]
                  refine wpX_fskip _ rfl rfl ?_
                  simp only [List.getElem_toArray, List.getElem_cons_zero, List.getElem_cons_succ, Act.put, List.setIfInBounds_toArray, List.set_cons_zero, List.set_cons_succ]
                  refine wpX_fskip _ rfl rfl ?_
                  simp only [List.getElem_toArray, List.getElem_cons_zero, List.getElem_cons_succ, Act.put, List.setIfInBounds_toArray, List.set_cons_zero, List.set_cons_succ]
                  refine wpX_fskip _ rfl rfl ?_
                  simp only [List.getElem_toArray, List.getElem_cons_zero, List.getElem_cons_succ, Act.put, List.setIfInBounds_toArray, List.set_cons_zero, List.set_cons_succ]
                  refine wpX_fskip _ rfl rfl ?_
                  simp only [List.getElem_toArray, List.getElem_cons_zero, List.getElem_cons_succ, Act.put, List.setIfInBounds_toArray, List.set_cons_zero, List.set_cons_succ]
                  refine wpX_fskip _ rfl rfl ?_
                  simp only [List.getElem_toArray, List.getElem_cons_zero, List.getElem_cons_succ, Act.put, List.setIfInBounds_toArray, List.set_cons_zero, List.set_cons_succ]
                  refine wpX_fskip _ rfl rfl ?_
                  simp only [List.getElem_toArray, List.getElem_cons_zero, List.getElem_cons_succ, Act.put, List.setIfInBounds_toArray, List.set_cons_zero, List.set_cons_succ]
                  refine wpX_fskip _ rfl rfl ?_
                  simp only [List.getElem_toArray, List.getElem_cons_zero, List.getElem_cons_succ, Act.put, List.setIfInBounds_toArray, List.set_cons_zero, List.set_cons_succ]
                  refine wpX_fskip _ rfl rfl ?_
                  simp only [List.getElem_toArray, List.getElem_cons_zero, List.getElem_cons_succ, Act.put, List.setIfInBounds_toArray, List.set_cons_zero, List.set_cons_succ]
                  refine wpX_fskip _ rfl rfl ?_
                  simp only [List.getElem_toArray, List.getElem_cons_zero, List.getElem_cons_succ, Act.put, List.setIfInBounds_toArray, List.set_cons_zero, List.set_cons_succ]
                  refine wpX_fskip _ rfl rfl ?_
                  simp only [List.getElem_toArray, List.getElem_cons_zero, List.getElem_cons_succ, Act.put, List.setIfInBounds_toArray, List.set_cons_zero, List.set_cons_succ]
                  refine wpX_fskip _ rfl rfl ?_
                  simp only [List.getElem_toArray, List.getElem_cons_zero, List.getElem_cons_succ, Act.put, List.setIfInBounds_toArray, List.set_cons_zero, List.set_cons_succ]
                  refine wpX_fskip _ rfl rfl ?_
                  simp only [List.getElem_toArray, List.getElem_cons_zero, List.getElem_cons_succ, Act.put, List.setIfInBounds_toArray, List.set_cons_zero, List.set_cons_succ]
                  refine wpX_f _ (.bool false) rfl rfl (fun X _ => by simp [go_sem]) ?_
                  simp only [List.getElem_toArray, List.getElem_cons_zero, List.getElem_cons_succ, Act.put, List.setIfInBounds_toArray, List.set_cons_zero, List.set_cons_succ]
                  refine wpX_f _ (.bool false) rfl rfl (fun X _ => by simp [go_sem]) ?_
                  simp only [List.getElem_toArray, List.getElem_cons_zero, List.getElem_cons_succ, Act.put, List.setIfInBounds_toArray, List.set_cons_zero, List.set_cons_succ]
                  refine wpX_nil ?_
                  have ho6 : Hid (∀ j, j < q → ∃ b', (some ⟨b, 0, none⟩ : Option Addr) = some ⟨b', 0, none⟩ ∧ b' < c ∧ OpAt b' (j * 4) (ks j) (ns j) (xs j) (us j) w6) := fun j hj => by
                    obtain ⟨b', h1, h2, h3⟩ := ho.out j hj
                    have k1 : b' < wr.drew.heap.size := World.block_lt_of_cell? wr _ h3.1
                    have k2 : b' ≠ r := Nat.ne_of_lt (hbr.out b' h2)
                    exact ⟨b', h1, h2, (hB6.cell ⟨b', _, none⟩ k1 k2).trans h3.1, (hB6.cell ⟨b', _, none⟩ k1 k2).trans h3.2.1, (hB6.cell ⟨b', _, none⟩ k1 k2).trans h3.2.2.1, (hB6.cell ⟨b', _, none⟩ k1 k2).trans h3.2.2.2⟩
                  have hE6 := hideit (Ext.but (Ext.draw hEw.out) hB6 hwr.out)
                  replace hR6 := hideit hR6
                  clear hC0 p0 p1 p2 kk hB6 hR ho hEw hblk
                  go_wp2
                  exact ⟨⟨p + 1, by omega, by go_num, hR6.out, ho6.out, hE6.out⟩, by simp [intOf]; omega⟩
                · rw [g1] at p0
                  obtain ⟨ou, cu, hu⟩ := g2.form
                  rw [hu] at p3 g2
                  have hbs : ∀ j, j < ls p → shF F (sumN ls p) j = bs p j := fun j hj => by unfold shF; exact hF.out p j hlt3 hj
                  have kk := rbytes_ok lo r (sz + 3 - sumN ls p) (ls p) (shF F (sumN ls p)) wr.drew (hR.out.ext (Ext.refl wr).draw) (by omega) (by omega)
                  rw [shF_three, Nat.sub_sub] at kk
                  replace kk := hideit kk
                  obtain ⟨lp, hlp⟩ : ∃ lp, lp = ls p := ⟨_, rfl⟩
                  obtain ⟨bp, hbp⟩ : ∃ bp, bp = bs p := ⟨_, rfl⟩
                  obtain ⟨str, hstr⟩ : ∃ str, str = bstr lp (fun j => ((bp j).toNat : Int)) := ⟨_, rfl⟩
                  rw [← hlp] at p3
                  rw [← hlp, ← hbp] at g2 hbs
                  have hkk : Hid (Calls Try.prog 14 #[.pointer (some ⟨r, 0, none⟩), .int .i64 (lp : Int)] wr.drew fun e w' => ∃ o5 c5, e = .returned (.slice o5 lp c5) ∧ BV (.slice o5 lp c5) lp bp w' ∧ Rd lo r (sz + 3 - sumN ls (p + 1)) (shF F (sumN ls (p + 1))) false w' ∧ But r wr.drew w') := by
                    rw [hlp]
                    refine kk.out.mono ?_
                    rintro e w' ⟨v5, h1, h2, _, h4, h5⟩
                    have h6 := (h2.congr (g' := yv bp) fun j hj => by simp only [yv]; rw [hbs j (by rw [hlp]; exact hj)]).bv
                    obtain ⟨o5, c5, h7⟩ := h6.form
                    rw [h7] at h1 h6
                    exact ⟨o5, c5, h1, h6, h4, h5⟩
                  have hcP : ∀ X : World, PV (.slice ou lp cu) lp bp X → (convert 22 9 (.slice ou lp cu)).run Try.prog X = .ok (.string str) X := fun X h => by rw [hstr]; exact convP _ _ _ X h
                  have hcV : ∀ (o5 : Option Addr) (c5 : Nat) (X : World), BV (.slice o5 lp c5) lp bp X → (convert 22 9 (.slice o5 lp c5)).run Try.prog X = .ok (.string str) X := fun o5 c5 X h => by rw [hstr]; exact convV _ _ _ X h
                  replace hlp := hideit hlp
                  clear hstr hbp kk hbs g1 p1 p2 hu
                  go_upto_region 30 with (fail)
                  have hC0 : (fun X : World => X.cell? ⟨b, p * 4, none⟩ = some (.int .i64 2) ∧ X.cell? ⟨b, p * 4 + 3, none⟩ = some (.slice ou lp cu) ∧ PV (.slice ou lp cu) lp bp X) wr.drew := ⟨p0, p3, g2.ext (Ext.draw hEw.out)⟩
                  refine wp_region_lad (fun X : World => X.cell? ⟨b, p * 4, none⟩ = some (.int .i64 2) ∧ X.cell? ⟨b, p * 4 + 3, none⟩ = some (.slice ou lp cu) ∧ PV (.slice ou lp cu) lp bp X) [(false, 0), (false, 1), (false, 2), (false, 3), (false, 4), (false, 5), (false, 6), (false, 7), (false, 8), (false, 9), (false, 10), (false, 11), (false, 12), (false, 13), (false, 14), (false, 15), (false, 16), (false, 17), (false, 18), (false, 19), (false, 20), (false, 21), (false, 22), (false, 23), (false, 24), (false, 25), (false, 26), (false, 27), (false, 28), (false, 29), (false, 30), (false, 31), (false, 32), (false, 33), (false, 34), (false, 35), (false, 38), (false, 39), (false, 40), (false, 41), (false, 42), (false, 43), (true, 36), (false, 37), (false, 44), (false, 45), (false, 46)] (by kernel_rfl) (by kernel_rfl) (by decide +kernel) (by decide +kernel) (by decide +kernel) (by decide +kernel) hC0 ?_
                  refine wpX_f _ (.slice (some ⟨b, 0, none⟩) q cd) rfl rfl (fun X _ => by simp [go_sem]) ?_
                  simp only [List.getElem_toArray, List.getElem_cons_zero, Act.put, List.setIfInBounds_toArray, List.set_cons_zero, List.set_cons_succ]
                  refine wpX_f _ (.int .i64 (p : Int)) rfl rfl (fun X _ => by simp [go_sem]) ?_
                  simp only [List.getElem_toArray, List.getElem_cons_zero, List.getElem_cons_succ, Act.put, List.setIfInBounds_toArray, List.set_cons_zero, List.set_cons_succ]
                  refine wpX_f _ (.pointer (some ⟨b, p * 4, none⟩)) rfl rfl (fun X _ => by simp [go_sem, r1]) ?_
                  simp only [List.getElem_toArray, List.getElem_cons_zero, List.getElem_cons_succ, Act.put, List.setIfInBounds_toArray, List.set_cons_zero, List.set_cons_succ]
                  refine wpX_f _ (.pointer (some ⟨b, p * 4, none⟩)) rfl rfl (fun X _ => by simp [go_sem]) ?_
                  simp only [List.getElem_toArray, List.getElem_cons_zero, List.getElem_cons_succ, Act.put, List.setIfInBounds_toArray, List.set_cons_zero, List.set_cons_succ]
                  refine wpX_f _ (.int .i64 2) rfl rfl (fun X hX => by simp [go_sem, show X.cell? ⟨b, p * 4, none⟩ = _ from hX.1]) ?_
                  simp only [List.getElem_toArray, List.getElem_cons_zero, List.getElem_cons_succ, Act.put, List.setIfInBounds_toArray, List.set_cons_zero, List.set_cons_succ]
                  refine wpX_f _ (.bool false) rfl rfl (fun X _ => by simp [go_sem]) ?_
                  simp only [List.getElem_toArray, List.getElem_cons_zero, List.getElem_cons_succ, Act.put, List.setIfInBounds_toArray, List.set_cons_zero, List.set_cons_succ]
                  refine wpX_f _ (.bool false) rfl rfl (fun X _ => by simp [go_sem]) ?_
                  simp only [List.getElem_toArray, List.getElem_cons_zero, List.getElem_cons_succ, Act.put, List.setIfInBounds_toArray, List.set_cons_zero, List.set_cons_succ]
                  refine wpX_fskip _ rfl rfl ?_
                  simp only [List.getElem_toArray, List.getElem_cons_zero, List.getElem_cons_succ, Act.put, List.setIfInBounds_toArray, List.set_cons_zero, List.set_cons_succ]
                  refine wpX_fskip _ rfl rfl ?_
                  simp only [List.getElem_toArray, List.getElem_cons_zero, List.getElem_cons_succ, Act.put, List.setIfInBounds_toArray, List.set_cons_zero, List.set_cons_succ]
                  refine wpX_fskip _ rfl rfl ?_
                  simp only [List.getElem_toArray, List.getElem_cons_zero, List.getElem_cons_succ, Act.put, List.setIfInBounds_toArray, List.set_cons_zero, List.set_cons_succ]
                  refine wpX_fskip _ rfl rfl ?_
                  simp only [List.getElem_toArray, List.getElem_cons_zero, List.getElem_cons_succ, Act.put, List.setIfInBounds_toArray, List.set_cons_zero, List.set_cons_succ]
                  refine wpX_fskip _ rfl rfl ?_
                  simp only [List.getElem_toArray, List.getElem_cons_zero, List.getElem_cons_succ, Act.put, List.setIfInBounds_toArray, List.set_cons_zero, List.set_cons_succ]
                  refine wpX_fskip _ rfl rfl ?_
                  simp only [List.getElem_toArray, List.getElem_cons_zero, List.getElem_cons_succ, Act.put, List.setIfInBounds_toArray, List.set_cons_zero, List.set_cons_succ]
                  refine wpX_fskip _ rfl rfl ?_
                  simp only [List.getElem_toArray, List.getElem_cons_zero, List.getElem_cons_succ, Act.put, List.setIfInBounds_toArray, List.set_cons_zero, List.set_cons_succ]
                  refine wpX_fskip _ rfl rfl ?_
                  simp only [List.getElem_toArray, List.getElem_cons_zero, List.getElem_cons_succ, Act.put, List.setIfInBounds_toArray, List.set_cons_zero, List.set_cons_succ]
                  refine wpX_fskip _ rfl rfl ?_
                  simp only [List.getElem_toArray, List.getElem_cons_zero, List.getElem_cons_succ, Act.put, List.setIfInBounds_toArray, List.set_cons_zero, List.set_cons_succ]
                  refine wpX_fskip _ rfl rfl ?_
                  simp only [List.getElem_toArray, List.getElem_cons_zero, List.getElem_cons_succ, Act.put, List.setIfInBounds_toArray, List.set_cons_zero, List.set_cons_succ]
                  refine wpX_fskip _ rfl rfl ?_
                  simp only [List.getElem_toArray, List.getElem_cons_zero, List.getElem_cons_succ, Act.put, List.setIfInBounds_toArray, List.set_cons_zero, List.set_cons_succ]
                  refine wpX_fskip _ rfl rfl ?_
                  simp only [List.getElem_toArray, List.getElem_cons_zero, List.getElem_cons_succ, Act.put, List.setIfInBounds_toArray, List.set_cons_zero, List.set_cons_succ]
                  refine wpX_fskip _ rfl rfl ?_
                  simp only [List.getElem_toArray, List.getElem_cons_zero, List.getElem_cons_succ, Act.put, List.setIfInBounds_toArray, List.set_cons_zero, List.set_cons_succ]
                  refine wpX_f _ (.bool false) rfl rfl (fun X _ => by simp [go_sem]) ?_
                  simp only [List.getElem_toArray, List.getElem_cons_zero, List.getElem_cons_succ, Act.put, List.setIfInBounds_toArray, List.set_cons_zero, List.set_cons_succ]
                  refine wpX_f _ (.bool false) rfl rfl (fun X _ => by simp [go_sem]) ?_
                  simp only [List.getElem_toArray, List.getElem_cons_zero, List.getElem_cons_succ, Act.put, List.setIfInBounds_toArray, List.set_cons_zero, List.set_cons_succ]
                  refine wpX_f _ (.slice (some ⟨b, 0, none⟩) q cd) rfl rfl (fun X _ => by simp [go_sem]) ?_
                  simp only [List.getElem_toArray, List.getElem_cons_zero, List.getElem_cons_succ, Act.put, List.setIfInBounds_toArray, List.set_cons_zero, List.set_cons_succ]
                  refine wpX_f _ (.int .i64 (p : Int)) rfl rfl (fun X _ => by simp [go_sem]) ?_
                  simp only [List.getElem_toArray, List.getElem_cons_zero, List.getElem_cons_succ, Act.put, List.setIfInBounds_toArray, List.set_cons_zero, List.set_cons_succ]
                  refine wpX_f _ (.pointer (some ⟨b, p * 4, none⟩)) rfl rfl (fun X _ => by simp [go_sem, r1]) ?_
                  simp only [List.getElem_toArray, List.getElem_cons_zero, List.getElem_cons_succ, Act.put, List.setIfInBounds_toArray, List.set_cons_zero, List.set_cons_succ]
                  refine wpX_f _ (.pointer (some ⟨b, p * 4, none⟩)) rfl rfl (fun X _ => by simp [go_sem]) ?_
                  simp only [List.getElem_toArray, List.getElem_cons_zero, List.getElem_cons_succ, Act.put, List.setIfInBounds_toArray, List.set_cons_zero, List.set_cons_succ]
                  refine wpX_f _ (.int .i64 2) rfl rfl (fun X hX => by simp [go_sem, show X.cell? ⟨b, p * 4, none⟩ = _ from hX.1]) ?_
                  simp only [List.getElem_toArray, List.getElem_cons_zero, List.getElem_cons_succ, Act.put, List.setIfInBounds_toArray, List.set_cons_zero, List.set_cons_succ]
                  refine wpX_f _ (.bool true) rfl rfl (fun X _ => by simp [go_sem]) ?_
                  simp only [List.getElem_toArray, List.getElem_cons_zero, List.getElem_cons_succ, Act.put, List.setIfInBounds_toArray, List.set_cons_zero, List.set_cons_succ]
                  refine wpX_f _ (.bool true) rfl rfl (fun X _ => by simp [go_sem]) ?_
                  simp only [List.getElem_toArray, List.getElem_cons_zero, List.getElem_cons_succ, Act.put, List.setIfInBounds_toArray, List.set_cons_zero, List.set_cons_succ]
                  refine wpX_f _ (.pointer (some ⟨r, 0, none⟩)) rfl rfl (fun X _ => by simp [go_sem]) ?_
                  simp only [List.getElem_toArray, List.getElem_cons_zero, List.getElem_cons_succ, Act.put, List.setIfInBounds_toArray, List.set_cons_zero, List.set_cons_succ]
                  refine wpX_f _ (.slice (some ⟨b, 0, none⟩) q cd) rfl rfl (fun X _ => by simp [go_sem]) ?_
                  simp only [List.getElem_toArray, List.getElem_cons_zero, List.getElem_cons_succ, Act.put, List.setIfInBounds_toArray, List.set_cons_zero, List.set_cons_succ]
                  refine wpX_f _ (.int .i64 (p : Int)) rfl rfl (fun X _ => by simp [go_sem]) ?_
                  simp only [List.getElem_toArray, List.getElem_cons_zero, List.getElem_cons_succ, Act.put, List.setIfInBounds_toArray, List.set_cons_zero, List.set_cons_succ]
                  refine wpX_f _ (.pointer (some ⟨b, p * 4, none⟩)) rfl rfl (fun X _ => by simp [go_sem, r1]) ?_
                  simp only [List.getElem_toArray, List.getElem_cons_zero, List.getElem_cons_succ, Act.put, List.setIfInBounds_toArray, List.set_cons_zero, List.set_cons_succ]
                  refine wpX_f _ (.pointer (some ⟨b, p * 4 + 3, none⟩)) rfl rfl (fun X _ => by simp [go_sem]) ?_
                  simp only [List.getElem_toArray, List.getElem_cons_zero, List.getElem_cons_succ, Act.put, List.setIfInBounds_toArray, List.set_cons_zero, List.set_cons_succ]
                  refine wpX_f _ (.slice ou lp cu) rfl rfl (fun X hX => by simp [go_sem, show X.cell? ⟨b, p * 4 + 3, none⟩ = _ from hX.2.1]) ?_
                  simp only [List.getElem_toArray, List.getElem_cons_zero, List.getElem_cons_succ, Act.put, List.setIfInBounds_toArray, List.set_cons_zero, List.set_cons_succ]
                  refine wpX_f _ (.int .i64 (lp : Int)) rfl rfl (fun X _ => by simp [go_sem]) ?_
                  simp only [List.getElem_toArray, List.getElem_cons_zero, List.getElem_cons_succ, Act.put, List.setIfInBounds_toArray, List.set_cons_zero, List.set_cons_succ]
                  refine wpX_f _ (.slice (some ⟨b, 0, none⟩) q cd) rfl rfl (fun X _ => by simp [go_sem]) ?_
                  simp only [List.getElem_toArray, List.getElem_cons_zero, List.getElem_cons_succ, Act.put, List.setIfInBounds_toArray, List.set_cons_zero, List.set_cons_succ]
                  refine wpX_f _ (.int .i64 (p : Int)) rfl rfl (fun X _ => by simp [go_sem]) ?_
                  simp only [List.getElem_toArray, List.getElem_cons_zero, List.getElem_cons_succ, Act.put, List.setIfInBounds_toArray, List.set_cons_zero, List.set_cons_succ]
                  refine wpX_f _ (.pointer (some ⟨b, p * 4, none⟩)) rfl rfl (fun X _ => by simp [go_sem, r1]) ?_
                  simp only [List.getElem_toArray, List.getElem_cons_zero, List.getElem_cons_succ, Act.put, List.setIfInBounds_toArray, List.set_cons_zero, List.set_cons_succ]
                  refine wpX_f _ (.pointer (some ⟨b, p * 4 + 3, none⟩)) rfl rfl (fun X _ => by simp [go_sem]) ?_
                  simp only [List.getElem_toArray, List.getElem_cons_zero, List.getElem_cons_succ, Act.put, List.setIfInBounds_toArray, List.set_cons_zero, List.set_cons_succ]
                  refine wpX_f _ (.slice ou lp cu) rfl rfl (fun X hX => by simp [go_sem, show X.cell? ⟨b, p * 4 + 3, none⟩ = _ from hX.2.1]) ?_
                  simp only [List.getElem_toArray, List.getElem_cons_zero, List.getElem_cons_succ, Act.put, List.setIfInBounds_toArray, List.set_cons_zero, List.set_cons_succ]
                  refine wpX_f _ (.string str) rfl rfl (fun X hX => by simp [go_sem, hcP X hX.2.2]) ?_
                  simp only [List.getElem_toArray, List.getElem_cons_zero, List.getElem_cons_succ, Act.put, List.setIfInBounds_toArray, List.set_cons_zero, List.set_cons_succ]
                  refine wpX_call _ rfl rfl (by simp [go_sem]) (hkk.out.mono ?_)
                  rintro e w6 ⟨o5, c5, rfl, hV6, hR6, hB6⟩
                  refine ⟨_, rfl, (fun X : World => (X.cell? ⟨b, p * 4, none⟩ = some (.int .i64 2) ∧ X.cell? ⟨b, p * 4 + 3, none⟩ = some (.slice ou lp cu) ∧ PV (.slice ou lp cu) lp bp X) ∧ BV (.slice o5 lp c5) lp bp X), fun _ h => h.1, ⟨⟨(hB6.cell ⟨b, p * 4, none⟩ hblk hbne).trans p0, (hB6.cell ⟨b, p * 4 + 3, none⟩ hblk hbne).trans p3, g2.ext (Ext.but (Ext.draw hEw.out) hB6 hwr.out)⟩, hV6⟩, ?_⟩
                  simp only [List.getElem_toArray, List.getElem_cons_zero, List.getElem_cons_succ, Act.put, List.setIfInBounds_toArray, List.set_cons_zero, List.set_cons_succ]
                  refine wpX_f _ (.string str) rfl rfl (fun X hX => by simp [go_sem, hcV o5 c5 X hX.2]) ?_
                  simp only [List.getElem_toArray, List.getElem_cons_zero, List.getElem_cons_succ, Act.put, List.setIfInBounds_toArray, List.set_cons_zero, List.set_cons_succ]
                  refine wpX_f _ (.bool false) rfl rfl (fun X _ => by simp [go_sem]) ?_
                  simp only [List.getElem_toArray, List.getElem_cons_zero, List.getElem_cons_succ, Act.put, List.setIfInBounds_toArray, List.set_cons_zero, List.set_cons_succ]
                  refine wpX_f _ (.bool false) rfl rfl (fun X _ => by simp [go_sem]) ?_
                  simp only [List.getElem_toArray, List.getElem_cons_zero, List.getElem_cons_succ, Act.put, List.setIfInBounds_toArray, List.set_cons_zero, List.set_cons_succ]
                  refine wpX_f _ (.bool false) rfl rfl (fun X _ => by simp [go_sem]) ?_
                  simp only [List.getElem_toArray, List.getElem_cons_zero, List.getElem_cons_succ, Act.put, List.setIfInBounds_toArray, List.set_cons_zero, List.set_cons_succ]
                  refine wpX_nil ?_
                  have ho6 : Hid (∀ j, j < q → ∃ b', (some ⟨b, 0, none⟩ : Option Addr) = some ⟨b', 0, none⟩ ∧ b' < c ∧ OpAt b' (j * 4) (ks j) (ns j) (xs j) (us j) w6) := fun j hj => by
                    obtain ⟨b', h1, h2, h3⟩ := ho.out j hj
                    have k1 : b' < wr.drew.heap.size := World.block_lt_of_cell? wr _ h3.1
                    have k2 : b' ≠ r := Nat.ne_of_lt (hbr.out b' h2)
                    exact ⟨b', h1, h2, (hB6.cell ⟨b', _, none⟩ k1 k2).trans h3.1, (hB6.cell ⟨b', _, none⟩ k1 k2).trans h3.2.1, (hB6.cell ⟨b', _, none⟩ k1 k2).trans h3.2.2.1, (hB6.cell ⟨b', _, none⟩ k1 k2).trans h3.2.2.2⟩
                  have hE6 := hideit (Ext.but (Ext.draw hEw.out) hB6 hwr.out)
                  replace hR6 := hideit hR6
                  clear hC0 p0 p3 hkk hB6 hR ho hEw hblk hcP hcV hV6 g2
                  go_wp2
                  exact ⟨⟨p + 1, by omega, by go_num, hR6.out, ho6.out, hE6.out⟩, by simp [intOf]; omega⟩
              · obtain rfl : p = q := by omega
                have r1 : ¬ (p : Int) < (p : Int) := by omega
                have hRz := hR.out
                rw [← hsz.out, Nat.add_sub_cancel_left] at hRz
                have hz : dnI (false || !zB (shF F sz) 3) = 0 := by
                  rw [show zB (shF F sz) 3 = true from (zB_spec 3).2 (fun i hi => hF3.out i hi)]
                  rfl
                replace hRz := hideit hRz
                clear hR
                go_wp2_with (first
                  | (go_at_call 18; refine (rleft_any _ r 3 _ false _ hRz.out).mono ?_; rintro e w7 ⟨rfl, hww⟩; replace hww := hww.symm; subst hww)
                  | (go_at_call 19; refine (rdone_any _ r 3 _ false _ hRz.out (by omega)).mono ?_; rintro e w7 ⟨rfl, hww⟩; replace hww := hww.symm; subst hww; rw [hz]))
                go_ret
                exact ⟨rfl, hEw.out⟩

set_option maxRecDepth 100000 in
theorem lifted (os : Os) (started : os.Started) (H : Type) (enc : TypeId × Value → H) :
    ReturnsInHanded {} Try.checked os 4 .any (Rows.codecBackSpec.pre6 enc Try.prog Try.f4 Rows.codecBackRow.domain false) (Rows.codecBackSpec.post enc Try.prog Try.f4 false true false false) := by
  refine returnsInHanded_of_change_sized (C := Try.checked) own started (by kernel_rfl) Try.func4
    (ChangeSpec.witness6 (enc := enc) (C := Try.checked) false ⟨#[], #[.slice none 0 0], []⟩ 8 (by kernel_rfl) (by kernel_rfl) (by kernel_rfl) (by kernel_rfl)) ?_
  intro W base args ds gs before hval0 hW hcnd hsz0 _
  have hsz := hsz0
  have hval : ∀ (j : Nat) t v, Try.f4.params[j]? = some t → args[j]? = some v → Value.okWide Try.prog W .any base t v := hval0
  have hW' := hW
  obtain ⟨p, q, hA0, hV, rfl, hfz, hnd⟩ := hW
  have hA : DataW.TrodAll enc Try.prog W 0 (fun _ => true) true Try.f4.params.toList args.toList ds p := hA0
  rw [Try.params4] at hA hval hsz
  obtain ⟨v0, vs0, d0, ds0, p0, q0, hargs, rfl, rfl, h0, r0⟩ := trodAll_cons hA
  obtain ⟨rfl, rfl, rfl⟩ := trodAll_nil r0
  obtain rfl : args = #[v0] := by cases args; simp_all
  obtain ⟨rfl, rfl⟩ := trodVars_none hV
  have k0 := h0
  have lt0 : ∀ x ∈ p0, x.block < W.heap.size := by obtain ⟨m, hm⟩ := k0; exact DataW.trod_lt m _ _ _ hm
  have B0 := oarg (hval 0 23 v0 rfl rfl) h0
  clear hA0 hval0
  refine (walk v0 W  B0).mono fun e W' ⟨he, bel⟩ => ?_
  subst he
  exact ⟨_, rfl, _, _, _, [], _, [], hW', trodAll_mk1 (shut_bool Try.underlying4 _), (trodAll_cons_mk (Below.trod laidOut (by kernel_rfl) (of_decide_eq_true (by kernel_rfl)) k0 bel lt0) trodAll_mk0), rfl, bel.frame _, fun h => by cases h⟩

theorem over : Rows.codecBackRow.holds Try.pinned (OpenSpec.ofChange Rows.codecBackSpec) :=
  OpenClaim.holds_of_wide 4 Try.f4 rfl rfl rfl rfl rfl rfl rfl ⟨rfl, rfl, rfl, rfl, rfl⟩ rfl rfl rfl rfl rfl (by kernel_rfl) Try.func4 (by kernel_rfl)
    (of_decide_eq_true (by kernel_rfl)) (by unfold Func.isWrapper; first | (rw [if_pos (by decide +kernel)]; kernel_rfl) | (rw [if_neg (by decide +kernel)]; exact ⟨rfl, rfl⟩))
    (fun os started H enc _ => lifted os started H enc)
end Go.Proofs.Ytboncdlihgpepaa.codecBack
namespace Go.Proofs.Ytboncdlihgpepaa
theorem codecBack_holds : Rows.CodecBackSaid := codecBack.over
end Go.Proofs.Ytboncdlihgpepaa
