/-
  A transaction's blocks: the walk. A disk in memory: what is sure, a map of unsure writes, the power; which blocks are its own, and what stays when others are written.
-/
import Derived.Test.YtiakkclabgelfaaDoorQc1
import Derived.Test.YtiakkclabgelfaaDoorQc25
import Derived.Test.YtiakkclabgelfaaDoorQc17
import Derived.Test.YtiakkclabgelfaaDoorQc22
import Derived.Test.YtiakkclabgelfaaDoorQc20
import Derived.Test.YtiakkclabgelfaaDoorQc12
import Derived.Maps.AppendAt
namespace Go.Proofs.YtiakkclabgelfaaDoor
set_option maxRecDepth 20000
open Go.RowKit Go.BigFrame
theorem exec_app {P : Program} {o : Oper} {a : Act} {w w' : World} {t : TypeId} {v u v' : Value} (sl x : Operand) (ho : o.op = .call { callee := .builtin .append, args := #[sl, x], argTypes := #[t, t] }) (hs : a.eval sl = v) (hx : a.eval x = u)
    (hr : (Builtin.append_ #[t, t] o.type #[v, u]).run P w = .ok v' w') : (execOp a.eval o).run P w = .ok (.value v') w' := by
  simp [execOp, ho, resolve, invoke, builtin, hs, hx, hr, Result.andThen]
theorem own_one (w : World) (B : Nat) (u : Value) (hB : B ≤ w.heap.size) : OwnB B 39 (.slice (some ⟨w.heap.size, 0, none⟩) 1 1) 1 (fun _ => u) (w.alloc (.cells #[u] 39)) :=
  ⟨by rw [row_length, Nat.mul_one], .inr ⟨w.heap.size, 1, #[u], rfl, hB, by
    show (w.heap.push (.cells #[u] 39))[w.heap.size]? = _
    simp, Nat.le_refl _, by unfold maxLen; decide, rfl, rfl⟩⟩
theorem bls_one {w : World} {B z : Nat} {f : Nat → Nat → BitVec 8} (hB : B ≤ w.heap.size) (hzB : B ≤ z) (h : RowAt z 512 (yv (f 0)) w) : BLs B (.slice (some ⟨w.heap.size, 0, none⟩) 1 1) 1 (fun _ => .slice (some ⟨z, 0, none⟩) 512 512) f (w.alloc (.cells #[.slice (some ⟨z, 0, none⟩) 512 512] 39)) := by
  have hX : Ext w (w.alloc (.cells #[.slice (some ⟨z, 0, none⟩) 512 512] 39)) := (Below.refl _ _).alloc (Nat.le_refl _) _
  refine ⟨own_one w B _ hB, fun i hi => ?_, fun i hi z2 hz2 => by
    have e2 : z = z2 := Option.some.inj hz2
    omega⟩
  obtain rfl : i = 0 := by omega
  refine ⟨z, 512, rfl, Nat.le_refl _, (h.lie 512 (Nat.le_refl _)).carry hX, fun e => ?_⟩
  have := h.2.2
  have e : w.heap.size = z := Option.some.inj e
  omega
set_option maxRecDepth 20000 in
set_option maxHeartbeats 4000000 in
theorem blocks_ok (x : BitVec 64) (v0 : Value) (n : Nat) (bs : Nat → Int) (us : Nat → Value) (ls : Nat → Nat) (fs : Nat → Nat → BitVec 8) (w : World) (hL : RLs v0 n bs us ls fs w) (hbi : ∀ i, i < n → okI (bs i)) (hn : n ≤ 4398046511104) (hT : TabC w) (hyes : okT x n bs ls fs) : Calls Tryd.prog 22 #[.int .u64 (x.toNat : Int), v0] w fun e w' => ∃ v us', e = .returned (.tuple #[v, .int .i64 0]) ∧ BLs w.heap.size v (n + 2) us' (trF x (tmK ls fs n) n bs fs) w' ∧ Ext w w' := by
  obtain ⟨⟨_, _, hn64, _, hrb⟩, _⟩ := id hyes
  have hlen : Hid (∀ i, i < n → ls i = 512) := fun i hi => Classical.byContradiction fun h => hyes.2 ⟨i, hi, h⟩
  have hrb' : Hid (∀ j, j < n → okB (bs j)) := fun j hj => (hrb j hj).1
  replace hT := hideit hT
  clear hrb
  obtain ⟨o, cap, rfl⟩ := hL.form
  have kp := hideit (planOf_any x (.slice o n cap) n bs us ls fs w hL hn)
  replace hL := hideit hL
  go_enter Tryd.func22, Tryd.ntmps22
  go_upto_region 1 with (fail)
  refine wp_region_lit ?_
  refine wpList_run rfl (.int .u64 (x.toNat : Int)) (by simp [go_sem]) ?_
  simp only [zp0, zp1, zp2, zp3]
  refine wpList_run rfl (.slice o n cap) (by simp [go_sem]) ?_
  simp only [zp0, zp1, zp2, zp3]
  refine wpList_call rfl (by simp [go_sem]) ((kp.out).mono ?_)
  rintro e w1 ⟨pv, rfl, hO1, hX1⟩
  refine ⟨_, rfl, ?_⟩
  simp only [zp0, zp1, zp2, zp3]
  have hT1 : RowAt w1.heap.size 3 (plV 0#64 0#64 (.slice none 0 0)) (w1.alloc (.cells #[.int .u64 0, .int .u64 0, .slice none 0 0] 76)) := RowAt.newOf w1 3 _ 76 _ fun j hj => by rcases (by omega : j = 0 ∨ j = 1 ∨ j = 2) with rfl | rfl | rfl <;> rfl
  obtain ⟨t, ht⟩ : ∃ t, t = tmK ls fs n := ⟨_, rfl⟩
  rw [← ht]
  replace ht := hideit ht
  have hT2 := hT1.cells (g' := plV x t pv)
  have hX2 : Ext w1 ((w1.alloc (.cells #[.int .u64 0, .int .u64 0, .slice none 0 0] 76)).setCells w1.heap.size 0 (row 3 (plV x t pv))) := below_setCells w1.heap.size (Nat.le_refl _) _ 0 _ ((Below.refl _ _).alloc (Nat.le_refl _) _)
  have hv1 : pv.oneCell' = true := by
    rcases hO1.2 with ⟨e, _⟩ | ⟨g, cc, cur, e, _⟩ <;> rw [e] <;> rfl
  refine wpList_to rfl (.pointer (some ⟨w1.heap.size, 0, none⟩)) (w1.alloc (.cells #[.int .u64 0, .int .u64 0, .slice none 0 0] 76)) (alloc47 rfl) ?_
  simp only [zp0, zp1, zp2, zp3]
  refine wpList_store_mid rfl 76 (.tmp 6) (.tmp 12) rfl w1.heap.size 0 (row 3 (plV x t pv)).toArray rfl rfl (by rw [row_size]; exact hT1.there) (by rw [row_size]; exact info47) (row_one (plV_one hv1)) ?_
  rw [show (row 3 (plV x t pv)).toArray.toList = row 3 (plV x t pv) from rfl]
  have hO2 := (hO1.ext hX2).il hbi
  have hE2 := hideit (Ext.trans hX1 hX2)
  generalize (w1.alloc (.cells #[.int .u64 0, .int .u64 0, .slice none 0 0] 76)).setCells w1.heap.size 0 (row 3 (plV x t pv)) = w2 at *
  generalize w1.heap.size = p6 at *
  replace hT2 := hideit hT2
  clear kp hT1 hX2 hX1 hO1 hv1
  simp only [Act.put]
  have km := may_any x t pv n bs w2 hO2 hn true (by rw [ht.out]; simp [hyes.1])
  rw [plA_row] at km
  replace km := hideit km
  go_upto_region 2 with (fail)
  refine wp_region_lit ?_
  refine wpList_run rfl (.agg (row 3 (plV x t pv)).toArray) (exec_loadR 76 (.tmp 6) rfl p6 0 3 _ rfl hT2.out.range Tryd.underlying76 rfl info47) ?_
  simp only [zp0, zp1, zp2, zp3]
  refine wpList_call rfl (by simp [go_sem]) ((km.out).mono ?_)
  rintro e w3 ⟨rfl, hX3⟩
  refine ⟨_, rfl, ?_⟩
  simp only [zp0, zp1, zp2, zp3]
  have hE3 := hideit (Ext.trans hE2.out hX3)
  have kc := hideit (contains_odd (.slice o n cap) n bs us ls fs w3 (hL.out.ext hE3.out) hn false (by simp [hyes.2]))
  refine wpList_run rfl (.bool false) (by simp [go_sem]) ?_
  simp only [zp0, zp1, zp2, zp3]
  refine wpList_run rfl (.bool false) (by simp [go_sem]) ?_
  simp only [zp0, zp1, zp2, zp3]
  refine wpList_runW rfl (.slice o n cap) (by simp [go_sem]) ?_
  simp only [zp0, zp1, zp2, zp3]
  refine wpList_callW rfl (by simp [go_sem]) ((kc.out).mono ?_)
  rintro e w4 ⟨rfl, hX4⟩
  refine ⟨_, rfl, ?_⟩
  simp only [zp0, zp1, zp2, zp3]
  refine wpList_run rfl (.bool false) (by simp [go_sem]) ?_
  simp only [zp0, zp1, zp2, zp3]
  have hE4 := hideit (Ext.trans hE3.out hX4)
  have hX24 := Ext.trans hX3 hX4
  have hT4 := hideit (hT2.out.carry hX24)
  have kb := plblock_any x t pv n bs w4 (hO2.ext hX24) hn64 hrb'.out
  rw [plA_row] at kb
  replace kb := hideit kb
  clear km kc hX3 hX4 hX24 hE3 hE2 hT2 hO2
  go_upto_region 4 with (fail)
  refine wp_region_lit ?_
  refine wpList_run rfl (.agg (row 3 (plV x t pv)).toArray) (exec_loadR 76 (.tmp 6) rfl p6 0 3 _ rfl hT4.out.range Tryd.underlying76 rfl info47) ?_
  simp only [zp0, zp1, zp2, zp3]
  refine wpList_call rfl (by simp [go_sem]) ((kb.out).mono ?_)
  rintro e w5 ⟨z, rfl, hz5, hR5, hX5⟩
  refine ⟨_, rfl, ?_⟩
  simp only [zp0, zp1, zp2, zp3]
  have hE5 := Ext.trans hE4.out hX5
  have hX6 : Ext w5 (w5.alloc (.cells #[.slice (some ⟨z, 0, none⟩) 512 512] 39)) := (Below.refl _ _).alloc (Nat.le_refl _) _
  have hb6 : Hid (BLs w.heap.size (.slice (some ⟨w5.heap.size, 0, none⟩) 1 1) (0 + 1) (fun _ => .slice (some ⟨z, 0, none⟩) 512 512) (bkF x t n bs fs) (w5.alloc (.cells #[.slice (some ⟨z, 0, none⟩) 512 512] 39))) := bls_one (Below.size hE5) (Nat.le_trans (Below.size hE4.out) hz5) hR5
  have hE6 := hideit (Ext.trans hE5 hX6)
  clear kb hR5 hX5 hE5 hE4 hT4
  refine wpList_to rfl (.slice (some ⟨w5.heap.size, 0, none⟩) 1 1) (w5.alloc (.cells #[.slice (some ⟨z, 0, none⟩) 512 512] 39)) (by simp [go_sem]) ?_
  simp only [zp0, zp1, zp2, zp3]
  refine wpList_run rfl (.slice (some ⟨w5.heap.size, 0, none⟩) 1 1) (by simp [go_sem]) ?_
  simp only [zp0, zp1, zp2, zp3]
  generalize w5.alloc (.cells #[.slice (some ⟨z, 0, none⟩) 512 512] 39) = w6 at *
  generalize w5.heap.size = q5 at *
  clear hX6
  go_wp2
  go_loopw [7, 9, 25] (fun bv _ iv X => ∃ (k : Nat) (us' : Nat → Value), k ≤ n ∧ iv = .int .i64 (k : Int) ∧ BLs w.heap.size bv (k + 1) us' (bkF x t n bs fs) X ∧ Ext w X) (fun _ _ iv _ => 100 - (intOf iv).toNat)
  case atStart => exact ⟨0, _, Nat.zero_le _, rfl, hb6.out, hE6.out⟩
  case round =>
    rename_i bv _ _
    obtain ⟨k, us', hk, rfl, hI, hE⟩ := hrel
    clear hb6 hE6
    by_cases hlt : k < n
    · have k0 : (0 : Int) ≤ (k : Int) := by omega
      have k1 : (k : Int) < (n : Int) := by omega
      obtain ⟨a, rfl, hel⟩ := (hL.out.ext hE).at k hlt
      obtain ⟨hpv, hls⟩ := (hL.out.ext hE).2 k hlt
      rw [hlen.out k hlt] at hpv
      obtain ⟨uo, ucp, hu⟩ := hpv.form
      have hX2 : Ext wr ((wr.alloc (.cells #[.int .i64 0, .slice none 0 0] 47)).setCells wr.heap.size 0 (row 2 (rdC (fun _ => bs k) (fun _ => us k)))) := below_setCells wr.heap.size (Nat.le_refl _) _ 0 _ ((Below.refl _ _).alloc (Nat.le_refl _) _)
      have hTt : RowAt wr.heap.size 2 (rdC (fun _ => 0) (fun _ => .slice none 0 0)) (wr.alloc (.cells #[.int .i64 0, .slice none 0 0] 47)) := RowAt.newOf wr 2 _ 47 _ fun j hj => by rcases (by omega : j = 0 ∨ j = 1) with rfl | rfl <;> rfl
      have hR2 := hTt.cells (g' := rdC (fun _ => bs k) (fun _ => us k))
      go_upto_region 6 with (fail)
      refine wp_region_lit ?_
      refine wpList_run rfl (.bool true) (by simp [go_sem, k1]) ?_
      simp only [zp0, zp1, zp2, zp3]
      go_upto_region 7 with (fail)
      refine wp_region_lit ?_
      refine wpList_run rfl (.pointer (some (a.add (k * 2)))) (by simp [go_sem, k1]) ?_
      simp only [zp0, zp1, zp2, zp3]
      refine wpList_run rfl (.agg (row 2 (rdC (fun _ => bs k) (fun _ => us k))).toArray) (exec_loadL 47 (.tmp 27) rfl (a.add (k * 2)) 2 _ rfl hel Tryd.underlying47 rfl info51) ?_
      simp only [zp0, zp1, zp2, zp3]
      refine wpList_to rfl (.pointer (some ⟨wr.heap.size, 0, none⟩)) (wr.alloc (.cells #[.int .i64 0, .slice none 0 0] 47)) (alloc51 rfl) ?_
      simp only [zp0, zp1, zp2, zp3]
      refine wpList_store_mid rfl 47 (.tmp 9) (.tmp 28) rfl wr.heap.size 0 (row 2 (rdC (fun _ => bs k) (fun _ => us k))).toArray rfl rfl (by rw [row_size]; exact hTt.there) (by rw [row_size]; exact info51) (row_one (rdC_one (by rw [hu]; rfl))) ?_
      rw [show (row 2 (rdC (fun _ => bs k) (fun _ => us k))).toArray.toList = row 2 (rdC (fun _ => bs k) (fun _ => us k)) from rfl]
      have hI2 := hI.ext hX2
      have hE2 := Ext.trans hE hX2
      have hpv2 := hpv.ext hX2
      generalize (wr.alloc (.cells #[.int .i64 0, .slice none 0 0] 47)).setCells wr.heap.size 0 (row 2 (rdC (fun _ => bs k) (fun _ => us k))) = x2 at *
      generalize wr.heap.size = wx at *
      clear hTt hX2 hel hI hE hpv
      simp only [Act.put]
      have f1 : x2.cell? ⟨wx, 1, none⟩ = some (.slice uo 512 ucp) := by rw [← hu]; exact hR2.1 1 (by decide)
      have ks := hideit (standing_any (.slice uo 512 ucp) 512 (fs k) x2 (by rw [← hu]; exact hpv2.bv (by decide)) (by decide))
      clear hpv2 hu hR2
      obtain ⟨ob, cb, rfl⟩ := hI2.form
      go_upto_region 8 with (fail)
      refine wp_region_lit ?_
      refine wpList_run rfl (.slice ob (k + 1) cb) (by simp [go_sem]) ?_
      simp only [zp0, zp1, zp2, zp3]
      refine wpList_run rfl (.pointer (some ⟨wx, 1, none⟩)) (by simp [go_sem]) ?_
      simp only [zp0, zp1, zp2, zp3]
      refine wpList_run rfl (.slice uo 512 ucp) (by simp [go_sem, f1]) ?_
      simp only [zp0, zp1, zp2, zp3]
      refine wpList_call rfl (by simp [go_sem]) ((ks.out).mono ?_)
      rintro e x3 ⟨sv, rfl, hO3, hX3⟩
      refine ⟨_, rfl, ?_⟩
      simp only [zp0, zp1, zp2, zp3]
      obtain ⟨z, cp, rfl, hz, hcp, _, hR3⟩ := hO3.lies (by decide)
      have hI3 := hI2.ext hX3
      have hE3 := Ext.trans hE2 hX3
      obtain ⟨v4, x4, r4, hI4, hB4⟩ := hI3.app (Below.size hE3) (by omega) hcp (Nat.le_trans (Below.size hE2) hz) (hR3.lie 512 (Nat.le_refl _)) (fun e => by
        have := (hI2.own.lt z e).2
        omega) 49
      have hE4 := hideit (below_ext hE3 (Nat.le_refl _) hB4)
      have hI5 : Hid (BLs w.heap.size v4 (k + 1 + 1) (up1 us' (k + 1) (.slice (some ⟨z, 0, none⟩) 512 cp)) (bkF x t n bs fs) x4) := hI4.congr fun i hi => by
        by_cases e : i = k + 1
        · subst e
          rw [up1_same]
          rfl
        · rw [up1_other _ e]
      clear ks hO3 hX3 hR3 hI2 hI3 hI4 hB4 hE2 hE3 f1
      refine wpList_to rfl (.slice (some ⟨x3.heap.size, 0, none⟩) 1 1) (x3.alloc (.cells #[.slice (some ⟨z, 0, none⟩) 512 cp] 39)) (by simp [go_sem]) ?_
      simp only [zp0, zp1, zp2, zp3]
      refine wpList_to rfl v4 x4 (exec_app (.tmp 29) (.tmp 33) rfl rfl rfl r4) ?_
      simp only [zp0, zp1, zp2, zp3]
      refine wpList_run rfl (v4) (by simp [go_sem]) ?_
      simp only [zp0, zp1, zp2, zp3]
      clear r4
      go_wp2
      exact ⟨⟨k + 1, _, by omega, by go_num, hI5.out, hE4.out⟩, by simp [intOf]; omega⟩
    · obtain rfl : k = n := by omega
      have k1 : ¬ (k : Int) < (k : Int) := by omega
      have ksl := seal_any x hI.parts (TabC.ext hT.out hE) (by omega) (by rw [sum512]; omega)
      replace ksl := hideit ksl
      obtain ⟨ob, cb, rfl⟩ := hI.form
      go_upto_region 6 with (fail)
      refine wp_region_lit ?_
      refine wpList_run rfl (.bool false) (by simp [go_sem, k1]) ?_
      simp only [zp0, zp1, zp2, zp3]
      go_upto_region 10 with (fail)
      refine wp_region_lit ?_
      refine wpList_run rfl (.slice ob (k + 1) cb) (by simp [go_sem]) ?_
      simp only [zp0, zp1, zp2, zp3]
      refine wpList_run rfl (.int .u64 (x.toNat : Int)) (by simp [go_sem]) ?_
      simp only [zp0, zp1, zp2, zp3]
      refine wpList_run rfl (.slice ob (k + 1) cb) (by simp [go_sem]) ?_
      simp only [zp0, zp1, zp2, zp3]
      refine wpList_call rfl (by simp [go_sem]) ((ksl.out).mono ?_)
      rintro e x3 ⟨z, rfl, hz, hR3, hX3⟩
      refine ⟨_, rfl, ?_⟩
      simp only [zp0, zp1, zp2, zp3]
      have hI3 := hI.ext hX3
      have hE3 := Ext.trans hE hX3
      obtain ⟨v4, x4, r4, hI4, hB4⟩ := hI3.app (Below.size hE3) (by omega) (Nat.le_refl 512) (Nat.le_trans (Below.size hE) hz) (hR3.lie 512 (Nat.le_refl _)) (fun e => by
        have := (hI.own.lt z e).2
        omega) 49
      have hE4 := hideit (below_ext hE3 (Nat.le_refl _) hB4)
      have hI5 : Hid (BLs w.heap.size v4 (k + 1 + 1) (up1 us' (k + 1) (.slice (some ⟨z, 0, none⟩) 512 512)) (trF x t k bs fs) x4) := hI4.congr fun i hi => by
        unfold trF
        by_cases e : i = k + 1
        · subst e
          rw [up1_same, if_pos rfl]
        · rw [up1_other _ e, if_neg e]
      clear ksl hX3 hR3 hI hI3 hI4 hB4 hE hE3
      refine wpList_to rfl (.slice (some ⟨x3.heap.size, 0, none⟩) 1 1) (x3.alloc (.cells #[.slice (some ⟨z, 0, none⟩) 512 512] 39)) (by simp [go_sem]) ?_
      simp only [zp0, zp1, zp2, zp3]
      refine wpList_to rfl v4 x4 (exec_app (.tmp 36) (.tmp 40) rfl rfl rfl r4) ?_
      simp only [zp0, zp1, zp2, zp3]
      refine wpList_run rfl (v4) (by simp [go_sem]) ?_
      simp only [zp0, zp1, zp2, zp3]
      refine wpList_run rfl (.int .i64 0) (by simp [go_sem]) ?_
      simp only [zp0, zp1, zp2, zp3]
      clear r4
      go_wp2
      go_ret2
      exact ⟨v4, rfl, ⟨_, by rw [← ht.out]; exact hI5.out⟩, hE4.out⟩
end Go.Proofs.YtiakkclabgelfaaDoor
namespace Go.Proofs.YtiakkclabgelfaaDoor
set_option maxRecDepth 20000
open Go.RowKit Go.BigFrame Go.Maps
def IsB (i : Nat) (W : World) : Prop := ∃ cur fz, W.heap[i]? = some (.cells cur 5 fz)
def CB (v : Value) (f : Nat → BitVec 8) (W : World) : Prop := ∃ b cap, v = .slice (some ⟨b, 0, none⟩) 512 cap ∧ 512 ≤ cap ∧ LieAt ⟨b, 0, none⟩ 512 (yv f) W ∧ IsB b W
structure Keeps (F : Nat → Prop) (w w' : World) : Prop where
  os : w'.os = w.os
  tape : w'.tape = w.tape
  output : w'.output = w.output
  size : w.heap.size ≤ w'.heap.size
  block : ∀ i, i < w.heap.size → ¬ F i → w'.heap[i]? = w.heap[i]?
theorem Keeps.refl (F : Nat → Prop) (w : World) : Keeps F w w := ⟨rfl, rfl, rfl, Nat.le_refl _, fun _ _ _ => rfl⟩
theorem Keeps.of_ext {F : Nat → Prop} {w w' : World} (h : Ext w w') : Keeps F w w' := ⟨Below.os h, Below.tape h, Below.output h, Below.size h, fun i hi _ => Below.block h i hi⟩
theorem Keeps.of_grown {F : Nat → Prop} {w w' : World} {row : Option Nat} (h : w.grownBy w' row) (hr : ∀ b, row = some b → F b ∨ w.heap.size ≤ b) : Keeps F w w' :=
  ⟨h.os, h.tape, h.output, h.size, fun i hi hn => h.block i hi fun e => by
    rcases hr i e.symm with h1 | h1
    · exact hn h1
    · omega⟩
theorem Keeps.trans {F F' : Nat → Prop} {a b c : World} (h : Keeps F a b) (k : Keeps F' b c) (hF : ∀ i, F' i → F i ∨ a.heap.size ≤ i) : Keeps F a c :=
  ⟨k.os.trans h.os, k.tape.trans h.tape, k.output.trans h.output, Nat.le_trans h.size k.size, fun i hi hn => (k.block i (Nat.lt_of_lt_of_le hi h.size) fun e => by
    rcases hF i e with h1 | h1
    · exact hn h1
    · omega).trans (h.block i hi hn)⟩
theorem Keeps.ext {F : Nat → Prop} {a b c : World} (h : Keeps F a b) (k : Ext b c) : Keeps F a c := h.trans (F' := F) (Keeps.of_ext k) fun _ hi => .inl hi
theorem Keeps.below {F : Nat → Prop} {B : Nat} {a b : World} (h : Keeps F a b) (hB : B ≤ a.heap.size) (hF : ∀ i, F i → B ≤ i) : Below B a b :=
  ⟨h.os, h.tape, h.output, h.size, fun i hi => h.block i (by omega) fun e => by have := hF i e; omega⟩
theorem Keeps.none {F : Nat → Prop} {a b : World} (h : Keeps F a b) (hF : ∀ i, F i → a.heap.size ≤ i) : Ext a b := h.below (Nat.le_refl _) hF
theorem IsB.lt {i : Nat} {W : World} (h : IsB i W) : i < W.heap.size := by
  obtain ⟨cur, fz, h⟩ := h
  exact (Array.getElem?_eq_some_iff.1 h).1
theorem IsB.keep {F : Nat → Prop} {i : Nat} {W Y : World} (h : IsB i W) (k : Keeps F W Y) (hn : ¬ F i) : IsB i Y := by
  have hl := h.lt
  obtain ⟨cur, fz, h⟩ := h
  exact ⟨cur, fz, (k.block i hl hn).trans h⟩
theorem IsB.back {F : Nat → Prop} {i : Nat} {W Y : World} (h : IsB i Y) (k : Keeps F W Y) (hl : i < W.heap.size) (hn : ¬ F i) : IsB i W := by
  obtain ⟨cur, fz, h⟩ := h
  exact ⟨cur, fz, (k.block i hl hn).symm.trans h⟩
theorem RowAt.keep {F : Nat → Prop} {b n : Nat} {g : Nat → Value} {W Y : World} (h : RowAt b n g W) (k : Keeps F W Y) (hn : ¬ F b) : RowAt b n g Y :=
  ⟨fun j hj => (World.cell?_of_block (a := ⟨b, j, none⟩) (k.block b h.2.2 hn)).trans (h.1 j hj), fun j hj => (World.frozen?_of_block (a := ⟨b, j, none⟩) (k.block b h.2.2 hn)).trans (h.2.1 j hj), Nat.lt_of_lt_of_le h.2.2 k.size⟩
theorem LieAt.keep {F : Nat → Prop} {a : Addr} {n : Nat} {g : Nat → Value} {W Y : World} (h : LieAt a n g W) (k : Keeps F W Y) (hn : ¬ F a.block) : LieAt a n g Y :=
  ⟨fun j hj => (World.cell?_of_block (a := a.add j) (by rw [add_block]; exact k.block _ h.2 hn)).trans (h.1 j hj), Nat.lt_of_lt_of_le h.2 k.size⟩
theorem CB.keep {F : Nat → Prop} {v : Value} {f : Nat → BitVec 8} {W Y : World} (h : CB v f W) (k : Keeps F W Y) (hF : ∀ i, F i → ¬ IsB i W) : CB v f Y := by
  obtain ⟨b, cap, h1, h2, h3, h4⟩ := h
  have hn : ¬ F b := fun e => hF b e h4
  exact ⟨b, cap, h1, h2, h3.keep k hn, h4.keep k hn⟩
theorem CB.ext {v : Value} {f : Nat → BitVec 8} {W Y : World} (h : CB v f W) (k : Ext W Y) : CB v f Y := h.keep (F := fun _ => False) (Keeps.of_ext k) fun _ e => e.elim
theorem CB.bv {v : Value} {f : Nat → BitVec 8} {W : World} (h : CB v f W) : BV v 512 f W := by
  obtain ⟨b, cap, h1, h2, h3, _⟩ := h
  exact .inr ⟨_, cap, h1, h2, h3⟩
theorem CB.congr {v : Value} {f g : Nat → BitVec 8} {W : World} (h : CB v f W) (e : ∀ j, j < 512 → f j = g j) : CB v g W := by
  obtain ⟨b, cap, h1, h2, h3, h4⟩ := h
  exact ⟨b, cap, h1, h2, ⟨fun j hj => by rw [h3.1 j hj]; unfold yv; rw [e j hj], h3.2⟩, h4⟩
theorem OwnB.cb {base : Nat} {v : Value} {f : Nat → BitVec 8} {W : World} (h : OwnB base 5 v 512 (yv f) W) : CB v f W := by
  have h0 := h
  rcases h.2 with ⟨_, h2⟩ | ⟨b, cap, cur, rfl, hb, hg, hc, hm, _, ht⟩
  · omega
  · refine ⟨b, cap, rfl, hc, ⟨fun j hj => ?_, (Array.getElem?_eq_some_iff.1 hg).1⟩, cur, (0, 0), hg⟩
    exact World.ownsRow.cells h0 (g := b) rfl j (yv f j) (row_get 512 (yv f) j hj)
theorem OwnB.keep {F : Nat → Prop} {base : Nat} {e : TypeId} {v : Value} {n : Nat} {g : Nat → Value} {W Y : World} (h : OwnB base e v n g W) (k : Keeps F W Y) (hn : ∀ b, v.ownBlock = some b → ¬ F b) : OwnB base e v n g Y := by
  rcases h with ⟨h1, h2⟩
  refine ⟨h1, ?_⟩
  rcases h2 with h2 | ⟨b, cap, cur, h3, h4, h5, h6⟩
  · exact .inl h2
  · exact .inr ⟨b, cap, cur, h3, h4, (k.block b (Array.getElem?_eq_some_iff.1 h5).1 (hn b (by rw [h3]; rfl))).trans h5, h6⟩
structure DSt where
  N : Nat
  S : Nat → Nat → BitVec 8
  kc : Nat → Nat
  uc : Nat → Nat → Nat → BitVec 8
  pw : Int
structure DM where
  sb : Nat
  cp : Nat
  mb : Nat
  sv : Nat → Value
  m : Int → Option Value
  us : Nat → Nat → Value
def dkV (N sb cp mb : Nat) (pw : Int) (j : Nat) : Value := if j = 0 then .slice (some ⟨sb, 0, none⟩) N cp else if j = 1 then .map (some mb) else .int .i64 pw
structure DkM (F : Nat → Prop) (p : Nat) (s : DSt) (C : Nat) (M : DM) (W : World) : Prop where
  st : RowAt p 3 (dkV s.N M.sb M.cp M.mb s.pw) W
  n4 : s.N ≤ 4096
  pk : -9223372036854775808 ≤ s.pw ∧ s.pw ≤ 9223372036854775807
  ncp : s.N ≤ M.cp
  sure : RowAt M.sb s.N M.sv W
  mp : MapAt Tryd.prog 3 M.mb C M.m W
  cont : ∀ i, i < s.N → CB (M.sv i) (s.S i) W
  keys : ∀ x, okI x → M.m x ≠ none → ∃ n : Nat, x = (n : Int) ∧ n < s.N
  list : ∀ n : Nat, n < s.N → (M.m n = none ∧ s.kc n = 0) ∨ ∃ v, M.m n = some v ∧ 0 < s.kc n ∧ OwnB 0 39 v (s.kc n) (M.us n) W
  writes : ∀ n j, n < s.N → j < s.kc n → CB (M.us n j) (s.uc n j) W
  kcC : ∀ n, n < s.N → s.kc n ≤ C
  fp : F p
  fs : F M.sb
  fm : F M.mb
  fl : ∀ (n : Nat) v b, n < s.N → M.m n = some v → v.ownBlock = some b → F b
  nb : ∀ i, F i → ¬ IsB i W
  lt : ∀ i, F i → i < W.heap.size
  ps : p ≠ M.sb
  pm : p ≠ M.mb
  sm : M.sb ≠ M.mb
  la : ∀ (n : Nat) v b, n < s.N → M.m n = some v → v.ownBlock = some b → b ≠ p ∧ b ≠ M.sb ∧ b ≠ M.mb
  ll : ∀ (n n' : Nat) v v' b, n < s.N → n' < s.N → n ≠ n' → M.m n = some v → M.m n' = some v' → v.ownBlock = some b → v'.ownBlock ≠ some b
section
variable {F : Nat → Prop} {p : Nat} {s : DSt} {C : Nat} {M : DM} {W Y : World}
theorem DkM.keep {G : Nat → Prop} (h : DkM F p s C M W) (k : Keeps G W Y) (hd : ∀ i, F i → ¬ G i) (hG : ∀ i, G i → ¬ IsB i W) : DkM F p s C M Y where
  st := h.st.keep k (hd _ h.fp)
  n4 := h.n4
  pk := h.pk
  ncp := h.ncp
  sure := h.sure.keep k (hd _ h.fs)
  mp := h.mp.same (k.block _ h.mp.lt (hd _ h.fm))
  cont := fun i hi => (h.cont i hi).keep k hG
  keys := h.keys
  list := fun n hn => by
    rcases h.list n hn with h1 | ⟨v, h1, h2, h3⟩
    · exact .inl h1
    · exact .inr ⟨v, h1, h2, h3.keep k fun b hb => hd b (h.fl n v b hn h1 hb)⟩
  writes := fun n j hn hj => (h.writes n j hn hj).keep k hG
  kcC := h.kcC
  fp := h.fp
  fs := h.fs
  fm := h.fm
  fl := h.fl
  nb := fun i hi hb => h.nb i hi (hb.back k (h.lt i hi) (hd i hi))
  lt := fun i hi => Nat.lt_of_lt_of_le (h.lt i hi) k.size
  ps := h.ps
  pm := h.pm
  sm := h.sm
  la := h.la
  ll := h.ll
theorem DkM.ext (h : DkM F p s C M W) (k : Ext W Y) : DkM F p s C M Y := h.keep (G := fun _ => False) (Keeps.of_ext k) (fun _ _ e => e) fun _ e => e.elim
theorem DkM.mono {C' : Nat} (h : DkM F p s C M W) (hC : C ≤ C') : DkM F p s C' M W := { h with mp := h.mp.mono hC, kcC := fun n hn => Nat.le_trans (h.kcC n hn) hC }
theorem IsB.unset {b : Nat} {W : World} {a : Addr} {v : Value} (h : IsB b (W.setCell a v)) : IsB b W := by
  obtain ⟨c, z, h1⟩ := h
  unfold World.setCell at h1
  simp only [Array.getElem?_modify] at h1
  by_cases hp : a.block = b
  · rw [if_pos hp] at h1
    cases ho : W.heap[b]? with
    | none => rw [ho] at h1; cases h1
    | some o =>
      rw [ho] at h1
      cases o with
      | cells cc t zz =>
        simp only [Option.map_some, Option.some.injEq, Obj.cells.injEq] at h1
        obtain ⟨_, rfl, _⟩ := h1
        exact ⟨cc, zz, ho⟩
      | _ => simp at h1
  · rw [if_neg hp] at h1
    exact ⟨c, z, h1⟩
theorem nb_turn {c : Nat} (h : DkM F p s C M W) (k : But c W Y) (hc : ¬ IsB c Y) : ∀ i, F i → ¬ IsB i Y := fun i hi hb => by
  by_cases e : i = c
  · subst e
    exact hc hb
  · obtain ⟨cur, fz, hb⟩ := hb
    exact h.nb i hi ⟨cur, fz, (k.block i (h.lt i hi) (by simpa using e)).symm.trans hb⟩
theorem but_keeps {c : Nat} (k : But c W Y) (hc : F c) : Keeps F W Y := Keeps.of_grown k fun b hb => by cases hb; exact .inl hc
theorem DkM.ok (h : DkM F p s C M W) (n : Nat) (hn : n < s.N) : okI (n : Int) := WalkArith.wf_i64 (by have := h.n4; omega)
theorem DkM.turnP (h : DkM F p s C M W) (k : But p W Y) (pw : Int) (hst : RowAt p 3 (dkV s.N M.sb M.cp M.mb pw) Y) (hpk : -9223372036854775808 ≤ pw ∧ pw ≤ 9223372036854775807) (hb : ¬ IsB p Y) : DkM F p { s with pw := pw } C M Y where
  st := hst
  n4 := h.n4
  pk := hpk
  ncp := h.ncp
  sure := h.sure.but k (Ne.symm h.ps)
  mp := h.mp.kept k (by simpa using Ne.symm h.pm)
  cont := fun i hi => (h.cont i hi).keep (but_keeps k h.fp) h.nb
  keys := h.keys
  list := fun n hn => by
    rcases h.list n hn with h1 | ⟨v, h1, h2, h3⟩
    · exact .inl h1
    · exact .inr ⟨v, h1, h2, h3.kept k (by
        cases hv : v.ownBlock with
        | none => exact .inl rfl
        | some b => exact .inr (by simpa using (h.la n v b hn h1 hv).1))⟩
  writes := fun n j hn hj => (h.writes n j hn hj).keep (but_keeps k h.fp) h.nb
  kcC := h.kcC
  fp := h.fp
  fs := h.fs
  fm := h.fm
  fl := h.fl
  nb := nb_turn h k hb
  lt := fun i hi => Nat.lt_of_lt_of_le (h.lt i hi) k.size
  ps := h.ps
  pm := h.pm
  sm := h.sm
  la := h.la
  ll := h.ll
theorem DkM.turnS (h : DkM F p s C M W) (k : But M.sb W Y) (sv : Nat → Value) (T : Nat → Nat → BitVec 8) (hst : RowAt M.sb s.N sv Y) (hc : ∀ i, i < s.N → CB (sv i) (T i) Y) (hb : ¬ IsB M.sb Y) : DkM F p { s with S := T } C { M with sv := sv } Y where
  st := h.st.but k h.ps
  n4 := h.n4
  pk := h.pk
  ncp := h.ncp
  sure := hst
  mp := h.mp.kept k (by simpa using Ne.symm h.sm)
  cont := hc
  keys := h.keys
  list := fun n hn => by
    rcases h.list n hn with h1 | ⟨v, h1, h2, h3⟩
    · exact .inl h1
    · exact .inr ⟨v, h1, h2, h3.kept k (by
        cases hv : v.ownBlock with
        | none => exact .inl rfl
        | some b => exact .inr (by simpa using (h.la n v b hn h1 hv).2.1))⟩
  writes := fun n j hn hj => (h.writes n j hn hj).keep (but_keeps k h.fs) h.nb
  kcC := h.kcC
  fp := h.fp
  fs := h.fs
  fm := h.fm
  fl := h.fl
  nb := nb_turn h k hb
  lt := fun i hi => Nat.lt_of_lt_of_le (h.lt i hi) k.size
  ps := h.ps
  pm := h.pm
  sm := h.sm
  la := h.la
  ll := h.ll
theorem DkM.turnM {C' : Nat} (h : DkM F p s C M W) (k : But M.mb W Y) (m : Int → Option Value) (kc : Nat → Nat) (hm : MapAt Tryd.prog 3 M.mb C' m Y) (h1 : ∀ x v, okI x → m x = some v → M.m x = some v) (h2 : ∀ n : Nat, n < s.N → (m n = none ∧ kc n = 0) ∨ (m n = M.m n ∧ kc n = s.kc n)) (hC : ∀ n, n < s.N → kc n ≤ C') (hb : ¬ IsB M.mb Y) : DkM F p { s with kc := kc } C' { M with m := m } Y where
  st := h.st.but k h.pm
  n4 := h.n4
  pk := h.pk
  ncp := h.ncp
  sure := h.sure.but k h.sm
  mp := hm
  cont := fun i hi => (h.cont i hi).keep (but_keeps k h.fm) h.nb
  keys := fun x hx hn => by
    cases hmx : m x with
    | none => exact absurd hmx hn
    | some v => exact h.keys x hx (by rw [h1 x v hx hmx]; simp)
  list := fun n hn => by
    rcases h2 n hn with h3 | ⟨h3, h4⟩
    · exact .inl h3
    · show (m n = none ∧ kc n = 0) ∨ _
      rcases h.list n hn with h5 | ⟨v, h5, h6, h7⟩
      · exact .inl ⟨h3.trans h5.1, h4.trans h5.2⟩
      · refine .inr ⟨v, h3.trans h5, by show 0 < kc n; rw [h4]; exact h6, ?_⟩
        show OwnB 0 39 v (kc n) (M.us n) Y
        rw [h4]
        exact h7.kept k (by
          cases hv : v.ownBlock with
          | none => exact .inl rfl
          | some b => exact .inr (by simpa using (h.la n v b hn h5 hv).2.2))
  writes := fun n j hn hj => by
    have hj' : j < kc n := hj
    rcases h2 n hn with h3 | ⟨h3, h4⟩
    · omega
    · exact (h.writes n j hn (by omega)).keep (but_keeps k h.fm) h.nb
  kcC := hC
  fp := h.fp
  fs := h.fs
  fm := h.fm
  fl := fun n v b hn hv => h.fl n v b hn (h1 n v (h.ok n hn) hv)
  nb := nb_turn h k hb
  lt := fun i hi => Nat.lt_of_lt_of_le (h.lt i hi) k.size
  ps := h.ps
  pm := h.pm
  sm := h.sm
  la := fun n v b hn hv => h.la n v b hn (h1 n v (h.ok n hn) hv)
  ll := fun n n' v v' b hn hn' hne hv hv' => h.ll n n' v v' b hn hn' hne (h1 n v (h.ok n hn) hv) (h1 n' v' (h.ok n' hn') hv')
theorem map_notB {P : Program} {k : TypeId} {b n : Nat} {m : Int → Option Value} {w : World} (h : MapAt P k b n m w) : ¬ IsB b w := fun ⟨cur, fz, hb⟩ => by
  obtain ⟨D, ⟨es, clock, h1, _⟩, _⟩ := h
  rw [h1] at hb
  cases hb
end
end Go.Proofs.YtiakkclabgelfaaDoor
