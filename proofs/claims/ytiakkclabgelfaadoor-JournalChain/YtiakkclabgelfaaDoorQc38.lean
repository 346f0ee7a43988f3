/-
  Parse, where there is none. Parse, where a plan is.
-/
import Derived.Test.YtiakkclabgelfaaDoorQc1
import Derived.Test.YtiakkclabgelfaaDoorQc37
namespace Go.Proofs.YtiakkclabgelfaaDoor
set_option maxRecDepth 20000
open Go.RowKit Go.BigFrame
def hasP (x : BitVec 64) (m : Nat) (ls : Nat → Nat) (fs : Nat → Nat → BitVec 8) : Prop := 0 < m ∧ isPl (ls 0) (fs 0) ∧ nP (fs 0) = x ∧ cP (fs 0) + 2 ≤ m
set_option maxRecDepth 20000 in
set_option maxHeartbeats 4000000 in
theorem parse_none (x : BitVec 64) (vb : Value) (m : Nat) (us : Nat → Value) (ls : Nat → Nat) (fs : Nat → Nat → BitVec 8) (w : World) (hP : PL vb m us ls fs w) (h0 : 0 < m → BV (us 0) (ls 0) (fs 0) w) (hls : ∀ i, i < m → ls i ≤ 140737488355328) (hm : m ≤ 4398046511104) (hno : ¬ hasP x m ls fs) : Calls Tryd.prog 62 #[.int .u64 (x.toNat : Int), vb] w fun e w' => e = .returned (.tuple #[.slice none 0 0, .int .i64 0, .int .i64 110]) ∧ Ext w w' := by
  obtain ⟨o, cap, rfl⟩ := hP.form
  by_cases hm0 : 0 < m
  · have m0 : ¬ (m : Int) = 0 := by omega
    have mz : ¬ m = 0 := by omega
    obtain ⟨a, rfl, eb⟩ := hP.at 0 hm0
    have ha0 : a.add 0 = a := by unfold Addr.add; simp
    rw [ha0] at eb
    clear ha0
    have kp := hideit (planIn_any (us 0) (ls 0) (fs 0) w (h0 hm0) (hls 0 hm0))
    clear hP h0 hls
    go_enter Tryd.func62, Tryd.ntmps62
    go_upto_region 3 with (fail)
    refine wp_region_lit ?_
    refine wpList_run rfl (.slice (some a) m cap) (by simp [go_sem]) ?_
    simp only [zp0, zp1, zp2, zp3]
    refine wpList_run rfl (.pointer (some a)) (by simp [go_sem, mz]) ?_
    simp only [zp0, zp1, zp2, zp3]
    refine wpList_run rfl (us 0) (by simp [go_sem, eb]) ?_
    simp only [zp0, zp1, zp2, zp3]
    refine wpList_call rfl (by simp [go_sem]) ((kp.out).mono ?_)
    rintro e w1 ⟨pa, ok, rfl, hE1, hq⟩
    refine ⟨_, rfl, ?_⟩
    simp only [zp0, zp1, zp2, zp3]
    clear kp eb
    rcases hq with ⟨rfl, hyes, v, rfl, hO⟩ | ⟨rfl, hnp, rfl⟩
    · obtain ⟨vo, vc, rfl⟩ := own_form3 hO
      have hpr : RowAt w1.heap.size 3 (plV 0#64 0#64 (.slice none 0 0)) (w1.alloc (.cells #[.int .u64 0, .int .u64 0, .slice none 0 0] 76)) := RowAt.newOf w1 3 _ 76 _ fun j hj => by rcases (by omega : j = 0 ∨ j = 1 ∨ j = 2) with rfl | rfl | rfl <;> rfl
      have hX2 : Ext w1 ((w1.alloc (.cells #[.int .u64 0, .int .u64 0, .slice none 0 0] 76)).setCells w1.heap.size 0 (row 3 (plV (nP (fs 0)) (tP (fs 0)) (.slice vo (cP (fs 0)) vc)))) := below_setCells w1.heap.size (Nat.le_refl _) _ 0 _ ((Below.refl _ _).alloc (Nat.le_refl _) _)
      have hR2 : RowAt w1.heap.size 3 (plV (nP (fs 0)) (tP (fs 0)) (.slice vo (cP (fs 0)) vc)) ((w1.alloc (.cells #[.int .u64 0, .int .u64 0, .slice none 0 0] 76)).setCells w1.heap.size 0 (row 3 (plV (nP (fs 0)) (tP (fs 0)) (.slice vo (cP (fs 0)) vc)))) := hpr.cells
      rw [plA_row]
      refine wpList_run rfl (.tuple #[.agg (row 3 (plV (nP (fs 0)) (tP (fs 0)) (.slice vo (cP (fs 0)) vc))).toArray, .bool true]) (by simp [go_sem]) ?_
      simp only [zp0, zp1, zp2, zp3]
      refine wpList_run rfl (.agg (row 3 (plV (nP (fs 0)) (tP (fs 0)) (.slice vo (cP (fs 0)) vc))).toArray) (by simp [go_sem]) ?_
      simp only [zp0, zp1, zp2, zp3]
      refine wpList_run rfl (.bool true) (by simp [go_sem]) ?_
      simp only [zp0, zp1, zp2, zp3]
      refine wpList_to rfl (.pointer (some ⟨w1.heap.size, 0, none⟩)) (w1.alloc (.cells #[.int .u64 0, .int .u64 0, .slice none 0 0] 76)) (alloc47 rfl) ?_
      simp only [zp0, zp1, zp2, zp3]
      refine wpList_store_mid rfl 76 (.tmp 7) (.tmp 21) rfl w1.heap.size 0 (row 3 (plV (nP (fs 0)) (tP (fs 0)) (.slice vo (cP (fs 0)) vc))).toArray rfl rfl (by rw [row_size]; exact hpr.there) (by rw [row_size]; exact info47) (row_one (plV_one rfl)) ?_
      rw [show (row 3 (plV (nP (fs 0)) (tP (fs 0)) (.slice vo (cP (fs 0)) vc))).toArray.toList = (row 3 (plV (nP (fs 0)) (tP (fs 0)) (.slice vo (cP (fs 0)) vc))) from rfl]
      generalize (w1.alloc (.cells #[.int .u64 0, .int .u64 0, .slice none 0 0] 76)).setCells w1.heap.size 0 (row 3 (plV (nP (fs 0)) (tP (fs 0)) (.slice vo (cP (fs 0)) vc))) = w2 at *
      generalize w1.heap.size = p at *
      simp only [Act.put]
      refine wpList_run rfl (.bool true) (by simp [go_sem]) ?_
      simp only [zp0, zp1, zp2, zp3]
      have hE2 := hideit (Ext.trans hE1 hX2)
      have c0 : w2.cell? ⟨p, 0, none⟩ = some (.int .u64 ((nP (fs 0)).toNat : Int)) := hR2.1 0 (by decide)
      have c2 : w2.cell? ⟨p, 2, none⟩ = some (.slice vo (cP (fs 0)) vc) := hR2.1 2 (by decide)
      have hcn : cP (fs 0) ≤ 65535 := by
        have := leN_nat (shF (fs 0) 12) 2 (by decide)
        unfold cP
        omega
      have hw2 : IntKind.i64.wrap ((cP (fs 0) : Int) + 2) = ((cP (fs 0) + 2 : Nat) : Int) := by rw [IntKind.wrap_i64]; omega
      have hc : nP (fs 0) ≠ x ∨ ¬ cP (fs 0) + 2 ≤ m := by
        by_cases h1 : nP (fs 0) = x
        · exact .inr fun h2 => hno ⟨hm0, hyes, h1, h2⟩
        · exact .inl h1
      clear hO hX2 hpr hE1 hR2 hyes hno
      generalize nP (fs 0) = nx at *
      generalize tP (fs 0) = tx at *
      generalize cP (fs 0) = n at *
      go_upto_region 4 with (fail)
      refine wp_region_lit ?_
      refine wpList_run rfl (.pointer (some ⟨p, 2, none⟩)) (by simp [go_sem]) ?_
      simp only [zp0, zp1, zp2, zp3]
      refine wpList_run rfl (.slice vo n vc) (by simp [go_sem, c2]) ?_
      simp only [zp0, zp1, zp2, zp3]
      refine wpList_run rfl (.int .i64 (n : Int)) (by simp [go_sem]) ?_
      simp only [zp0, zp1, zp2, zp3]
      refine wpList_run rfl (.int .i64 ((n + 2 : Nat) : Int)) (by simp [go_sem, hw2]) ?_
      simp only [zp0, zp1, zp2, zp3]
      refine wpList_run rfl (.int .i64 ((n + 2 : Nat) : Int)) (by simp [go_sem]) ?_
      simp only [zp0, zp1, zp2, zp3]
      clear c2 hw2
      generalize hn2 : n + 2 = n2 at *
      by_cases h1 : nx = x
      · subst h1
        have g1 : (m : Int) < (n2 : Int) := by
          rcases hc with hc | hc
          · exact absurd rfl hc
          · omega
        clear hc
        go_upto_region 5 with (fail)
        refine wp_region_lit ?_
        refine wpList_run rfl (.bool true) (by simp [go_sem]) ?_
        simp only [zp0, zp1, zp2, zp3]
        refine wpList_run rfl (.bool false) (by simp [go_sem]) ?_
        simp only [zp0, zp1, zp2, zp3]
        refine wpList_run rfl (.bool false) (by simp [go_sem]) ?_
        simp only [zp0, zp1, zp2, zp3]
        refine wpList_runW rfl (.pointer (some ⟨p, 0, none⟩)) (by simp [go_sem]) ?_
        simp only [zp0, zp1, zp2, zp3]
        refine wpList_runW rfl (.int .u64 (nx.toNat : Int)) (by simp [go_sem, c0]) ?_
        simp only [zp0, zp1, zp2, zp3]
        refine wpList_runW rfl (.int .u64 (nx.toNat : Int)) (by simp [go_sem]) ?_
        simp only [zp0, zp1, zp2, zp3]
        refine wpList_runW rfl (.bool false) (by simp [go_sem]) ?_
        simp only [zp0, zp1, zp2, zp3]
        refine wpList_run rfl (.bool false) (by simp [go_sem]) ?_
        simp only [zp0, zp1, zp2, zp3]
        refine wpList_run rfl (.bool false) (by simp [go_sem]) ?_
        simp only [zp0, zp1, zp2, zp3]
        refine wpList_runW rfl (.int .i64 (n2 : Int)) (by simp [go_sem]) ?_
        simp only [zp0, zp1, zp2, zp3]
        refine wpList_runW rfl (.slice (some a) m cap) (by simp [go_sem]) ?_
        simp only [zp0, zp1, zp2, zp3]
        refine wpList_runW rfl (.int .i64 (m : Int)) (by simp [go_sem]) ?_
        simp only [zp0, zp1, zp2, zp3]
        refine wpList_runW rfl (.bool true) (by simp [go_sem, g1]) ?_
        simp only [zp0, zp1, zp2, zp3]
        refine wpList_run rfl (.bool true) (by simp [go_sem]) ?_
        simp only [zp0, zp1, zp2, zp3]
        clear c0 g1
        go_wp2
        refine bodyPost_ret (results_tmp3 rfl _ _ _) rfl ?_
        exact ⟨rfl, hE2.out⟩
      · have g1 : ¬ (nx.toNat : Int) = (x.toNat : Int) := fun h => h1 (BitVec.eq_of_toNat_eq (by omega))
        clear hc
        go_upto_region 5 with (fail)
        refine wp_region_lit ?_
        refine wpList_run rfl (.bool true) (by simp [go_sem]) ?_
        simp only [zp0, zp1, zp2, zp3]
        refine wpList_run rfl (.bool false) (by simp [go_sem]) ?_
        simp only [zp0, zp1, zp2, zp3]
        refine wpList_run rfl (.bool false) (by simp [go_sem]) ?_
        simp only [zp0, zp1, zp2, zp3]
        refine wpList_runW rfl (.pointer (some ⟨p, 0, none⟩)) (by simp [go_sem]) ?_
        simp only [zp0, zp1, zp2, zp3]
        refine wpList_runW rfl (.int .u64 (nx.toNat : Int)) (by simp [go_sem, c0]) ?_
        simp only [zp0, zp1, zp2, zp3]
        refine wpList_runW rfl (.int .u64 (x.toNat : Int)) (by simp [go_sem]) ?_
        simp only [zp0, zp1, zp2, zp3]
        refine wpList_runW rfl (.bool true) (by simp [go_sem, g1]) ?_
        simp only [zp0, zp1, zp2, zp3]
        refine wpList_run rfl (.bool true) (by simp [go_sem]) ?_
        simp only [zp0, zp1, zp2, zp3]
        refine wpList_run rfl (.bool true) (by simp [go_sem]) ?_
        simp only [zp0, zp1, zp2, zp3]
        refine wpList_skip rfl ?_
        simp only [zp0, zp1, zp2, zp3]
        refine wpList_skip rfl ?_
        simp only [zp0, zp1, zp2, zp3]
        refine wpList_skip rfl ?_
        simp only [zp0, zp1, zp2, zp3]
        refine wpList_skip rfl ?_
        simp only [zp0, zp1, zp2, zp3]
        refine wpList_run rfl (.bool true) (by simp [go_sem]) ?_
        simp only [zp0, zp1, zp2, zp3]
        clear c0 g1
        go_wp2
        refine bodyPost_ret (results_tmp3 rfl _ _ _) rfl ?_
        exact ⟨rfl, hE2.out⟩
    · have hpr : RowAt w1.heap.size 3 (plV 0#64 0#64 (.slice none 0 0)) (w1.alloc (.cells #[.int .u64 0, .int .u64 0, .slice none 0 0] 76)) := RowAt.newOf w1 3 _ 76 _ fun j hj => by rcases (by omega : j = 0 ∨ j = 1 ∨ j = 2) with rfl | rfl | rfl <;> rfl
      have hX2 : Ext w1 ((w1.alloc (.cells #[.int .u64 0, .int .u64 0, .slice none 0 0] 76)).setCells w1.heap.size 0 (row 3 (plV 0#64 0#64 (.slice none 0 0)))) := below_setCells w1.heap.size (Nat.le_refl _) _ 0 _ ((Below.refl _ _).alloc (Nat.le_refl _) _)
      have hR2 : RowAt w1.heap.size 3 (plV 0#64 0#64 (.slice none 0 0)) ((w1.alloc (.cells #[.int .u64 0, .int .u64 0, .slice none 0 0] 76)).setCells w1.heap.size 0 (row 3 (plV 0#64 0#64 (.slice none 0 0)))) := hpr.cells
      rw [plA_row]
      refine wpList_run rfl (.tuple #[.agg (row 3 (plV 0#64 0#64 (.slice none 0 0))).toArray, .bool false]) (by simp [go_sem]) ?_
      simp only [zp0, zp1, zp2, zp3]
      refine wpList_run rfl (.agg (row 3 (plV 0#64 0#64 (.slice none 0 0))).toArray) (by simp [go_sem]) ?_
      simp only [zp0, zp1, zp2, zp3]
      refine wpList_run rfl (.bool false) (by simp [go_sem]) ?_
      simp only [zp0, zp1, zp2, zp3]
      refine wpList_to rfl (.pointer (some ⟨w1.heap.size, 0, none⟩)) (w1.alloc (.cells #[.int .u64 0, .int .u64 0, .slice none 0 0] 76)) (alloc47 rfl) ?_
      simp only [zp0, zp1, zp2, zp3]
      refine wpList_store_mid rfl 76 (.tmp 7) (.tmp 21) rfl w1.heap.size 0 (row 3 (plV 0#64 0#64 (.slice none 0 0))).toArray rfl rfl (by rw [row_size]; exact hpr.there) (by rw [row_size]; exact info47) (row_one (plV_one rfl)) ?_
      rw [show (row 3 (plV 0#64 0#64 (.slice none 0 0))).toArray.toList = (row 3 (plV 0#64 0#64 (.slice none 0 0))) from rfl]
      generalize (w1.alloc (.cells #[.int .u64 0, .int .u64 0, .slice none 0 0] 76)).setCells w1.heap.size 0 (row 3 (plV 0#64 0#64 (.slice none 0 0))) = w2 at *
      generalize w1.heap.size = p at *
      simp only [Act.put]
      refine wpList_run rfl (.bool false) (by simp [go_sem]) ?_
      simp only [zp0, zp1, zp2, zp3]
      have hE2 := hideit (Ext.trans hE1 hX2)
      have c2 : w2.cell? ⟨p, 2, none⟩ = some (.slice none 0 0) := hR2.1 2 (by decide)
      clear hX2 hpr hE1 hR2 hnp hno
      have hw0 : IntKind.i64.wrap 2 = 2 := by decide
      go_upto_region 4 with (fail)
      refine wp_region_lit ?_
      refine wpList_run rfl (.pointer (some ⟨p, 2, none⟩)) (by simp [go_sem]) ?_
      simp only [zp0, zp1, zp2, zp3]
      refine wpList_run rfl (.slice none 0 0) (by simp [go_sem, c2]) ?_
      simp only [zp0, zp1, zp2, zp3]
      refine wpList_run rfl (.int .i64 0) (by simp [go_sem]) ?_
      simp only [zp0, zp1, zp2, zp3]
      refine wpList_run rfl (.int .i64 2) (by simp [go_sem, hw0]) ?_
      simp only [zp0, zp1, zp2, zp3]
      refine wpList_run rfl (.int .i64 2) (by simp [go_sem]) ?_
      simp only [zp0, zp1, zp2, zp3]
      clear c2 hw0
      go_upto_region 5 with (fail)
      refine wp_region_lit ?_
      refine wpList_run rfl (.bool false) (by simp [go_sem]) ?_
      simp only [zp0, zp1, zp2, zp3]
      refine wpList_run rfl (.bool true) (by simp [go_sem]) ?_
      simp only [zp0, zp1, zp2, zp3]
      refine wpList_run rfl (.bool true) (by simp [go_sem]) ?_
      simp only [zp0, zp1, zp2, zp3]
      refine wpList_skip rfl ?_
      simp only [zp0, zp1, zp2, zp3]
      refine wpList_skip rfl ?_
      simp only [zp0, zp1, zp2, zp3]
      refine wpList_skip rfl ?_
      simp only [zp0, zp1, zp2, zp3]
      refine wpList_skip rfl ?_
      simp only [zp0, zp1, zp2, zp3]
      refine wpList_run rfl (.bool true) (by simp [go_sem]) ?_
      simp only [zp0, zp1, zp2, zp3]
      refine wpList_run rfl (.bool true) (by simp [go_sem]) ?_
      simp only [zp0, zp1, zp2, zp3]
      refine wpList_skip rfl ?_
      simp only [zp0, zp1, zp2, zp3]
      refine wpList_skip rfl ?_
      simp only [zp0, zp1, zp2, zp3]
      refine wpList_skip rfl ?_
      simp only [zp0, zp1, zp2, zp3]
      refine wpList_skip rfl ?_
      simp only [zp0, zp1, zp2, zp3]
      refine wpList_run rfl (.bool true) (by simp [go_sem]) ?_
      simp only [zp0, zp1, zp2, zp3]
      go_wp2
      refine bodyPost_ret (results_tmp3 rfl _ _ _) rfl ?_
      exact ⟨rfl, hE2.out⟩
  · obtain rfl : m = 0 := by omega
    clear hP h0 hls hno
    have hE2 := hideit (Ext.refl w)
    go_enter Tryd.func62, Tryd.ntmps62
    go_wp2
    refine bodyPost_ret (results_tmp3 rfl _ _ _) rfl ?_
    exact ⟨rfl, hE2.out⟩
end Go.Proofs.YtiakkclabgelfaaDoor
namespace Go.Proofs.YtiakkclabgelfaaDoor
set_option maxRecDepth 20000
open Go.RowKit Go.BigFrame
theorem RDs.rls {B : Nat} {v : Value} {n : Nat} {bs : Nat → Int} {us : Nat → Value} {ls : Nat → Nat} {fs : Nat → Nat → BitVec 8} {X : World} (h : RDs B v n bs us ls fs X) (hn : 0 < n) (hls : ∀ i, i < n → ls i ≤ 140737488355328) : RLs v n bs us ls fs X := by
  obtain ⟨b, cap, h1, _, h2, _, h3⟩ := h.own.lies hn
  exact ⟨.inr ⟨_, cap, h1, h2, (RowAt.lie h3 (n * 2) (Nat.le_refl _)).1⟩, fun i hi => ⟨(h.byt i hi).1.bv.pv, hls i hi⟩⟩
theorem BLs.pl {B : Nat} {v : Value} {m : Nat} {us : Nat → Value} {fs : Nat → Nat → BitVec 8} {X : World} (h : BLs B v m us fs X) : PL v m us (fun _ => 512) fs X := by
  obtain ⟨h1, h2⟩ := h.parts
  refine ⟨?_, fun i hi => (h2 i hi).pv⟩
  rcases h1 with h1 | ⟨a, cap, q1, q2, q3⟩
  · exact .inl h1
  · exact .inr ⟨a, cap, q1, q2, q3.1⟩
theorem PL.sub1 {a : Addr} {m cap n c : Nat} {us : Nat → Value} {ls : Nat → Nat} {fs : Nat → Nat → BitVec 8} {w : World} (h : PL (.slice (some a) m cap) m us ls fs w) (hn : n + 1 ≤ m) (hc : n ≤ c) : PL (.slice (some (a.add 1)) n c) n (fun i => us (i + 1)) (fun i => ls (i + 1)) (fun i => fs (i + 1)) w := by
  refine ⟨.inr ⟨_, c, rfl, hc, fun j hj => ?_⟩, fun i hi => h.2 (i + 1) (by omega)⟩
  rcases h.1 with ⟨e, _⟩ | ⟨a', cap', q1, q2, q3⟩
  · cases e
  · injection q1 with q1
    injection q1 with q1
    subst q1
    rw [add_add, Nat.add_comm]
    exact q3 (j + 1) (by omega)
theorem PL.pre {a : Addr} {m cap n : Nat} {us : Nat → Value} {ls : Nat → Nat} {fs : Nat → Nat → BitVec 8} {w : World} (h : PL (.slice (some a) m cap) m us ls fs w) (hn : n ≤ m) : m ≤ cap ∧ PL (.slice (some a) n cap) n us ls fs w := by
  rcases h.1 with ⟨e, _⟩ | ⟨a', cap', q1, q2, q3⟩
  · cases e
  · injection q1 with q1 _ q4
    injection q1 with q1
    subst q1
    subst q4
    exact ⟨q2, .inr ⟨_, _, rfl, by omega, fun j hj => q3 j (by omega)⟩, fun i hi => h.2 i (by omega)⟩
def unL (ls : Nat → Nat) (fs : Nat → Nat → BitVec 8) (i : Nat) : Nat → BitVec 8 := unF (tP (fs 0)) i (ls (i + 1)) (fs (i + 1))
def isTx (x : BitVec 64) (ls : Nat → Nat) (fs : Nat → Nat → BitVec 8) : Prop :=
  okT x (cP (fs 0)) (bP (fs 0)) (fun i => ls (i + 1)) (unL ls fs) ∧ sameL (cP (fs 0) + 2) (cP (fs 0) + 2) (fun _ => 512) ls (trF x (tmK (fun i => ls (i + 1)) (unL ls fs) (cP (fs 0))) (cP (fs 0)) (bP (fs 0)) (unL ls fs)) fs
def PaQ (x : BitVec 64) (ls : Nat → Nat) (fs : Nat → Nat → BitVec 8) (w : World) (e : Ending) (w' : World) : Prop :=
  Ext w w' ∧ ((isTx x ls fs ∧ ∃ v us', e = .returned (.tuple #[v, .int .i64 ((cP (fs 0) + 2 : Nat) : Int), .int .i64 0]) ∧ RDs w.heap.size v (cP (fs 0)) (bP (fs 0)) us' (fun i => ls (i + 1)) (unL ls fs) w') ∨ (¬ isTx x ls fs ∧ e = .returned (.tuple #[.slice none 0 0, .int .i64 0, .int .i64 110])))
theorem paq_no {x : BitVec 64} {ls : Nat → Nat} {fs : Nat → Nat → BitVec 8} {w w' : World} {e : Ending} (hE : Ext w w') (h : ¬ isTx x ls fs) (he : e = .returned (.tuple #[.slice none 0 0, .int .i64 0, .int .i64 110])) : PaQ x ls fs w e w' := ⟨hE, .inr ⟨h, he⟩⟩
theorem paq_yes {x : BitVec 64} {ls : Nat → Nat} {fs : Nat → Nat → BitVec 8} {w w' : World} {e : Ending} (hE : Ext w w') (h : isTx x ls fs) (v : Value) (us' : Nat → Value) (he : e = .returned (.tuple #[v, .int .i64 ((cP (fs 0) + 2 : Nat) : Int), .int .i64 0])) (hD : RDs w.heap.size v (cP (fs 0)) (bP (fs 0)) us' (fun i => ls (i + 1)) (unL ls fs) w') : PaQ x ls fs w e w' := ⟨hE, .inl ⟨h, v, us', he, hD⟩⟩
set_option maxRecDepth 20000 in
set_option maxHeartbeats 4000000 in
theorem parse_some (x : BitVec 64) (vb : Value) (m : Nat) (us : Nat → Value) (ls : Nat → Nat) (fs : Nat → Nat → BitVec 8) (w : World) (hT : TabC w) (hP : PL vb m us ls fs w) (h0 : 0 < m → BV (us 0) (ls 0) (fs 0) w) (hls : ∀ i, i < m → ls i ≤ 140737488355328) (hm : m ≤ 4398046511104) (hh : hasP x m ls fs) : Calls Tryd.prog 62 #[.int .u64 (x.toNat : Int), vb] w (PaQ x ls fs w) := by
  obtain ⟨o, cap, rfl⟩ := hP.form
  obtain ⟨hm0, hpl, hnx, hcm⟩ := hh
  have m0 : ¬ (m : Int) = 0 := by omega
  have mz : ¬ m = 0 := by omega
  have hn64 : 1 ≤ cP (fs 0) ∧ cP (fs 0) ≤ 64 := ⟨hpl.2.2.2.2.2.1, hpl.2.2.2.2.2.2.1⟩
  obtain ⟨a, rfl, eb⟩ := hP.at 0 hm0
  have ha0 : a.add 0 = a := by unfold Addr.add; simp
  rw [ha0] at eb
  clear ha0
  obtain ⟨hmc, hpre⟩ := hP.pre hcm
  have kp := hideit (planIn_any (us 0) (ls 0) (fs 0) w (h0 hm0) (hls 0 hm0))
  replace hP := hideit hP
  replace hpre := hideit hpre
  replace hT := hideit hT
  clear h0
  go_enter Tryd.func62, Tryd.ntmps62
  go_upto_region 3 with (fail)
  refine wp_region_lit ?_
  refine wpList_run rfl (.slice (some a) m cap) (by simp [go_sem]) ?_
  simp only [zp0, zp1, zp2, zp3]
  refine wpList_run rfl (.pointer (some a)) (by simp [go_sem, mz]) ?_
  simp only [zp0, zp1, zp2, zp3]
  refine wpList_run rfl (us 0) (by simp [go_sem, eb]) ?_
  simp only [zp0, zp1, zp2, zp3]
  refine wpList_call rfl (by simp [go_sem]) ((kp.out).mono ?_)
  rintro e w1 ⟨pa, ok, rfl, hE1, hq⟩
  refine ⟨_, rfl, ?_⟩
  simp only [zp0, zp1, zp2, zp3]
  clear kp eb
  rcases hq with ⟨rfl, hyes, v, rfl, hO⟩ | ⟨rfl, hnp, rfl⟩
  · obtain ⟨vo, vc, rfl⟩ := own_form3 hO
    have hpr : RowAt w1.heap.size 3 (plV 0#64 0#64 (.slice none 0 0)) (w1.alloc (.cells #[.int .u64 0, .int .u64 0, .slice none 0 0] 76)) := RowAt.newOf w1 3 _ 76 _ fun j hj => by rcases (by omega : j = 0 ∨ j = 1 ∨ j = 2) with rfl | rfl | rfl <;> rfl
    have hX2 : Ext w1 ((w1.alloc (.cells #[.int .u64 0, .int .u64 0, .slice none 0 0] 76)).setCells w1.heap.size 0 (row 3 (plV (nP (fs 0)) (tP (fs 0)) (.slice vo (cP (fs 0)) vc)))) := below_setCells w1.heap.size (Nat.le_refl _) _ 0 _ ((Below.refl _ _).alloc (Nat.le_refl _) _)
    have hR2 : RowAt w1.heap.size 3 (plV (nP (fs 0)) (tP (fs 0)) (.slice vo (cP (fs 0)) vc)) ((w1.alloc (.cells #[.int .u64 0, .int .u64 0, .slice none 0 0] 76)).setCells w1.heap.size 0 (row 3 (plV (nP (fs 0)) (tP (fs 0)) (.slice vo (cP (fs 0)) vc)))) := hpr.cells
    rw [plA_row]
    refine wpList_run rfl (.tuple #[.agg (row 3 (plV (nP (fs 0)) (tP (fs 0)) (.slice vo (cP (fs 0)) vc))).toArray, .bool true]) (by simp [go_sem]) ?_
    simp only [zp0, zp1, zp2, zp3]
    refine wpList_run rfl (.agg (row 3 (plV (nP (fs 0)) (tP (fs 0)) (.slice vo (cP (fs 0)) vc))).toArray) (by simp [go_sem]) ?_
    simp only [zp0, zp1, zp2, zp3]
    refine wpList_run rfl (.bool true) (by simp [go_sem]) ?_
    simp only [zp0, zp1, zp2, zp3]
    refine wpList_to rfl (.pointer (some ⟨w1.heap.size, 0, none⟩)) (w1.alloc (.cells #[.int .u64 0, .int .u64 0, .slice none 0 0] 76)) (alloc47 rfl) ?_
    simp only [zp0, zp1, zp2, zp3]
    refine wpList_store_mid rfl 76 (.tmp 7) (.tmp 21) rfl w1.heap.size 0 (row 3 (plV (nP (fs 0)) (tP (fs 0)) (.slice vo (cP (fs 0)) vc))).toArray rfl rfl (by rw [row_size]; exact hpr.there) (by rw [row_size]; exact info47) (row_one (plV_one rfl)) ?_
    rw [show (row 3 (plV (nP (fs 0)) (tP (fs 0)) (.slice vo (cP (fs 0)) vc))).toArray.toList = (row 3 (plV (nP (fs 0)) (tP (fs 0)) (.slice vo (cP (fs 0)) vc))) from rfl]
    generalize (w1.alloc (.cells #[.int .u64 0, .int .u64 0, .slice none 0 0] 76)).setCells w1.heap.size 0 (row 3 (plV (nP (fs 0)) (tP (fs 0)) (.slice vo (cP (fs 0)) vc))) = w2 at *
    generalize w1.heap.size = p at *
    simp only [Act.put]
    refine wpList_run rfl (.bool true) (by simp [go_sem]) ?_
    simp only [zp0, zp1, zp2, zp3]
    have hE2 := hideit (Ext.trans hE1 hX2)
    have c0 : w2.cell? ⟨p, 0, none⟩ = some (.int .u64 ((nP (fs 0)).toNat : Int)) := hR2.1 0 (by decide)
    have c2 : w2.cell? ⟨p, 2, none⟩ = some (.slice vo (cP (fs 0)) vc) := hR2.1 2 (by decide)
    rw [hnx] at c0
    have hw2 : IntKind.i64.wrap ((cP (fs 0) : Int) + 2) = ((cP (fs 0) + 2 : Nat) : Int) := by rw [IntKind.wrap_i64]; omega
    have hO2 := hideit (hO.ext hX2)
    replace hR2 := hideit hR2
    clear hO hX2 hpr hE1 hyes hpl
    go_upto_region 4 with (fail)
    refine wp_region_lit ?_
    refine wpList_run rfl (.pointer (some ⟨p, 2, none⟩)) (by simp [go_sem]) ?_
    simp only [zp0, zp1, zp2, zp3]
    refine wpList_run rfl (.slice vo (cP (fs 0)) vc) (by simp [go_sem, c2]) ?_
    simp only [zp0, zp1, zp2, zp3]
    refine wpList_run rfl (.int .i64 (cP (fs 0) : Int)) (by simp [go_sem]) ?_
    simp only [zp0, zp1, zp2, zp3]
    refine wpList_run rfl (.int .i64 ((cP (fs 0) + 2 : Nat) : Int)) (by simp [go_sem, hw2]) ?_
    simp only [zp0, zp1, zp2, zp3]
    refine wpList_run rfl (.int .i64 ((cP (fs 0) + 2 : Nat) : Int)) (by simp [go_sem]) ?_
    simp only [zp0, zp1, zp2, zp3]
    clear c2 hw2
    obtain ⟨n2, hn2⟩ : ∃ n2, n2 = cP (fs 0) + 2 := ⟨_, rfl⟩
    rw [← hn2] at hcm hpre ⊢
    have g1 : ¬ (m : Int) < (n2 : Int) := by omega
    go_upto_region 5 with (fail)
    refine wp_region_lit ?_
    refine wpList_run rfl (.bool true) (by simp [go_sem]) ?_
    simp only [zp0, zp1, zp2, zp3]
    refine wpList_run rfl (.bool false) (by simp [go_sem]) ?_
    simp only [zp0, zp1, zp2, zp3]
    refine wpList_run rfl (.bool false) (by simp [go_sem]) ?_
    simp only [zp0, zp1, zp2, zp3]
    refine wpList_runW rfl (.pointer (some ⟨p, 0, none⟩)) (by simp [go_sem]) ?_
    simp only [zp0, zp1, zp2, zp3]
    refine wpList_runW rfl (.int .u64 (x.toNat : Int)) (by simp [go_sem, c0]) ?_
    simp only [zp0, zp1, zp2, zp3]
    refine wpList_runW rfl (.int .u64 (x.toNat : Int)) (by simp [go_sem]) ?_
    simp only [zp0, zp1, zp2, zp3]
    refine wpList_runW rfl (.bool false) (by simp [go_sem]) ?_
    simp only [zp0, zp1, zp2, zp3]
    refine wpList_run rfl (.bool false) (by simp [go_sem]) ?_
    simp only [zp0, zp1, zp2, zp3]
    refine wpList_run rfl (.bool false) (by simp [go_sem]) ?_
    simp only [zp0, zp1, zp2, zp3]
    refine wpList_runW rfl (.int .i64 (n2 : Int)) (by simp [go_sem]) ?_
    simp only [zp0, zp1, zp2, zp3]
    refine wpList_runW rfl (.slice (some a) m cap) (by simp [go_sem]) ?_
    simp only [zp0, zp1, zp2, zp3]
    refine wpList_runW rfl (.int .i64 (m : Int)) (by simp [go_sem]) ?_
    simp only [zp0, zp1, zp2, zp3]
    refine wpList_runW rfl (.bool false) (by simp [go_sem, g1]) ?_
    simp only [zp0, zp1, zp2, zp3]
    refine wpList_run rfl (.bool false) (by simp [go_sem]) ?_
    simp only [zp0, zp1, zp2, zp3]
    clear c0 g1
    have sub1 : IntKind.i64.wrap ((n2 : Int) - 1) = ((cP (fs 0) + 1 : Nat) : Int) := by rw [IntKind.wrap_i64]; omega
    have hIL := (hO2.out.ext (Ext.refl w2).draw).il (fun j _ => bP_ok (fs 0) j)
    have hPD := hideit (hP.out.ext hE2.out)
    have kr := hideit (redos_any (nP (fs 0)) (tP (fs 0)) (.slice vo (cP (fs 0)) vc) (.slice (some (a.add 1)) (cP (fs 0)) (cap - 1)) (cP (fs 0)) (bP (fs 0)) _ _ _ w2.drew hIL ((PL.sub1 hPD.out (by omega) (by omega)).ext (Ext.refl w2).draw) (fun i hi => hls (i + 1) (by omega)) hn64.2)
    rw [plA_row] at kr
    have s1 : (0 : Int) ≤ (cP (fs 0) : Int) + 1 ∧ (cP (fs 0) : Int) + 1 ≤ (cap : Int) := by omega
    have s2 : (1 : Int) ≤ (cP (fs 0) : Int) + 1 := by omega
    have s3 : ¬ cap = 1 := by omega
    clear hIL
    go_upto_region 7 with (fail)
    refine wp_region_lad (fun X => Ext w2.drew X) [(false, 0), (false, 1), (false, 2), (false, 3), (false, 4), (true, 5), (false, 6)] (by kernel_rfl) (by kernel_rfl) (by decide +kernel) (by decide +kernel) (by decide +kernel) (by decide +kernel) (Ext.refl _) ?_
    refine wpX_f _ (.agg (row 3 (plV (nP (fs 0)) (tP (fs 0)) (.slice vo (cP (fs 0)) vc))).toArray) rfl rfl (fun X hX => exec_loadR 76 (.tmp 7) rfl p 0 3 _ rfl (hR2.out.drew.carry hX).range Tryd.underlying76 rfl info47) ?_
    simp only [List.getElem_toArray, List.getElem_cons_zero, Act.put, List.setIfInBounds_toArray, List.set_cons_zero, List.set_cons_succ]
    refine wpX_f _ (.slice (some a) m cap) rfl rfl (fun X _ => by simp [go_sem]) ?_
    simp only [zp4, zp5, zp6, zp0, zp1, zp2, zp3]
    refine wpX_f _ (.int .i64 (n2 : Int)) rfl rfl (fun X _ => by simp [go_sem]) ?_
    simp only [zp4, zp5, zp6, zp0, zp1, zp2, zp3]
    refine wpX_f _ (.int .i64 ((cP (fs 0) + 1 : Nat) : Int)) rfl rfl (fun X _ => by simp [go_sem, sub1]) ?_
    simp only [zp4, zp5, zp6, zp0, zp1, zp2, zp3]
    refine wpX_f _ (.slice (some (a.add 1)) (cP (fs 0)) (cap - 1)) rfl rfl (fun X _ => by simp [go_sem, s1, s2, s3, Addr.add]) ?_
    simp only [zp4, zp5, zp6, zp0, zp1, zp2, zp3]
    refine wpX_call _ rfl rfl (by simp [go_sem]) ((kr.out).mono ?_)
    rintro e w7 ⟨v7, us7, rfl, hD7, hX7⟩
    refine ⟨_, rfl, fun X => Ext w7 X, fun X hX => Ext.trans hX7 hX, Ext.refl _, ?_⟩
    obtain ⟨v7o, v7c, rfl⟩ := hD7.form
    simp only [zp4, zp5, zp6, zp0, zp1, zp2, zp3]
    refine wpX_f _ (.slice v7o (cP (fs 0)) v7c) rfl rfl (fun X _ => by simp [go_sem]) ?_
    simp only [zp4, zp5, zp6, zp0, zp1, zp2, zp3]
    refine wpX_nil ?_
    have hE7 := hideit (Ext.trans hE2.out (Ext.trans (Ext.refl w2).draw hX7))
    have hRL := hideit (hD7.rls (by omega) (fun i hi => hls (i + 1) (by omega)))
    replace hD7 : Hid (RDs w.heap.size (.slice v7o (cP (fs 0)) v7c) (cP (fs 0)) (bP (fs 0)) us7 (fun i => ls (i + 1)) (unL ls fs) w7) := ⟨hD7.own.down2 (Below.size hE2.out.draw), fun i hi => ⟨(hD7.byt i hi).1.down (Below.size hE2.out.draw), (hD7.byt i hi).2⟩⟩
    clear kr sub1 s1 s2 s3 hO2 hR2 hPD hX7 hE2
    by_cases hok : okT x (cP (fs 0)) (bP (fs 0)) (fun i => ls (i + 1)) (unL ls fs)
    · have kb := hideit (blocks_ok x (.slice v7o (cP (fs 0)) v7c) (cP (fs 0)) (bP (fs 0)) us7 (fun i => ls (i + 1)) (unL ls fs) w7 hRL.out (fun i _ => bP_ok (fs 0) i) (by omega) (hT.out.ext hE7.out) hok)
      replace hok := hideit hok
      go_upto_region 8 with (fail)
      refine wp_region_lit ?_
      refine wpList_run rfl (.int .u64 (x.toNat : Int)) (by simp [go_sem]) ?_
      simp only [zp0, zp1, zp2, zp3]
      refine wpList_run rfl (.slice v7o (cP (fs 0)) v7c) (by simp [go_sem]) ?_
      simp only [zp0, zp1, zp2, zp3]
      refine wpList_call rfl (by simp [go_sem]) ((kb.out).mono ?_)
      rintro e w8 ⟨v8, us8, rfl, hB8, hX8⟩
      refine ⟨_, rfl, ?_⟩
      simp only [zp0, zp1, zp2, zp3]
      obtain ⟨v8o, v8c, rfl⟩ := hB8.form
      have hE8 := hideit (Ext.trans hE7.out hX8)
      replace hD7 := hideit (hD7.out.ext hX8)
      have ke := hideit (eqf_any (.slice v8o (cP (fs 0) + 2) v8c) (.slice (some a) n2 cap) (cP (fs 0) + 2) n2 us8 us (fun _ => 512) ls _ fs w8 hB8.pl (hpre.out.ext hE8.out) (by omega) (by omega))
      clear kb hRL hB8 hX8 hE7 hT hP hpre
      refine wpList_run rfl (.tuple #[.slice v8o (cP (fs 0) + 2) v8c, .int .i64 0]) (by simp [go_sem]) ?_
      simp only [zp0, zp1, zp2, zp3]
      refine wpList_run rfl (.slice v8o (cP (fs 0) + 2) v8c) (by simp [go_sem]) ?_
      simp only [zp0, zp1, zp2, zp3]
      refine wpList_run rfl (.int .i64 0) (by simp [go_sem]) ?_
      simp only [zp0, zp1, zp2, zp3]
      refine wpList_run rfl (.slice v8o (cP (fs 0) + 2) v8c) (by simp [go_sem]) ?_
      simp only [zp0, zp1, zp2, zp3]
      refine wpList_run rfl (.int .i64 0) (by simp [go_sem]) ?_
      simp only [zp0, zp1, zp2, zp3]
      have s2 : (n2 : Int) ≤ (cap : Int) := by omega
      have s3 : n2 ≤ cap := by omega
      go_upto_region 9 with (fail)
      refine wp_region_lit ?_
      refine wpList_run rfl (.int .i64 0) (by simp [go_sem]) ?_
      simp only [zp0, zp1, zp2, zp3]
      refine wpList_run rfl (.bool false) (by simp [go_sem]) ?_
      simp only [zp0, zp1, zp2, zp3]
      refine wpList_run rfl (.bool false) (by simp [go_sem]) ?_
      simp only [zp0, zp1, zp2, zp3]
      refine wpList_runW rfl (.slice v8o (cP (fs 0) + 2) v8c) (by simp [go_sem]) ?_
      simp only [zp0, zp1, zp2, zp3]
      refine wpList_runW rfl (.slice (some a) m cap) (by simp [go_sem]) ?_
      simp only [zp0, zp1, zp2, zp3]
      refine wpList_runW rfl (.int .i64 (n2 : Int)) (by simp [go_sem]) ?_
      simp only [zp0, zp1, zp2, zp3]
      refine wpList_runW rfl (.slice (some a) n2 cap) (by simp [go_sem, s2]) ?_
      simp only [zp0, zp1, zp2, zp3]
      refine wpList_callW rfl (by simp [go_sem]) ((ke.out).mono ?_)
      rintro e w9 ⟨r, rfl, hr, hX9⟩
      refine ⟨_, rfl, ?_⟩
      simp only [zp0, zp1, zp2, zp3]
      have hE9 := hideit (Ext.trans hE8.out hX9)
      replace hD7 := hideit (hD7.out.ext hX9)
      clear ke hX9 hE8 s2 s3
      cases r with
      | true =>
        have htx : Hid (isTx x ls fs) := ⟨hok.out, by rw [← hn2]; rw [← hn2] at hr; exact hr.1 rfl⟩
        clear hr hok
        refine wpList_runW rfl (.bool false) (by simp [go_sem]) ?_
        simp only [zp0, zp1, zp2, zp3]
        refine wpList_run rfl (.bool false) (by simp [go_sem]) ?_
        simp only [zp0, zp1, zp2, zp3]
        go_wp2
        refine bodyPost_ret (results_tmp3 rfl _ _ _) rfl ?_
        exact paq_yes hE9.out htx.out _ us7 (by rw [← hn2]; rfl) hD7.out
      | false =>
        have htx : Hid (¬ isTx x ls fs) := fun h => by
          have q := h.2
          rw [← hn2] at q hr
          have := hr.2 q
          cases this
        clear hr hok
        refine wpList_runW rfl (.bool true) (by simp [go_sem]) ?_
        simp only [zp0, zp1, zp2, zp3]
        refine wpList_run rfl (.bool true) (by simp [go_sem]) ?_
        simp only [zp0, zp1, zp2, zp3]
        go_wp2
        refine bodyPost_ret (results_tmp3 rfl _ _ _) rfl ?_
        exact paq_no hE9.out htx.out rfl
    · have kb := hideit (blocks_no x (.slice v7o (cP (fs 0)) v7c) (cP (fs 0)) (bP (fs 0)) us7 (fun i => ls (i + 1)) (unL ls fs) w7 hRL.out (fun i _ => bP_ok (fs 0) i) (by omega) hok)
      have htx : Hid (¬ isTx x ls fs) := fun h => hok h.1
      clear hok hT hP hpre
      go_upto_region 8 with (fail)
      refine wp_region_lit ?_
      refine wpList_run rfl (.int .u64 (x.toNat : Int)) (by simp [go_sem]) ?_
      simp only [zp0, zp1, zp2, zp3]
      refine wpList_run rfl (.slice v7o (cP (fs 0)) v7c) (by simp [go_sem]) ?_
      simp only [zp0, zp1, zp2, zp3]
      refine wpList_call rfl (by simp [go_sem]) ((kb.out).mono ?_)
      rintro e w8 ⟨rfl, hX8⟩
      refine ⟨_, rfl, ?_⟩
      simp only [zp0, zp1, zp2, zp3]
      have hE8 := hideit (Ext.trans hE7.out hX8)
      clear kb hRL hX8 hE7 hD7
      refine wpList_run rfl (.tuple #[.slice none 0 0, .int .i64 1]) (by simp [go_sem]) ?_
      simp only [zp0, zp1, zp2, zp3]
      refine wpList_run rfl (.slice none 0 0) (by simp [go_sem]) ?_
      simp only [zp0, zp1, zp2, zp3]
      refine wpList_run rfl (.int .i64 1) (by simp [go_sem]) ?_
      simp only [zp0, zp1, zp2, zp3]
      refine wpList_run rfl (.slice none 0 0) (by simp [go_sem]) ?_
      simp only [zp0, zp1, zp2, zp3]
      refine wpList_run rfl (.int .i64 1) (by simp [go_sem]) ?_
      simp only [zp0, zp1, zp2, zp3]
      go_upto_region 9 with (fail)
      refine wp_region_lit ?_
      refine wpList_run rfl (.int .i64 1) (by simp [go_sem]) ?_
      simp only [zp0, zp1, zp2, zp3]
      refine wpList_run rfl (.bool true) (by simp [go_sem]) ?_
      simp only [zp0, zp1, zp2, zp3]
      refine wpList_run rfl (.bool true) (by simp [go_sem]) ?_
      simp only [zp0, zp1, zp2, zp3]
      refine wpList_skip rfl ?_
      simp only [zp0, zp1, zp2, zp3]
      refine wpList_skip rfl ?_
      simp only [zp0, zp1, zp2, zp3]
      refine wpList_skip rfl ?_
      simp only [zp0, zp1, zp2, zp3]
      refine wpList_skip rfl ?_
      simp only [zp0, zp1, zp2, zp3]
      refine wpList_skip rfl ?_
      simp only [zp0, zp1, zp2, zp3]
      refine wpList_skip rfl ?_
      simp only [zp0, zp1, zp2, zp3]
      refine wpList_run rfl (.bool true) (by simp [go_sem]) ?_
      simp only [zp0, zp1, zp2, zp3]
      go_wp2
      refine bodyPost_ret (results_tmp3 rfl _ _ _) rfl ?_
      exact paq_no hE8.out htx.out rfl
  · exact absurd hpl hnp
end Go.Proofs.YtiakkclabgelfaaDoor
