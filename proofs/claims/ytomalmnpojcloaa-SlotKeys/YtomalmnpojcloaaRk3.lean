/-
  What any bytes are as keys, by the document.
-/
import Derived.Test.YtomalmnpojcloaaRk2
namespace Go.Proofs.Ytomalmnpojcloaa
open Go.RowKit Go.BigFrame
theorem i64_or_nat (a b : Nat) (ha : a < 9223372036854775808) (hb : b < 9223372036854775808) : bits .or .i64 (a : Int) (b : Int) = ((a ||| b : Nat) : Int) := by
  have hx : a ||| b < 2 ^ 63 := Nat.or_lt_two_pow (by omega) (by omega)
  show IntKind.i64.wrap ((BitVec.ofInt 64 (a : Int) ||| BitVec.ofInt 64 (b : Int)).toNat : Int) = _
  rw [BitVec.toNat_or, ofInt_u64 a (by omega), ofInt_u64 b (by omega), IntKind.wrap_i64]
  omega
theorem le_or (g : Nat → BitVec 8) (k : Nat) (hk : k ≤ 3) : bits .or .i64 ((leS g k : Nat) : Int) (((g k).toNat * 2 ^ (8 * k) : Nat) : Int) = ((leS g (k + 1) : Nat) : Int) := by
  have h1 := (leN_nat g k (by omega)).2
  have h2 := (leN_nat g (k + 1) (by omega)).2
  have h3 : leS g (k + 1) = leS g k + (g k).toNat * 2 ^ (8 * k) := rfl
  have h4 : 2 ^ (8 * (k + 1)) ≤ 2 ^ 32 := Nat.pow_le_pow_right (by decide) (by omega)
  rw [i64_or_nat _ _ (by omega) (by omega), Nat.or_comm, ← Nat.shiftLeft_eq, ← Nat.shiftLeft_add_eq_or_of_lt h1, Nat.shiftLeft_eq, h3, Nat.add_comm]
theorem rk_ep (b : Nat → BitVec 8) (i j : Nat) (hj : j < 65) : epv ((leS (fun j => b (5 + 68 * i + j)) 4 : Nat) : Int) (fun j => if j < 64 then b (5 + 68 * i + 4 + j) else 0#8) j = epv (xG (shF b 5) i) (fG (shF b 5) i) j := by
  have e : shF (shF b 5) (68 * i) = fun j => b (5 + 68 * i + j) := funext fun j => by
    show b (5 + (68 * i + j)) = _
    rw [Nat.add_assoc]
  unfold epv
  by_cases h0 : j = 0
  · rw [if_pos h0, if_pos h0]
    unfold xG
    rw [e, (leN_nat _ 4 (by decide)).1]
  · rw [if_neg h0, if_neg h0]
    show Value.int .u8 ((if j - 1 < 64 then b (5 + 68 * i + 4 + (j - 1)) else 0#8).toNat : Int) = Value.int .u8 ((shF (shF b 5) (68 * i) (4 + (j - 1))).toNat : Int)
    rw [if_pos (by omega), e, Nat.add_assoc (5 + 68 * i)]
theorem by_le4 (g : Nat → BitVec 8) (m : Nat) (hm : m < 4) : byB (leN g 4) m = g m := by
  apply BitVec.eq_of_toNat_eq
  rw [byB_nat, (leN_nat g 4 (by decide)).1]
  have h0 := (g 0).isLt
  have h1 := (g 1).isLt
  have h2 := (g 2).isLt
  have h3 := (g 3).isLt
  simp only [leS]
  rcases (by omega : m = 0 ∨ m = 1 ∨ m = 2 ∨ m = 3) with rfl | rfl | rfl | rfl <;> omega
theorem xB_xG (f : Nat → BitVec 8) (i : Nat) : xB (xG f) i = leN (shF f (68 * i)) 4 := by
  unfold xB xG
  apply BitVec.eq_of_toNat_eq
  rw [Int.toNat_natCast, BitVec.toNat_ofNat, Nat.mod_eq_of_lt (BitVec.isLt _)]
/-- keys' block: what it says, and that nothing else does -/
theorem okK_iff (b : Nat → BitVec 8) : okK b ↔ (okE (b 4).toNat (xG (shF b 5)) ∧ eqN 512 (keB (b 4).toNat (xG (shF b 5)) (fG (shF b 5)) (shF b (5 + 68 * (b 4).toNat))) b = true) := by
  obtain ⟨n, hnn⟩ : ∃ n, n = (b 4).toNat := ⟨_, rfl⟩
  unfold okK
  have hb4 := (b 4).isLt
  rw [← hnn] at hb4 ⊢
  rw [eqN_iff, eqN_iff, zB_spec]
  constructor
  · rintro ⟨h1, h2, h3⟩
    refine ⟨h2, fun j hj => ?_⟩
    by_cases c1 : j < 5 + 68 * n
    · rw [keB_se j c1]
      unfold seF
      by_cases c2 : j < 4
      · rw [if_pos c2, h1 j c2]
      · rw [if_neg c2]
        by_cases c3 : j = 4
        · rw [if_pos c3, c3]
          apply BitVec.eq_of_toNat_eq
          rw [BitVec.toNat_ofNat, ← hnn]
          omega
        · rw [if_neg c3]
          unfold manyB oneB
          have hd : j = 5 + (68 * ((j - 5) / 68) + (j - 5) % 68) := by omega
          by_cases c4 : (j - 5) % 68 < 4
          · rw [if_pos c4, xB_xG, by_le4 _ _ c4]
            show b (5 + (68 * ((j - 5) / 68) + (j - 5) % 68)) = b j
            rw [← hd]
          · rw [if_neg c4]
            show b (5 + (68 * ((j - 5) / 68) + (4 + ((j - 5) % 68 - 4)))) = b j
            rw [show 4 + ((j - 5) % 68 - 4) = (j - 5) % 68 by omega, ← hd]
    · by_cases c2 : j < 37 + 68 * n
      · unfold keB padF keF catF
        rw [if_pos c2, if_neg c1]
        show b (5 + 68 * n + (j - (5 + 68 * n))) = b j
        rw [show 5 + 68 * n + (j - (5 + 68 * n)) = j by omega]
      · unfold keB padF
        rw [if_neg c2]
        have := h3 (j - (37 + 68 * n)) (by omega)
        replace this : b (37 + 68 * n + (j - (37 + 68 * n))) = 0#8 := this
        rw [show 37 + 68 * n + (j - (37 + 68 * n)) = j by omega] at this
        exact this.symm
  · rintro ⟨h1, h2⟩
    refine ⟨fun j hj => ?_, h1, fun j hj => ?_⟩
    · rw [← h2 j (by omega), keB_se j (by omega)]
      unfold seF
      rw [if_pos hj]
    · show b (37 + 68 * n + j) = 0#8
      rw [← h2 (37 + 68 * n + j) (by omega)]
      unfold keB padF
      rw [if_neg (by omega)]
theorem exec_build {P : Program} {o : Oper} {a : Act} {w : World} (t : TypeId) (l : List (Nat × Operand)) (ho : o.op = .build t l.toArray) (v : Value) (hr : (Instr.build t (l.map fun x => (x.1, a.eval x.2)).toArray).run P w = .ok v w) : (execOp a.eval o).run P w = .ok (.value v) w := by
  unfold execOp
  rw [ho]
  simp only [List.map_toArray, Sem.run_bind, hr, Result.andThen_ok, Sem.run_pure]
theorem made37' (w : World) : RowAt w.heap.size 33 (kyv (.slice none 0 0) zF) (w.alloc (.cells zk37 37)) ∧ Ext w (w.alloc (.cells zk37 37)) := ⟨(made37 w (.slice none 0 0) zF).1, (made37 w (.slice none 0 0) zF).2.1⟩
theorem zero37 (w : World) : (zeroValue 37).run Try.prog w = .ok (.agg zk37) w := by kernel_rfl
theorem alloc37 {o : Oper} {a : Act} {w : World} (ho : o.op = .alloc 37) : (execOp a.eval o).run Try.prog w = .ok (.value (.pointer (some ⟨w.heap.size, 0, none⟩))) (w.alloc (.cells zk37 37)) := exec_alloc 37 zk37 ho (zero37 w)
set_option maxRecDepth 20000 in
set_option maxHeartbeats 2000000 in
theorem rkd_len (oa : Option Addr) (l cp : Nat) (hl : l ≠ 512) (w : World) : Calls Try.prog 19 #[.slice oa l cp] w fun e w' => e = .returned (.tuple #[.agg (row 33 (kyv (.slice none 0 0) zF)).toArray, .int .i64 110]) ∧ Ext w w' := by
  have hl2 : ((l : Int) != 512) = true := by rw [bne_iff_ne]; omega
  obtain ⟨Q1, hE1⟩ := made37' w
  replace Q1 := hideit Q1
  replace hE1 := hideit hE1
  go_enter Try.func19, Try.ntmps19
  go_upto_region 0 with (fail)
  refine wp_region_lit ?_
  refine wpList_to rfl (.pointer (some ⟨w.heap.size, 0, none⟩)) (w.alloc (.cells zk37 37)) (alloc37 rfl) ?_
  simp only [Act.put, List.setIfInBounds_toArray, List.set_cons_zero, List.set_cons_succ]
  generalize w.alloc (.cells zk37 37) = w1 at *
  obtain ⟨q, hq⟩ : ∃ q, q = w.heap.size := ⟨_, rfl⟩
  have hwq : Hid (w.heap.size ≤ q) := hideit (by omega)
  rw [← hq] at Q1 ⊢
  clear hq
  go_upto_region 2 with (fail)
  refine wp_region_lit ?_
  refine wpList_build rfl 37 [] rfl (.agg (row 33 (kyv (.slice none 0 0) zF)).toArray) (bl37e _) ?_
  simp only [Act.put, List.setIfInBounds_toArray, List.set_cons_zero, List.set_cons_succ]
  refine wpList_store_mid rfl 37 (.tmp 2) (.tmp 27) rfl q 0 (row 33 (kyv (.slice none 0 0) zF)).toArray rfl rfl (by rw [row_size]; exact Q1.out.there) (by rw [row_size]; exact info37) (row_one (kyv_one _ _ _ _)) ?_
  rw [show (row 33 (kyv (.slice none 0 0) zF)).toArray.toList = row 33 (kyv (.slice none 0 0) zF) from rfl]
  have h9 : Hid (RowAt q 33 (kyv (.slice none 0 0) zF) (w1.setCells q 0 (row 33 (kyv (.slice none 0 0) zF)))) := hideit Q1.out.cells
  have hE9 : Hid (Ext w (w1.setCells q 0 (row 33 (kyv (.slice none 0 0) zF)))) := hideit (below_setCells _ hwq.out _ _ _ hE1.out)
  clear Q1 hE1
  generalize w1.setCells q 0 (row 33 (kyv (.slice none 0 0) zF)) = w9 at *
  simp only [Act.put]
  go_wp2
  exact bodyPost_ret (ret_row2 Try.results19 rfl h9.out Try.underlying37 rfl info37) rfl ⟨rfl, hE9.out⟩
set_option maxRecDepth 20000 in
set_option maxHeartbeats 2000000 in
theorem rkd_num (ad : Addr) (cp : Nat) (b : Nat → BitVec 8) (w : World) (hL : Hid (LieAt ad 512 (yv b) w)) (hn : ¬ ((b 4).toNat = 1 ∨ (b 4).toNat = 2)) : Calls Try.prog 19 #[.slice (some ad) 512 cp] w fun e w' => e = .returned (.tuple #[.agg (row 33 (kyv (.slice none 0 0) zF)).toArray, .int .i64 110]) ∧ Ext w w' := by
  obtain ⟨Q1, hE1⟩ := made37' w
  replace Q1 := hideit Q1
  replace hE1 := hideit hE1
  go_enter Try.func19, Try.ntmps19
  go_upto_region 0 with (fail)
  refine wp_region_lit ?_
  refine wpList_to rfl (.pointer (some ⟨w.heap.size, 0, none⟩)) (w.alloc (.cells zk37 37)) (alloc37 rfl) ?_
  simp only [Act.put, List.setIfInBounds_toArray, List.set_cons_zero, List.set_cons_succ]
  generalize w.alloc (.cells zk37 37) = w1 at *
  obtain ⟨q, hq⟩ : ∃ q, q = w.heap.size := ⟨_, rfl⟩
  have hwq : Hid (w.heap.size ≤ q) := hideit (by omega)
  rw [← hq] at Q1 ⊢
  clear hq
  have e4 : w1.cell? ⟨ad.block, ad.off + 4, none⟩ = some (.int .u8 ((b 4).toNat : Int)) := (hL.out.carry hE1.out).1 4 (by decide)
  have hb8 := (b 4).isLt
  by_cases c1 : ((b 4).toNat : Int) < 1
  · clear hn
    go_upto_region 2 with (fail)
    refine wp_region_lit ?_
    refine wpList_build rfl 37 [] rfl (.agg (row 33 (kyv (.slice none 0 0) zF)).toArray) (bl37e _) ?_
    simp only [Act.put, List.setIfInBounds_toArray, List.set_cons_zero, List.set_cons_succ]
    refine wpList_store_mid rfl 37 (.tmp 2) (.tmp 27) rfl q 0 (row 33 (kyv (.slice none 0 0) zF)).toArray rfl rfl (by rw [row_size]; exact Q1.out.there) (by rw [row_size]; exact info37) (row_one (kyv_one _ _ _ _)) ?_
    rw [show (row 33 (kyv (.slice none 0 0) zF)).toArray.toList = row 33 (kyv (.slice none 0 0) zF) from rfl]
    have h9 : Hid (RowAt q 33 (kyv (.slice none 0 0) zF) (w1.setCells q 0 (row 33 (kyv (.slice none 0 0) zF)))) := hideit Q1.out.cells
    have hE9 : Hid (Ext w (w1.setCells q 0 (row 33 (kyv (.slice none 0 0) zF)))) := hideit (below_setCells _ hwq.out _ _ _ hE1.out)
    clear Q1 hE1
    generalize w1.setCells q 0 (row 33 (kyv (.slice none 0 0) zF)) = w9 at *
    simp only [Act.put]
    go_wp2
    exact bodyPost_ret (ret_row2 Try.results19 rfl h9.out Try.underlying37 rfl info37) rfl ⟨rfl, hE9.out⟩
  · have c2 : (2 : Int) < ((b 4).toNat : Int) := by omega
    clear hn
    go_upto_region 2 with (fail)
    refine wp_region_lit ?_
    refine wpList_build rfl 37 [] rfl (.agg (row 33 (kyv (.slice none 0 0) zF)).toArray) (bl37e _) ?_
    simp only [Act.put, List.setIfInBounds_toArray, List.set_cons_zero, List.set_cons_succ]
    refine wpList_store_mid rfl 37 (.tmp 2) (.tmp 27) rfl q 0 (row 33 (kyv (.slice none 0 0) zF)).toArray rfl rfl (by rw [row_size]; exact Q1.out.there) (by rw [row_size]; exact info37) (row_one (kyv_one _ _ _ _)) ?_
    rw [show (row 33 (kyv (.slice none 0 0) zF)).toArray.toList = row 33 (kyv (.slice none 0 0) zF) from rfl]
    have h9 : Hid (RowAt q 33 (kyv (.slice none 0 0) zF) (w1.setCells q 0 (row 33 (kyv (.slice none 0 0) zF)))) := hideit Q1.out.cells
    have hE9 : Hid (Ext w (w1.setCells q 0 (row 33 (kyv (.slice none 0 0) zF)))) := hideit (below_setCells _ hwq.out _ _ _ hE1.out)
    clear Q1 hE1
    generalize w1.setCells q 0 (row 33 (kyv (.slice none 0 0) zF)) = w9 at *
    simp only [Act.put]
    go_wp2
    exact bodyPost_ret (ret_row2 Try.results19 rfl h9.out Try.underlying37 rfl info37) rfl ⟨rfl, hE9.out⟩
set_option maxRecDepth 20000 in
set_option maxHeartbeats 2000000 in
theorem rkd_run (ad : Addr) (cp : Nat) (b : Nat → BitVec 8) (w : World) (hL : Hid (LieAt ad 512 (yv b) w)) (hcp : 512 ≤ cp) (hn : (b 4).toNat = 1 ∨ (b 4).toNat = 2) : Calls Try.prog 19 #[.slice (some ad) 512 cp] w fun e w' => ((okK b ∧ ∃ u, e = .returned (.tuple #[.agg (row 33 (kyv u (shF b (5 + 68 * (b 4).toNat)))).toArray, .int .i64 0]) ∧ EV u (b 4).toNat (xG (shF b 5)) (fG (shF b 5)) w') ∨ (¬ okK b ∧ e = .returned (.tuple #[.agg (row 33 (kyv (.slice none 0 0) zF)).toArray, .int .i64 110]))) ∧ Ext w w' := by
  obtain ⟨N, hN⟩ : ∃ N, N = (b 4).toNat := ⟨_, rfl⟩
  rw [← hN]
  have hN' := hideit hN
  clear hN
  obtain ⟨Q1, hE1⟩ := made37' w
  replace Q1 := hideit Q1
  replace hE1 := hideit hE1
  go_enter Try.func19, Try.ntmps19
  go_upto_region 0 with (fail)
  refine wp_region_lit ?_
  refine wpList_to rfl (.pointer (some ⟨w.heap.size, 0, none⟩)) (w.alloc (.cells zk37 37)) (alloc37 rfl) ?_
  simp only [Act.put, List.setIfInBounds_toArray, List.set_cons_zero, List.set_cons_succ]
  generalize w.alloc (.cells zk37 37) = w1 at *
  obtain ⟨q, hq⟩ : ∃ q, q = w.heap.size := ⟨_, rfl⟩
  have hwq : Hid (w.heap.size ≤ q) := hideit (by omega)
  rw [← hq] at Q1 ⊢
  have haq : Hid (ad.block < q) := hideit (by have := hL.out.2; omega)
  clear hq
  have L1 := hideit (hL.out.carry hE1.out)
  have hb8 := (b 4).isLt
  have e4 : w1.cell? ⟨ad.block, ad.off + 4, none⟩ = some (.int .u8 ((b 4).toNat : Int)) := L1.out.1 4 (by decide)
  obtain ⟨n, hnn⟩ : ∃ n, n = (b 4).toNat := ⟨_, rfl⟩
  have hokk := hideit (okK_iff b)
  rw [← hnn] at e4 hb8 hn hokk
  have hNn : n = N := by rw [hN'.out, hnn]
  subst hNn
  have hnn' := hideit hnn
  clear hnn
  have c1 : ¬ (n : Int) < 1 := by omega
  have c2 : ¬ (2 : Int) < (n : Int) := by omega
  have hn1 : 1 ≤ n := by omega
  have hn2 : n ≤ 2 := by omega
  have n0' : (0 : Int) ≤ (n : Int) := by omega
  have n2' : (n : Int) ≤ 2 := by omega
  replace hn := hideit hn
  go_upto_region 3 with (fail)
  obtain ⟨H1, hA1, H2, hA2⟩ := made37 w1 (.slice none 0 0) zF
  obtain ⟨s, hs⟩ : ∃ s, s = w1.heap.size := ⟨_, rfl⟩
  have hqs : Hid (q < s) := hideit (by rw [hs]; exact Q1.out.2.2)
  have has : Hid (ad.block < s) := hideit (by have := haq.out; have := hqs.out; omega)
  have hws : Hid (w.heap.size ≤ s) := hideit (by have := hwq.out; have := hqs.out; omega)
  rw [← hs] at H1 H2 hA2
  refine wp_region_lit ?_
  refine wpList_build rfl 37 [] rfl (.agg (row 33 (kyv (.slice none 0 0) zF)).toArray) (bl37e _) ?_
  simp only [Act.put, List.setIfInBounds_toArray, List.set_cons_zero, List.set_cons_succ]
  refine wpList_to rfl (.pointer (some ⟨s, 0, none⟩)) (w1.alloc (.cells zk37 37)) (by rw [hs]; exact alloc37 rfl) ?_
  simp only [Act.put, List.setIfInBounds_toArray, List.set_cons_zero, List.set_cons_succ]
  refine wpList_store_mid rfl 37 (.tmp 4) (.tmp 28) rfl s 0 (row 33 (kyv (.slice none 0 0) zF)).toArray rfl rfl (by rw [row_size]; exact H1.there) (by rw [row_size]; exact info37) (row_one (kyv_one _ _ _ _)) ?_
  rw [show (row 33 (kyv (.slice none 0 0) zF)).toArray.toList = row 33 (kyv (.slice none 0 0) zF) from rfl]
  have Q2 := hideit (Q1.out.carry hA2)
  have S2 := hideit H2
  have L2 := hideit (L1.out.carry hA2)
  have hE2 := hideit (Ext.trans hE1.out hA2)
  clear H1 hA1 H2 hA2 hs Q1 L1 hE1 e4
  generalize (w1.alloc (.cells zk37 37)).setCells s 0 (row 33 (kyv (.slice none 0 0) zF)) = w2 at *
  obtain ⟨B0, hB0⟩ : ∃ B0, B0 = w2.heap.size := ⟨_, rfl⟩
  have hsB : Hid (s < B0) := hideit (by rw [hB0]; exact S2.out.2.2)
  have hwB : Hid (w.heap.size ≤ B0) := hideit (by rw [hB0]; exact Below.size hE2.out)
  have hB2 : Hid (B0 ≤ w2.heap.size) := hideit (by omega)
  clear hB0
  simp only [Act.put]
  obtain ⟨xs, hxs0⟩ : ∃ xs, xs = xG (shF b 5) := ⟨_, rfl⟩
  obtain ⟨fs, hfs0⟩ : ∃ fs, fs = fG (shF b 5) := ⟨_, rfl⟩
  have hxs' := hideit hxs0
  have hfs' := hideit hfs0
  clear hxs0 hfs0
  go_wp2
  go_loopw [5, 6] (fun av iv X => ∃ i : Nat, i ≤ n ∧ av = .int .i64 ((5 + 68 * i : Nat) : Int) ∧ iv = .int .i64 (i : Int) ∧ ∃ ov cv, OwnK 65 B0 51 (.slice ov i cv) i (epL xs fs) X ∧ RowAt s 33 (kyv (.slice ov i cv) zF) X ∧ RowAt q 33 (kyv (.slice none 0 0) zF) X ∧ LieAt ad 512 (yv b) X ∧ Ext w X ∧ B0 ≤ X.heap.size) (fun _ iv _ => n - (intOf iv).toNat)
  case atStart => exact ⟨0, by omega, rfl, rfl, none, 0, ownK_nil _ _ _ _ _, S2.out, Q2.out, L2.out, hE2.out, hB2.out⟩
  case round =>
    clear Q2 S2 L2 hE2 hB2
    obtain ⟨i, hi, rfl, rfl, ov, cv, hO, hS, hQ, hL3, hE, hB⟩ := hrel
    have O1 := hideit hO
    have S1 := hideit hS
    have Q1 := hideit hQ
    have L1 := hideit hL3
    have hE1 := hideit hE
    have hB1 := hideit hB
    clear hO hS hQ hL3 hE hB
    have e4 : wr.cell? ⟨ad.block, ad.off + 4, none⟩ = some (.int .u8 (n : Int)) := by rw [hnn'.out]; exact L1.out.1 4 (by decide)
    by_cases hlt : i < n
    · have i0 : (0 : Int) ≤ (i : Int) := by omega
      have i1 : (i : Int) < (n : Int) := by omega
      obtain ⟨A, hA⟩ : ∃ A, A = 5 + 68 * i := ⟨_, rfl⟩
      rw [← hA]
      have hA5 : A + 68 ≤ 512 := by omega
      have hA' := hideit hA
      clear hA
      obtain ⟨g, hg⟩ : ∃ g : Nat → BitVec 8, g = fun j => b (A + j) := ⟨_, rfl⟩
      have w1 : IntKind.i64.wrap ((A : Int) + 1) = (A : Int) + 1 := by rw [IntKind.wrap_i64]; omega
      have w2 : IntKind.i64.wrap ((A : Int) + 2) = (A : Int) + 2 := by rw [IntKind.wrap_i64]; omega
      have w3 : IntKind.i64.wrap ((A : Int) + 3) = (A : Int) + 3 := by rw [IntKind.wrap_i64]; omega
      have n0 : (0 : Int) ≤ (A : Int) := by omega
      have n1 : (0 : Int) ≤ (A : Int) + 1 := by omega
      have n2 : (0 : Int) ≤ (A : Int) + 2 := by omega
      have n3 : (0 : Int) ≤ (A : Int) + 3 := by omega
      have m0 : (A : Int) < 512 := by omega
      have m1 : (A : Int) + 1 < 512 := by omega
      have m2 : (A : Int) + 2 < 512 := by omega
      have m3 : (A : Int) + 3 < 512 := by omega
      have t1 : ((A : Int) + 1).toNat = 1 + A := by omega
      have t2 : ((A : Int) + 2).toNat = 2 + A := by omega
      have t3 : ((A : Int) + 3).toNat = 3 + A := by omega
      have y0 := (b A).isLt
      have y1 := (b (1 + A)).isLt
      have y2 := (b (2 + A)).isLt
      have y3 := (b (3 + A)).isLt
      have c0 : IntKind.i64.wrap ((b A).toNat : Int) = ((b A).toNat : Int) := by rw [IntKind.wrap_i64]; omega
      have c1 : IntKind.i64.wrap ((b (1 + A)).toNat : Int) = ((b (1 + A)).toNat : Int) := by rw [IntKind.wrap_i64]; omega
      have c2 : IntKind.i64.wrap ((b (2 + A)).toNat : Int) = ((b (2 + A)).toNat : Int) := by rw [IntKind.wrap_i64]; omega
      have c3 : IntKind.i64.wrap ((b (3 + A)).toNat : Int) = ((b (3 + A)).toNat : Int) := by rw [IntKind.wrap_i64]; omega
      have s1 : IntKind.i64.wrap (((b (1 + A)).toNat : Int) * 256) = ((b (1 + A)).toNat : Int) * 256 := by rw [IntKind.wrap_i64]; omega
      have s2 : IntKind.i64.wrap (((b (2 + A)).toNat : Int) * 65536) = ((b (2 + A)).toNat : Int) * 65536 := by rw [IntKind.wrap_i64]; omega
      have s3 : IntKind.i64.wrap (((b (3 + A)).toNat : Int) * 16777216) = ((b (3 + A)).toNat : Int) * 16777216 := by rw [IntKind.wrap_i64]; omega
      have o1 : bits .or .i64 ((b A).toNat : Int) (((b (1 + A)).toNat : Int) * 256) = ((leS g 2 : Nat) : Int) := by
        have := le_or g 1 (by decide)
        rw [hg] at this ⊢
        simpa [leS, Nat.add_comm] using this
      have o2 : bits .or .i64 ((leS g 2 : Nat) : Int) (((b (2 + A)).toNat : Int) * 65536) = ((leS g 3 : Nat) : Int) := by
        have := le_or g 2 (by decide)
        rw [hg] at this ⊢
        simpa [Nat.add_comm] using this
      have o3 : bits .or .i64 ((leS g 3 : Nat) : Int) (((b (3 + A)).toNat : Int) * 16777216) = ((leS g 4 : Nat) : Int) := by
        have := le_or g 3 (by decide)
        rw [hg] at this ⊢
        simpa [Nat.add_comm] using this
      have hg' := hideit hg
      clear hg y0 y1 y2 y3
      go_upto_region 8 with (fail)
      clear e4
      have hC0 : LieAt ad 512 (yv b) wr.drew := L1.out.carry (Ext.refl wr).draw
      refine wp_region_lad (fun X => LieAt ad 512 (yv b) X) [(false, 0), (false, 1), (false, 2), (false, 3), (false, 4), (false, 5), (false, 6), (false, 7), (false, 8), (false, 9), (false, 10), (false, 11), (false, 12), (false, 13), (false, 14), (false, 15), (false, 16), (false, 17), (false, 18), (false, 19), (false, 20), (false, 21), (false, 22), (false, 23), (false, 24), (false, 25), (false, 26), (false, 27), (false, 28), (false, 29), (true, 30), (true, 31)] (by kernel_rfl) (by kernel_rfl) (by decide +kernel) (by decide +kernel) (by decide +kernel) (by decide +kernel) hC0 ?_
      refine wpX_f _ (.slice (some ad) 512 cp) rfl rfl (fun X _ => by simp [go_sem]) ?_
      simp only [List.getElem_toArray, List.getElem_cons_zero, Act.put, List.setIfInBounds_toArray, List.set_cons_zero, List.set_cons_succ]
      refine wpX_f _ (.int .i64 (A : Int)) rfl rfl (fun X _ => by simp [go_sem]) ?_
      simp only [List.getElem_toArray, List.getElem_cons_zero, List.getElem_cons_succ, Act.put, List.setIfInBounds_toArray, List.set_cons_zero, List.set_cons_succ]
      refine wpX_f _ (.pointer (some (ad.add A))) rfl rfl (fun X _ => by simp [go_sem, n0, m0]) ?_
      simp only [List.getElem_toArray, List.getElem_cons_zero, List.getElem_cons_succ, Act.put, List.setIfInBounds_toArray, List.set_cons_zero, List.set_cons_succ]
      refine wpX_f _ (.int .u8 ((b A).toNat : Int)) rfl rfl (fun X hX => by simp [go_sem, show X.cell? (ad.add A) = some (.int .u8 ((b A).toNat : Int)) from hX.1 A (by omega)]) ?_
      simp only [List.getElem_toArray, List.getElem_cons_zero, List.getElem_cons_succ, Act.put, List.setIfInBounds_toArray, List.set_cons_zero, List.set_cons_succ]
      refine wpX_f _ (.int .i64 ((b A).toNat : Int)) rfl rfl (fun X _ => by simp [go_sem, c0]) ?_
      simp only [List.getElem_toArray, List.getElem_cons_zero, List.getElem_cons_succ, Act.put, List.setIfInBounds_toArray, List.set_cons_zero, List.set_cons_succ]
      refine wpX_f _ (.slice (some ad) 512 cp) rfl rfl (fun X _ => by simp [go_sem]) ?_
      simp only [List.getElem_toArray, List.getElem_cons_zero, List.getElem_cons_succ, Act.put, List.setIfInBounds_toArray, List.set_cons_zero, List.set_cons_succ]
      refine wpX_f _ (.int .i64 (A : Int)) rfl rfl (fun X _ => by simp [go_sem]) ?_
      simp only [List.getElem_toArray, List.getElem_cons_zero, List.getElem_cons_succ, Act.put, List.setIfInBounds_toArray, List.set_cons_zero, List.set_cons_succ]
      refine wpX_f _ (.int .i64 ((A : Int) + 1)) rfl rfl (fun X _ => by simp [go_sem, w1]) ?_
      simp only [List.getElem_toArray, List.getElem_cons_zero, List.getElem_cons_succ, Act.put, List.setIfInBounds_toArray, List.set_cons_zero, List.set_cons_succ]
      refine wpX_f _ (.pointer (some (ad.add (1 + A)))) rfl rfl (fun X _ => by simp [go_sem, n1, m1, t1]) ?_
      simp only [List.getElem_toArray, List.getElem_cons_zero, List.getElem_cons_succ, Act.put, List.setIfInBounds_toArray, List.set_cons_zero, List.set_cons_succ]
      refine wpX_f _ (.int .u8 ((b (1 + A)).toNat : Int)) rfl rfl (fun X hX => by simp [go_sem, show X.cell? (ad.add (1 + A)) = some (.int .u8 ((b (1 + A)).toNat : Int)) from hX.1 (1 + A) (by omega)]) ?_
      simp only [List.getElem_toArray, List.getElem_cons_zero, List.getElem_cons_succ, Act.put, List.setIfInBounds_toArray, List.set_cons_zero, List.set_cons_succ]
      refine wpX_f _ (.int .i64 ((b (1 + A)).toNat : Int)) rfl rfl (fun X _ => by simp [go_sem, c1]) ?_
      simp only [List.getElem_toArray, List.getElem_cons_zero, List.getElem_cons_succ, Act.put, List.setIfInBounds_toArray, List.set_cons_zero, List.set_cons_succ]
      refine wpX_f _ (.int .i64 (((b (1 + A)).toNat * 2 ^ (8 * 1) : Nat) : Int)) rfl rfl (fun X _ => by simp [go_sem, s1]) ?_
      simp only [List.getElem_toArray, List.getElem_cons_zero, List.getElem_cons_succ, Act.put, List.setIfInBounds_toArray, List.set_cons_zero, List.set_cons_succ]
      refine wpX_f _ (.int .i64 ((leS g 2 : Nat) : Int)) rfl rfl (fun X _ => by simp [go_sem, o1]) ?_
      simp only [List.getElem_toArray, List.getElem_cons_zero, List.getElem_cons_succ, Act.put, List.setIfInBounds_toArray, List.set_cons_zero, List.set_cons_succ]
      refine wpX_f _ (.slice (some ad) 512 cp) rfl rfl (fun X _ => by simp [go_sem]) ?_
      simp only [List.getElem_toArray, List.getElem_cons_zero, List.getElem_cons_succ, Act.put, List.setIfInBounds_toArray, List.set_cons_zero, List.set_cons_succ]
      refine wpX_f _ (.int .i64 (A : Int)) rfl rfl (fun X _ => by simp [go_sem]) ?_
      simp only [List.getElem_toArray, List.getElem_cons_zero, List.getElem_cons_succ, Act.put, List.setIfInBounds_toArray, List.set_cons_zero, List.set_cons_succ]
      refine wpX_f _ (.int .i64 ((A : Int) + 2)) rfl rfl (fun X _ => by simp [go_sem, w2]) ?_
      simp only [List.getElem_toArray, List.getElem_cons_zero, List.getElem_cons_succ, Act.put, List.setIfInBounds_toArray, List.set_cons_zero, List.set_cons_succ]
      refine wpX_f _ (.pointer (some (ad.add (2 + A)))) rfl rfl (fun X _ => by simp [go_sem, n2, m2, t2]) ?_
      simp only [List.getElem_toArray, List.getElem_cons_zero, List.getElem_cons_succ, Act.put, List.setIfInBounds_toArray, List.set_cons_zero, List.set_cons_succ]
      refine wpX_f _ (.int .u8 ((b (2 + A)).toNat : Int)) rfl rfl (fun X hX => by simp [go_sem, show X.cell? (ad.add (2 + A)) = some (.int .u8 ((b (2 + A)).toNat : Int)) from hX.1 (2 + A) (by omega)]) ?_
      simp only [List.getElem_toArray, List.getElem_cons_zero, List.getElem_cons_succ, Act.put, List.setIfInBounds_toArray, List.set_cons_zero, List.set_cons_succ]
      refine wpX_f _ (.int .i64 ((b (2 + A)).toNat : Int)) rfl rfl (fun X _ => by simp [go_sem, c2]) ?_
      simp only [List.getElem_toArray, List.getElem_cons_zero, List.getElem_cons_succ, Act.put, List.setIfInBounds_toArray, List.set_cons_zero, List.set_cons_succ]
      refine wpX_f _ (.int .i64 (((b (2 + A)).toNat * 2 ^ (8 * 2) : Nat) : Int)) rfl rfl (fun X _ => by simp [go_sem, s2]) ?_
      simp only [List.getElem_toArray, List.getElem_cons_zero, List.getElem_cons_succ, Act.put, List.setIfInBounds_toArray, List.set_cons_zero, List.set_cons_succ]
      refine wpX_f _ (.int .i64 ((leS g 3 : Nat) : Int)) rfl rfl (fun X _ => by simp [go_sem, o2]) ?_
      simp only [List.getElem_toArray, List.getElem_cons_zero, List.getElem_cons_succ, Act.put, List.setIfInBounds_toArray, List.set_cons_zero, List.set_cons_succ]
      refine wpX_f _ (.slice (some ad) 512 cp) rfl rfl (fun X _ => by simp [go_sem]) ?_
      simp only [List.getElem_toArray, List.getElem_cons_zero, List.getElem_cons_succ, Act.put, List.setIfInBounds_toArray, List.set_cons_zero, List.set_cons_succ]
      refine wpX_f _ (.int .i64 (A : Int)) rfl rfl (fun X _ => by simp [go_sem]) ?_
      simp only [List.getElem_toArray, List.getElem_cons_zero, List.getElem_cons_succ, Act.put, List.setIfInBounds_toArray, List.set_cons_zero, List.set_cons_succ]
      refine wpX_f _ (.int .i64 ((A : Int) + 3)) rfl rfl (fun X _ => by simp [go_sem, w3]) ?_
      simp only [List.getElem_toArray, List.getElem_cons_zero, List.getElem_cons_succ, Act.put, List.setIfInBounds_toArray, List.set_cons_zero, List.set_cons_succ]
      refine wpX_f _ (.pointer (some (ad.add (3 + A)))) rfl rfl (fun X _ => by simp [go_sem, n3, m3, t3]) ?_
      simp only [List.getElem_toArray, List.getElem_cons_zero, List.getElem_cons_succ, Act.put, List.setIfInBounds_toArray, List.set_cons_zero, List.set_cons_succ]
      refine wpX_f _ (.int .u8 ((b (3 + A)).toNat : Int)) rfl rfl (fun X hX => by simp [go_sem, show X.cell? (ad.add (3 + A)) = some (.int .u8 ((b (3 + A)).toNat : Int)) from hX.1 (3 + A) (by omega)]) ?_
      simp only [List.getElem_toArray, List.getElem_cons_zero, List.getElem_cons_succ, Act.put, List.setIfInBounds_toArray, List.set_cons_zero, List.set_cons_succ]
      refine wpX_f _ (.int .i64 ((b (3 + A)).toNat : Int)) rfl rfl (fun X _ => by simp [go_sem, c3]) ?_
      simp only [List.getElem_toArray, List.getElem_cons_zero, List.getElem_cons_succ, Act.put, List.setIfInBounds_toArray, List.set_cons_zero, List.set_cons_succ]
      refine wpX_f _ (.int .i64 (((b (3 + A)).toNat * 2 ^ (8 * 3) : Nat) : Int)) rfl rfl (fun X _ => by simp [go_sem, s3]) ?_
      simp only [List.getElem_toArray, List.getElem_cons_zero, List.getElem_cons_succ, Act.put, List.setIfInBounds_toArray, List.set_cons_zero, List.set_cons_succ]
      refine wpX_f _ (.int .i64 ((leS g 4 : Nat) : Int)) rfl rfl (fun X _ => by simp [go_sem, o3]) ?_
      simp only [List.getElem_toArray, List.getElem_cons_zero, List.getElem_cons_succ, Act.put, List.setIfInBounds_toArray, List.set_cons_zero, List.set_cons_succ]
      refine wpX_f _ (.agg (row 65 (epv ((leS g 4 : Nat) : Int) zF)).toArray) rfl rfl (fun X hX => exec_build 51 [(0, .tmp 65)] rfl _ (build51 _ _)) ?_
      simp only [List.getElem_toArray, List.getElem_cons_zero, List.getElem_cons_succ, Act.put, List.setIfInBounds_toArray, List.set_cons_zero, List.set_cons_succ]
      obtain ⟨X0, hX0⟩ : ∃ X0, X0 = wr.drew := ⟨_, rfl⟩
      have hEX : Hid (Ext wr X0) := hideit (by rw [hX0]; exact (Ext.refl wr).draw)
      rw [← hX0] at hC0 ⊢
      clear hX0
      obtain ⟨M1, hA1, M2, hA2⟩ := made51 X0 ((leS g 4 : Nat) : Int) zF
      obtain ⟨x, hx⟩ : ∃ x, x = X0.heap.size := ⟨_, rfl⟩
      rw [← hx] at M1 M2 hA2
      refine wpX_to _ (.pointer (some ⟨x, 0, none⟩)) (X0.alloc (.cells zk51 51)) rfl rfl (by rw [hx]; exact alloc51 rfl) (fun X => LieAt ad 512 (yv b) X) (fun _ h => h) (hC0.carry hA1) ?_
      simp only [List.getElem_toArray, List.getElem_cons_zero, List.getElem_cons_succ, Act.put, List.setIfInBounds_toArray, List.set_cons_zero, List.set_cons_succ]
      refine wpX_st _ ((X0.alloc (.cells zk51 51)).setCells x 0 (row 65 (epv ((leS g 4 : Nat) : Int) zF))) rfl rfl (exec_store 51 (.tmp 7) (.tmp 66) rfl x 65 _ (epv ((leS g 4 : Nat) : Int) zF) rfl rfl M1 info51 (epv_one _ _)) (fun X => LieAt ad 512 (yv b) X) (fun _ h => h) (hC0.carry hA2) ?_
      simp only [List.getElem_toArray, List.getElem_cons_zero, List.getElem_cons_succ, Act.put]
      have hT2 := Ext.trans hEX.out hA2
      have O2 := hideit (O1.out.ext hT2)
      have S2 := hideit (S1.out.carry hT2)
      have Q2 := hideit (Q1.out.carry hT2)
      have L2 := hideit (L1.out.carry hT2)
      have hE2 := hideit (Ext.trans hE1.out hT2)
      have X2 := hideit M2
      have hxs : Hid (s < x) := hideit (by rw [hx]; exact Nat.lt_of_lt_of_le S1.out.2.2 (Below.size hEX.out))
      have hxq : Hid (q < x) := hideit (by have := hqs.out; have := hxs.out; omega)
      have hxa : Hid (ad.block < x) := hideit (by have := has.out; have := hxs.out; omega)
      have hxv : Hid ((Value.slice ov i cv).ownBlock ≠ some x) := hideit (fun hh => by have := (O1.out.lt x hh).2; have := Below.size hEX.out; omega)
      have hB2 : Hid (B0 ≤ ((X0.alloc (.cells zk51 51)).setCells x 0 (row 65 (epv ((leS g 4 : Nat) : Int) zF))).heap.size) := hideit (Nat.le_trans hB1.out (Below.size hT2))
      have hxw : Hid (w.heap.size ≤ x) := hideit (by have := hws.out; have := hxs.out; omega)
      clear M1 hA1 M2 hA2 hT2 hx hEX hC0 O1 S1 Q1 L1 hE1 hB1 w1 w2 w3 n0 n1 n2 n3 m0 m1 m2 m3 t1 t2 t3 c0 c1 c2 c3 s1 s2 s3 o1 o2 o3
      generalize (X0.alloc (.cells zk51 51)).setCells x 0 (row 65 (epv ((leS g 4 : Nat) : Int) zF)) = w4 at *
      refine wpX_nil ?_
      go_wp2
      have hxf : Hid (∀ j, j < 65 → epv ((leS g 4 : Nat) : Int) (fun j => if j < 64 then b (A + 4 + j) else 0#8) j = epv (xs i) (fs i) j) := hideit (by rw [hg'.out, hA'.out, hxs'.out, hfs'.out]; exact rk_ep b i)
      go_loopw [8] (fun mv X => ∃ m : Nat, m ≤ 64 ∧ mv = .int .i64 (m : Int) ∧ RowAt x 65 (epv ((leS g 4 : Nat) : Int) (fun j => if j < m then b (A + 4 + j) else 0#8)) X ∧ OwnK 65 B0 51 (.slice ov i cv) i (epL xs fs) X ∧ RowAt s 33 (kyv (.slice ov i cv) zF) X ∧ RowAt q 33 (kyv (.slice none 0 0) zF) X ∧ LieAt ad 512 (yv b) X ∧ Ext w X ∧ B0 ≤ X.heap.size) (fun mv _ => 64 - (intOf mv).toNat)
      case atStart => exact ⟨0, by omega, rfl, X2.out, O2.out, S2.out, Q2.out, L2.out, hE2.out, hB2.out⟩
      case round =>
        clear X2 O2 S2 Q2 L2 hE2 hB2
        obtain ⟨m, hm, rfl, hX, hO, hS, hQ, hL3, hE, hB⟩ := hrel
        have X2 := hideit hX
        have O2 := hideit hO
        have S2 := hideit hS
        have Q2 := hideit hQ
        have L2 := hideit hL3
        have hE2 := hideit hE
        have hB2 := hideit hB
        clear hX hO hS hQ hL3 hE hB
        by_cases hlt2 : m < 64
        · have k0 : (0 : Int) ≤ (m : Int) := by omega
          have k1 : (m : Int) < 64 := by omega
          have a0 : (0 : Int) ≤ (A : Int) := by omega
          have a1 : (A : Int) + 68 ≤ 512 := by omega
          have ec : wr.cell? (ad.add (A + 4 + m)) = some (.int .u8 ((b (A + 4 + m)).toNat : Int)) := L2.out.1 (A + 4 + m) (by omega)
          have es := X2.out.1 (1 + m) (by omega)
          have gs := X2.out.2.1 (1 + m) (by omega)
          go_wp2
          refine ⟨⟨m + 1, by omega, by go_num, ?_, O2.out.but (but_setCell _ _ _ _) hxv.out, S2.out.other _ _ (by show x ≠ s; have := hxs.out; omega), Q2.out.other _ _ (by show x ≠ q; have := hxq.out; omega), L2.out.but (but_setCell _ _ _ _) (by have := hxa.out; omega), Below.setCell hE2.out (by show w.heap.size ≤ x; exact hxw.out) _, Nat.le_trans hB2.out (but_setCell _ _ _ _).size⟩, by simp [intOf]; omega⟩
          refine (X2.out.set (1 + m) _).congr fun j _ => ?_
          unfold epv
          by_cases h1 : j = 1 + m
          · rw [if_pos h1, if_neg (by omega)]
            show _ = Value.int .u8 (((if j - 1 < m + 1 then b (A + 4 + (j - 1)) else 0#8)).toNat : Int)
            rw [if_pos (by omega), show j - 1 = m by omega]
          · rw [if_neg h1]
            by_cases h2 : j = 0
            · rw [if_pos h2, if_pos h2]
            · rw [if_neg h2, if_neg h2]
              show Value.int .u8 (((if j - 1 < m then b (A + 4 + (j - 1)) else 0#8)).toNat : Int) = Value.int .u8 (((if j - 1 < m + 1 then b (A + 4 + (j - 1)) else 0#8)).toNat : Int)
              by_cases h3 : j - 1 < m
              · rw [if_pos h3, if_pos (by omega)]
              · rw [if_neg h3, if_neg (by omega)]
        · obtain rfl : m = 64 := by omega
          have k1 : ¬ ((64 : Nat) : Int) < 64 := by decide
          have X3 : Hid (RowAt x 65 (epv (xs i) (fs i)) wr) := hideit (X2.out.congr fun j hj => hxf.out j hj)
          clear X2
          have e0 : wr.cell? ⟨s, 0, none⟩ = some (.slice ov i cv) := S2.out.1 0 (by decide)
          have a68 : IntKind.i64.wrap ((A : Int) + 68) = (A : Int) + 68 := by rw [IntKind.wrap_i64]; omega
          go_upto_region 13 with (fail)
          have hE3 : Ext wr (wr.alloc (.cells (row 65 (epv (xs i) (fs i))).toArray 51)) := (Below.refl _ _).alloc (Nat.le_refl _) _
          have hN3 : Hid (LieAt ⟨wr.heap.size, 0, none⟩ (1 * 65) (epv (xs i) (fs i)) (wr.alloc (.cells (row 65 (epv (xs i) (fs i))).toArray 51))) := (RowAt.new wr 65 (epv (xs i) (fs i)) 51).lie (1 * 65) (by decide)
          have O3 := hideit (O2.out.ext hE3)
          have S3 := hideit (S2.out.carry hE3)
          have Q3 := hideit (Q2.out.carry hE3)
          have L3 := hideit (L2.out.carry hE3)
          have hE03 := hideit (Ext.trans hE2.out hE3)
          have hB3 : Hid (B0 ≤ (wr.alloc (.cells (row 65 (epv (xs i) (fs i))).toArray 51)).heap.size) := hideit (Nat.le_trans hB2.out (Below.size hE3))
          refine wp_region_lit ?_
          refine wpList_run rfl (.pointer (some ⟨s, 0, none⟩)) (by simp [go_sem]) ?_
          simp only [Act.put, List.setIfInBounds_toArray, List.set_cons_zero, List.set_cons_succ]
          refine wpList_run rfl (.slice ov i cv) (by simp [go_sem, e0]) ?_
          simp only [Act.put, List.setIfInBounds_toArray, List.set_cons_zero, List.set_cons_succ]
          refine wpList_load_mid rfl 51 (.tmp 7) rfl x 0 rfl (row 65 (epv (xs i) (fs i))) _ X3.out.range Try.underlying51 rfl (by rw [row_length]; exact info51) ?_
          simp only [Act.put, List.setIfInBounds_toArray, List.set_cons_zero, List.set_cons_succ]
          refine wpList_bslice rfl 35 1 [(0, .tmp 83)] rfl (.slice (some ⟨wr.heap.size, 0, none⟩) 1 1) (wr.alloc (.cells (row 65 (epv (xs i) (fs i))).toArray 51)) (bs51 _ _ _) ?_
          simp only [Act.put, List.setIfInBounds_toArray, List.set_cons_zero, List.set_cons_succ]
          clear hE3 O2 S2 Q2 L2 X3 hE2 hB2 e0
          obtain ⟨yb, hyb⟩ : ∃ yb, yb = wr.heap.size := ⟨_, rfl⟩
          obtain ⟨Y, hY⟩ : ∃ Y, Y = wr.alloc (.cells (row 65 (epv (xs i) (fs i))).toArray 51) := ⟨_, rfl⟩
          rw [← hY] at hN3 O3 S3 Q3 L3 hE03 hB3 ⊢
          rw [← hyb] at hN3 ⊢
          clear hY hyb
          refine wpList_growK (n := i) (base := B0) elem35 (by decide) rfl (.tmp 82) (.tmp 84) rfl rfl O3.out ⟨yb, 0, none⟩ 1 1 (epv (xs i) (fs i)) (epL xs fs) rfl hN3.out (fun j hj => epv_one _ _ j (by omega)) (fun _ _ => rfl) (fun j hj => by unfold epL; rw [show (i * 65 + j) / 65 = i by omega, show (i * 65 + j) % 65 = j by omega]) (by omega) (by omega) hB3.out ?_
          intro v4 w4 hO4 hg4
          have hb4 := below_grown hB3.out hg4 fun z hz => (O3.out.lt z hz).1
          have S4 := hideit (RowAt.belowB S3.out hsB.out hb4)
          have Q4 := hideit (RowAt.belowB Q3.out (by have := hqs.out; have := hsB.out; omega) hb4)
          have L4 := hideit (L3.out.below (by have := has.out; have := hsB.out; omega) hb4)
          have hE4 := hideit (Below.trans hE03.out (Below.mono hb4 hwB.out))
          have hB4 : Hid (B0 ≤ w4.heap.size) := hideit (Nat.le_trans hB3.out (Below.size hb4))
          obtain ⟨ov4, cv4, rfl⟩ := hO4.form
          have O4 := hideit hO4
          have hv4 : Hid ((Value.slice ov4 (i + 1) cv4).ownBlock ≠ some s) := hideit (fun hh => by have := (hO4.lt s hh).1; have := hsB.out; omega)
          have e1 := S4.out.1 0 (by decide)
          have g1 := S4.out.2.1 0 (by decide)
          clear O3 S3 Q3 L3 hE03 hB3 hN3 hO4 hg4 hb4
          simp only [Act.put, List.setIfInBounds_toArray, List.set_cons_zero, List.set_cons_succ]
          go_wp2
          exact ⟨⟨i + 1, by omega, by rw [show ((5 + 68 * (i + 1) : Nat) : Int) = (A : Int) + 68 by have := hA'.out; omega], by go_num, ov4, cv4, O4.out.but (but_setCell _ _ _ _) hv4.out, kyv_set S4.out, Q4.out.other _ _ (by show s ≠ q; have := hqs.out; omega), L4.out.but (but_setCell _ _ _ _) (by have := has.out; omega), Below.setCell hE4.out (by show w.heap.size ≤ s; exact hws.out) _, Nat.le_trans hB4.out (but_setCell _ _ _ _).size⟩, by simp [intOf]; omega⟩
    · obtain rfl : i = n := by omega
      have i1 : ¬ (i : Int) < (i : Int) := by omega
      obtain ⟨A, hA⟩ : ∃ A, A = 5 + 68 * i := ⟨_, rfl⟩
      rw [← hA]
      have hA5 : A + 32 ≤ 512 := by omega
      have hA' := hideit hA
      clear hA
      go_wp2
      go_loopw [9] (fun mv X => ∃ m : Nat, m ≤ 32 ∧ mv = .int .i64 (m : Int) ∧ RowAt s 33 (kyv (.slice ov i cv) (fun j => if j < m then b (A + j) else 0#8)) X ∧ OwnK 65 B0 51 (.slice ov i cv) i (epL xs fs) X ∧ RowAt q 33 (kyv (.slice none 0 0) zF) X ∧ LieAt ad 512 (yv b) X ∧ Ext w X ∧ B0 ≤ X.heap.size) (fun mv _ => 32 - (intOf mv).toNat)
      case atStart => exact ⟨0, by omega, rfl, S1.out, O1.out, Q1.out, L1.out, hE1.out, hB1.out⟩
      case round =>
        clear S1 O1 Q1 L1 hE1 hB1 e4
        obtain ⟨m, hm, rfl, hS, hO, hQ, hL3, hE, hB⟩ := hrel
        have O2 := hideit hO
        have S2 := hideit hS
        have Q2 := hideit hQ
        have L2 := hideit hL3
        have hE2 := hideit hE
        have hB2 := hideit hB
        clear hO hS hQ hL3 hE hB
        have hvs : Hid ((Value.slice ov i cv).ownBlock ≠ some s) := hideit (fun hh => by have := (O2.out.lt s hh).1; have := hsB.out; omega)
        by_cases hlt2 : m < 32
        · have k0 : (0 : Int) ≤ (m : Int) := by omega
          have k1 : (m : Int) < 32 := by omega
          have a0 : (0 : Int) ≤ (A : Int) := by omega
          have a1 : (A : Int) + 32 ≤ 512 := by omega
          have ec : wr.cell? (ad.add (A + m)) = some (.int .u8 ((b (A + m)).toNat : Int)) := L2.out.1 (A + m) (by omega)
          have es := S2.out.1 (1 + m) (by omega)
          have gs := S2.out.2.1 (1 + m) (by omega)
          go_wp2
          refine ⟨⟨m + 1, by omega, by go_num, ?_, O2.out.but (but_setCell _ _ _ _) hvs.out, Q2.out.other _ _ (by show s ≠ q; have := hqs.out; omega), L2.out.but (but_setCell _ _ _ _) (by have := has.out; omega), Below.setCell hE2.out (by show w.heap.size ≤ s; exact hws.out) _, Nat.le_trans hB2.out (but_setCell _ _ _ _).size⟩, by simp [intOf]; omega⟩
          refine (S2.out.set (1 + m) _).congr fun j _ => ?_
          unfold kyv
          by_cases h1 : j = 1 + m
          · rw [if_pos h1, if_neg (by omega)]
            show _ = Value.int .u8 (((if j - 1 < m + 1 then b (A + (j - 1)) else 0#8)).toNat : Int)
            rw [if_pos (by omega), show j - 1 = m by omega]
          · rw [if_neg h1]
            by_cases h2 : j = 0
            · rw [if_pos h2, if_pos h2]
            · rw [if_neg h2, if_neg h2]
              show Value.int .u8 (((if j - 1 < m then b (A + (j - 1)) else 0#8)).toNat : Int) = Value.int .u8 (((if j - 1 < m + 1 then b (A + (j - 1)) else 0#8)).toNat : Int)
              by_cases h3 : j - 1 < m
              · rw [if_pos h3, if_pos (by omega)]
              · rw [if_neg h3, if_neg (by omega)]
        · obtain rfl : m = 32 := by omega
          have k1 : ¬ ((32 : Nat) : Int) < 32 := by decide
          have S3 : Hid (RowAt s 33 (kyv (.slice ov i cv) (shF b (5 + 68 * i))) wr) := hideit (S2.out.congr fun j hj => by
            unfold kyv
            by_cases h2 : j = 0
            · rw [if_pos h2, if_pos h2]
            · rw [if_neg h2, if_neg h2]
              show Value.int .u8 (((if j - 1 < 32 then b (A + (j - 1)) else 0#8)).toNat : Int) = Value.int .u8 ((b (5 + 68 * i + (j - 1))).toNat : Int)
              rw [if_pos (by omega), hA'.out])
          have E3 := hideit O2.out.ev
          clear S2 hA5
          go_upto_region 19 with (fail)
          refine wp_region_lit ?_
          refine wpList_load_mid rfl 37 (.tmp 4) rfl s 0 rfl (row 33 (kyv (.slice ov i cv) (shF b (5 + 68 * i)))) _ S3.out.range Try.underlying37 rfl (by rw [row_length]; exact info37) ?_
          simp only [Act.put, List.setIfInBounds_toArray, List.set_cons_zero, List.set_cons_succ]
          have hiw : inW i xs := by rw [hxs'.out]; exact xG_in _ _
          have hok := hokk.out
          rw [← hxs'.out, ← hfs'.out] at hok
          by_cases hb : okE i xs
          · obtain ⟨R, hR⟩ : ∃ R, R = eqN 512 (keB i xs fs (shF b (5 + 68 * i))) b := ⟨_, rfl⟩
            refine wpList_call rfl (by simp [go_sem]; exact ⟨rfl, rfl⟩) ?_
            refine (rkeys_ok _ i xs fs _ wr E3.out hiw hb).mono ?_
            rintro e w5 ⟨v5, rfl, hV5, hX⟩
            refine ⟨_, rfl, ?_⟩
            simp only [Act.put, List.setIfInBounds_toArray, List.set_cons_zero, List.set_cons_succ]
            have S5 := hideit (S3.out.carry hX)
            have Q5 := hideit (Q2.out.carry hX)
            have L5 := hideit (L2.out.carry hX)
            have E5 := hideit (E3.out.ext hX)
            have hE5 := hideit (Ext.trans hE2.out hX)
            have hlu : Hid (∀ a n c, (Value.slice ov i cv) = .slice (some a) n c → B0 ≤ a.block) := hideit (fun a n c hh => (O2.out.lt a.block (by rw [hh]; rfl)).1)
            obtain ⟨va, vc, rfl⟩ := hV5.form
            have hc1 := convV (.slice va 512 vc) 512 _ w5 hV5
            have hc2 := convV (.slice (some ad) 512 cp) 512 b w5 (.inr ⟨_, _, rfl, hcp, L5.out⟩)
            have hst := str_beq 512 (keB i xs fs (shF b (5 + 68 * i))) b
            rw [← hR] at hst
            obtain ⟨s1, hs1⟩ : ∃ s1, s1 = bstr 512 (fun j => ((keB i xs fs (shF b (5 + 68 * i)) j).toNat : Int)) := ⟨_, rfl⟩
            obtain ⟨s2, hs2⟩ : ∃ s2, s2 = bstr 512 (fun j => ((b j).toNat : Int)) := ⟨_, rfl⟩
            rw [← hs1] at hc1 hst
            rw [← hs2] at hc2 hst
            rw [← hR] at hok
            replace hok := hideit hok
            have hb9 := hideit hb
            clear hs1 hs2 hR S3 Q2 L2 E3 hE2 hX hV5 O2 hB2 hb hiw hvs
            go_upto_region 20 with (fail)
            refine wp_region_lit ?_
            refine wpList_run rfl (.int .i64 0) (by simp [go_sem]) ?_
            simp only [Act.put, List.setIfInBounds_toArray, List.set_cons_zero, List.set_cons_succ]
            refine wpList_run rfl (.bool false) (by simp [go_sem]) ?_
            simp only [Act.put, List.setIfInBounds_toArray, List.set_cons_zero, List.set_cons_succ]
            refine wpList_run rfl (.bool false) (by simp [go_sem]) ?_
            simp only [Act.put, List.setIfInBounds_toArray, List.set_cons_zero, List.set_cons_succ]
            refine wpList_runW rfl (.slice va 512 vc) (by simp [go_sem]) ?_
            simp only [Act.put, List.setIfInBounds_toArray, List.set_cons_zero, List.set_cons_succ]
            refine wpList_runW rfl (.string s1) (by simp [go_sem, hc1]) ?_
            simp only [Act.put, List.setIfInBounds_toArray, List.set_cons_zero, List.set_cons_succ]
            refine wpList_runW rfl (.slice (some ad) 512 cp) (by simp [go_sem]) ?_
            simp only [Act.put, List.setIfInBounds_toArray, List.set_cons_zero, List.set_cons_succ]
            refine wpList_runW rfl (.string s2) (by simp [go_sem, hc2]) ?_
            simp only [Act.put, List.setIfInBounds_toArray, List.set_cons_zero, List.set_cons_succ]
            refine wpList_runW rfl (.bool (!R)) (by simp only [← hst]; simp [go_sem]) ?_
            simp only [Act.put, List.setIfInBounds_toArray, List.set_cons_zero, List.set_cons_succ]
            refine wpList_run rfl (.bool (!R)) (by simp [go_sem]) ?_
            simp only [Act.put, List.setIfInBounds_toArray, List.set_cons_zero, List.set_cons_succ]
            clear hc1 hc2 hst L5
            cases R with
            | true =>
              have hk : Hid (okK b) := hideit (hok.out.2 ⟨hb9.out, rfl⟩)
              clear hok
              go_upto_region 22 with (fail)
              refine wp_region_lit ?_
              refine wpList_load_mid rfl 37 (.tmp 4) rfl s 0 rfl (row 33 (kyv (.slice ov i cv) (shF b (5 + 68 * i)))) _ S5.out.range Try.underlying37 rfl (by rw [row_length]; exact info37) ?_
              simp only [Act.put, List.setIfInBounds_toArray, List.set_cons_zero, List.set_cons_succ]
              refine wpList_store_mid rfl 37 (.tmp 2) (.tmp 117) rfl q 0 (row 33 (kyv (.slice ov i cv) (shF b (5 + 68 * i)))).toArray rfl rfl (by rw [row_size]; exact Q5.out.there) (by rw [row_size]; exact info37) (row_one (kyv_one _ _ _ _)) ?_
              rw [show (row 33 (kyv (.slice ov i cv) (shF b (5 + 68 * i)))).toArray.toList = row 33 (kyv (.slice ov i cv) (shF b (5 + 68 * i))) from rfl]
              have h9 : Hid (RowAt q 33 (kyv (.slice ov i cv) (shF b (5 + 68 * i))) (w5.setCells q 0 (row 33 (kyv (.slice ov i cv) (shF b (5 + 68 * i)))))) := hideit Q5.out.cells
              have hE9 : Hid (Ext w (w5.setCells q 0 (row 33 (kyv (.slice ov i cv) (shF b (5 + 68 * i)))))) := hideit (below_setCells _ hwq.out _ _ _ hE5.out)
              have V9 : Hid (EV (.slice ov i cv) i xs fs (w5.setCells q 0 (row 33 (kyv (.slice ov i cv) (shF b (5 + 68 * i)))))) := hideit (by
                rcases E5.out with h | ⟨a, o, cap, h1, h2, h3⟩
                · exact .inl h
                · exact .inr ⟨a, o, cap, h1, h2, h3.but (But.sets _ _ _ (But.refl q w5)) (by have := hlu.out _ _ _ h1; simp only at this; have := hqs.out; have := hsB.out; omega)⟩)
              clear Q5 S5 E5 hE5
              generalize w5.setCells q 0 (row 33 (kyv (.slice ov i cv) (shF b (5 + 68 * i)))) = w9 at *
              simp only [Act.put]
              go_wp2
              exact bodyPost_ret (ret_row2 Try.results19 rfl h9.out Try.underlying37 rfl info37) rfl ⟨.inl ⟨hk.out, _, rfl, by rw [← hxs'.out, ← hfs'.out]; exact V9.out⟩, hE9.out⟩
            | false =>
              have hk : Hid (¬ okK b) := hideit (fun hh => absurd (hok.out.1 hh).2 (by decide))
              clear hok
              go_upto_region 21 with (fail)
              refine wp_region_lit ?_
              refine wpList_build rfl 37 [] rfl (.agg (row 33 (kyv (.slice none 0 0) zF)).toArray) (bl37e _) ?_
              simp only [Act.put, List.setIfInBounds_toArray, List.set_cons_zero, List.set_cons_succ]
              refine wpList_store_mid rfl 37 (.tmp 2) (.tmp 116) rfl q 0 (row 33 (kyv (.slice none 0 0) zF)).toArray rfl rfl (by rw [row_size]; exact Q5.out.there) (by rw [row_size]; exact info37) (row_one (kyv_one _ _ _ _)) ?_
              rw [show (row 33 (kyv (.slice none 0 0) zF)).toArray.toList = row 33 (kyv (.slice none 0 0) zF) from rfl]
              have h9 : Hid (RowAt q 33 (kyv (.slice none 0 0) zF) (w5.setCells q 0 (row 33 (kyv (.slice none 0 0) zF)))) := hideit Q5.out.cells
              have hE9 : Hid (Ext w (w5.setCells q 0 (row 33 (kyv (.slice none 0 0) zF)))) := hideit (below_setCells _ hwq.out _ _ _ hE5.out)
              clear Q5 hE5
              generalize w5.setCells q 0 (row 33 (kyv (.slice none 0 0) zF)) = w9 at *
              simp only [Act.put]
              go_wp2
              exact bodyPost_ret (ret_row2 Try.results19 rfl h9.out Try.underlying37 rfl info37) rfl ⟨.inr ⟨hk.out, rfl⟩, hE9.out⟩
          · have hk : Hid (¬ okK b) := hideit (fun hh => hb (hok.1 hh).1)
            refine wpList_call rfl (by simp [go_sem]; exact ⟨rfl, rfl⟩) ?_
            refine (rkeys_bad _ i xs fs _ wr E3.out hiw (by omega) hb).mono ?_
            rintro e w5 ⟨rfl, hX⟩
            refine ⟨_, rfl, ?_⟩
            simp only [Act.put, List.setIfInBounds_toArray, List.set_cons_zero, List.set_cons_succ]
            have Q5 := hideit (Q2.out.carry hX)
            have hE5 := hideit (Ext.trans hE2.out hX)
            clear S3 Q2 L2 E3 hE2 hX O2 hB2 hb hiw hvs hok
            go_upto_region 21 with (fail)
            refine wp_region_lit ?_
            refine wpList_build rfl 37 [] rfl (.agg (row 33 (kyv (.slice none 0 0) zF)).toArray) (bl37e _) ?_
            simp only [Act.put, List.setIfInBounds_toArray, List.set_cons_zero, List.set_cons_succ]
            refine wpList_store_mid rfl 37 (.tmp 2) (.tmp 116) rfl q 0 (row 33 (kyv (.slice none 0 0) zF)).toArray rfl rfl (by rw [row_size]; exact Q5.out.there) (by rw [row_size]; exact info37) (row_one (kyv_one _ _ _ _)) ?_
            rw [show (row 33 (kyv (.slice none 0 0) zF)).toArray.toList = row 33 (kyv (.slice none 0 0) zF) from rfl]
            have h9 : Hid (RowAt q 33 (kyv (.slice none 0 0) zF) (w5.setCells q 0 (row 33 (kyv (.slice none 0 0) zF)))) := hideit Q5.out.cells
            have hE9 : Hid (Ext w (w5.setCells q 0 (row 33 (kyv (.slice none 0 0) zF)))) := hideit (below_setCells _ hwq.out _ _ _ hE5.out)
            clear Q5 hE5
            generalize w5.setCells q 0 (row 33 (kyv (.slice none 0 0) zF)) = w9 at *
            simp only [Act.put]
            go_wp2
            exact bodyPost_ret (ret_row2 Try.results19 rfl h9.out Try.underlying37 rfl info37) rfl ⟨.inr ⟨hk.out, rfl⟩, hE9.out⟩
end Go.Proofs.Ytomalmnpojcloaa
