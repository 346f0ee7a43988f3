/-
  For every header the law HeadParts returns true, and its argument reads behind the call as it read before; the package-level table of constants is laid as the program text lays it. No other condition.
-/
import Derived.Test.YtenlokmoijeehaaDoorCards
import Derived.Test.YtenlokmoijeehaaDoorTie
import Derived.WalkKit
import Derived.ProofKit
import Derived.OpenShut
import Derived.ShutString
import Derived.ChangeOld
import Derived.Below
import Derived.Deep.DeepHandedRow
import Derived.Lib.LaidTab
import Derived.Test.YtenlokmoijeehaaDoorGu
namespace Go.Proofs.YtenlokmoijeehaaDoor.headParts
open Go.ChangeShapes Go.WideShapes Go.ChangeAt Go.RowKit
set_option linter.unusedVariables false

theorem own : ownKnob Tryd.prog.godebug = none := by kernel_rfl
theorem laidOut : laidOutB Tryd.prog = true := by kernel_rfl
theorem gTab : Tryd.prog.globalNamed "casket/sha.constants" = some 0 := by kernel_rfl
theorem gTabType : (Tryd.prog.globals[0]?).map (·.type) = some 95 := by kernel_rfl
theorem cellsG : Tryd.prog.cellsOf 95 = 64 := by kernel_rfl
theorem cellsE : Tryd.prog.cellsOf 79 = 1 := by kernel_rfl
def tabL : List Int := [1116352408, 1899447441, 3049323471, 3921009573, 961987163, 1508970993, 2453635748, 2870763221, 3624381080, 310598401, 607225278, 1426881987, 1925078388, 2162078206, 2614888103, 3248222580, 3835390401, 4022224774, 264347078, 604807628, 770255983, 1249150122, 1555081692, 1996064986, 2554220882, 2821834349, 2952996808, 3210313671, 3336571891, 3584528711, 113926993, 338241895, 666307205, 773529912, 1294757372, 1396182291, 1695183700, 1986661051, 2177026350, 2456956037, 2730485921, 2820302411, 3259730800, 3345764771, 3516065817, 3600352804, 4094571909, 275423344, 430227734, 506948616, 659060556, 883997877, 958139571, 1322822218, 1537002063, 1747873779, 1955562222, 2024104815, 2227730452, 2361852424, 2428436474, 2756734187, 3204031479, 3329325298]
theorem table {W : World} (h : laidMetH Tryd.prog Rows.headPartsRow.laid W) : Lib.TabIs Tryd.prog W "casket/sha.constants" .u32 tabL :=
  Lib.tabIs_of_head (rest := []) gTab gTabType Tryd.underlying95 Tryd.underlying79 cellsE cellsG h
theorem tab_kT : ∀ j, j < 64 → tabL.getD j 0 = ((kT j).toNat : Int) := by decide +kernel
theorem tabC {W : World} (h : laidMetH Tryd.prog Rows.headPartsRow.laid W) (h0 : 0 < W.heap.size) : TabC W :=
  ⟨fun j hj => by
    rw [← tab_kT j hj]
    exact (table h).cell gTab j hj, h0⟩

open Go.BigFrame
def lI (m k : Nat) : Int := if k = 0 then (m : Int) else 1
def nI (t m k : Nat) : Int := if k = 0 then (t : Int) else if k = 1 then (m : Int) else 1
def sI (m k : Nat) : Int := if k = 0 then 0 else if k = 1 then (m : Int) else (m : Int) + 1
theorem sI0 (m : Nat) : sI m 0 = 0 := rfl
set_option maxRecDepth 20000 in
set_option maxHeartbeats 2000000 in
theorem walk_no (h : Hd) (w : World) (hC : Hid (TabC w)) (hk : ¬ okH h) : Calls Tryd.prog 6 #[.agg (row 24 (hdv h)).toArray] w fun e w' => e = .returned (.bool true) ∧ Below w.heap.size w w' := by
  go_enter Tryd.func6, Tryd.ntmps6
  go_upto_region 0 with (fail)
  refine wp_region_lit ?_
  refine wpList_to rfl (.pointer (some ⟨w.heap.size, 0, none⟩)) (w.alloc (.cells (row 24 (hdv h)).toArray 27)) (by simp [go_sem]) ?_
  simp only [Act.put, List.setIfInBounds_toArray, List.set_cons_zero, List.set_cons_succ]
  have H1 := hideit (RowAt.new w 24 (hdv h) 27)
  have X1 : Ext w (w.alloc (.cells (row 24 (hdv h)).toArray 27)) := (Below.refl _ _).alloc (Nat.le_refl _) _
  have C1 := hideit (hC.out.ext X1)
  have hE1 := hideit X1
  clear X1 hC
  generalize w.alloc (.cells (row 24 (hdv h)).toArray 27) = w1 at *
  generalize w.heap.size = c at H1 ⊢
  go_upto_region 1 with (fail)
  refine wp_region_lit ?_
  refine wpList_run rfl (.agg (row 24 (hdv h)).toArray) (exec_loadR 27 (.tmp 1) rfl c 0 24 _ rfl H1.out.range Tryd.underlying27 rfl infoH) ?_
  simp only [Act.put, List.setIfInBounds_toArray, List.set_cons_zero, List.set_cons_succ]
  refine wpList_call rfl (by simp [go_sem]; exact ⟨rfl, rfl⟩) ?_
  refine (lay_no h w1 hk).mono ?_
  rintro e w2 ⟨rfl, hX2⟩
  refine ⟨_, rfl, ?_⟩
  simp only [Act.put, List.setIfInBounds_toArray, List.set_cons_zero, List.set_cons_succ]
  have H2 := hideit (H1.out.carry hX2)
  have C2 := hideit (C1.out.ext hX2)
  have hE2 := hideit (Ext.trans hE1.out hX2)
  clear H1 C1 hE1 hX2
  refine wpList_run rfl (.tuple #[.agg (row 9 (lyv (fun _ => 0) (.slice none 0 0))).toArray, .int .i64 1]) (by simp [go_sem]) ?_
  simp only [Act.put, List.setIfInBounds_toArray, List.set_cons_zero, List.set_cons_succ]
  refine wpList_run rfl (.agg (row 9 (lyv (fun _ => 0) (.slice none 0 0))).toArray) (by simp [go_sem]) ?_
  simp only [Act.put, List.setIfInBounds_toArray, List.set_cons_zero, List.set_cons_succ]
  refine wpList_run rfl (.int .i64 1) (by simp [go_sem]) ?_
  simp only [Act.put, List.setIfInBounds_toArray, List.set_cons_zero, List.set_cons_succ]
  obtain ⟨M1, M2, M3⟩ := made34 w2 (fun _ => 0) (.slice none 0 0)
  replace M1 := hideit M1
  replace M2 := hideit M2
  have H3 := hideit (H2.out.carry M3)
  have C3 := hideit (C2.out.ext M3)
  have hE3 := hideit (Ext.trans hE2.out M3)
  refine wpList_to rfl (.pointer (some ⟨w2.heap.size, 0, none⟩)) (w2.alloc (.cells (row 9 (lyv (fun _ => 0) (.slice none 0 0))).toArray 34)) (exec_alloc 34 _ rfl (zeroL w2)) ?_
  simp only [Act.put, List.setIfInBounds_toArray, List.set_cons_zero, List.set_cons_succ]
  refine wpList_store_mid rfl 34 (.tmp 3) (.tmp 12) rfl w2.heap.size 0 (row 9 (lyv (fun _ => 0) (.slice none 0 0))).toArray rfl rfl (by rw [row_size]; exact M1.out.there) (by rw [row_size]; exact infoL) (row_one fun j _ => lyv_one _ rfl j) ?_
  rw [show (row 9 (lyv (fun _ => 0) (.slice none 0 0))).toArray.toList = row 9 (lyv (fun _ => 0) (.slice none 0 0)) from rfl]
  generalize (w2.alloc (.cells (row 9 (lyv (fun _ => 0) (.slice none 0 0))).toArray 34)).setCells w2.heap.size 0 (row 9 (lyv (fun _ => 0) (.slice none 0 0))) = w3 at *
  generalize w2.heap.size = d at *
  clear M1 M3 H2 C2 hE2
  simp only [Act.put]
  have kl := hideit (lives_any w3 C3)
  go_upto_region 4 with (go_at_call 12; refine kl.out.mono ?_; rintro e w4 ⟨rfl, hX4⟩; have H4 := hideit (H3.out.carry hX4); have L4 := hideit (M2.out.carry hX4); have hE4 := hideit (Ext.trans hE3.out hX4); clear kl H3 M2 C3 hE3 hX4)
  have kr := hideit (rcheck_no h w4 hk)
  go_upto_region 5 with (fail)
  refine wp_region_lit ?_
  refine wpList_run rfl (.agg (row 24 (hdv h)).toArray) (exec_loadR 27 (.tmp 1) rfl c 0 24 _ rfl H4.out.range Tryd.underlying27 rfl infoH) ?_
  simp only [Act.put, List.setIfInBounds_toArray, List.set_cons_zero, List.set_cons_succ]
  refine wpList_call rfl (by simp [go_sem]; exact ⟨rfl, rfl⟩) ?_
  refine (kr.out).mono ?_
  rintro e w5 ⟨rfl, hX5⟩
  refine ⟨_, rfl, ?_⟩
  simp only [Act.put, List.setIfInBounds_toArray, List.set_cons_zero, List.set_cons_succ]
  have hE5 := hideit (Ext.trans hE4.out hX5)
  clear H4 L4 hE4 kr hX5
  go_wp2
  go_ret
  exact ⟨rfl, hE5.out⟩
set_option maxRecDepth 20000 in
set_option maxHeartbeats 2000000 in
theorem walk_ok (h : Hd) (w : World) (hC : Hid (TabC w)) (hk : okH h) (t m N : Nat) (Sm : Int) (et : Hid (t = (h.se.toNat + 8 - 1) / 8)) (em : Hid (m = (t + 16 - 1) / 16)) (hN : Hid (N = if m = 1 then 1 else 2)) (hSm : Hid (Sm = lsum m)) : Calls Tryd.prog 6 #[.agg (row 24 (hdv h)).toArray] w fun e w' => e = .returned (.bool true) ∧ Below w.heap.size w w' := by
  have hk0 := hk
  obtain ⟨⟨a1, a2, a3, a4, a5, a6⟩, p1, p2, p3⟩ := hk0
  have bse : Hid (1 ≤ h.se ∧ h.se ≤ 1024) := a2
  have bsl : Hid (1 ≤ h.sl ∧ h.sl ≤ 8) := a3
  have bjo : Hid (16 ≤ h.jo ∧ h.jo ≤ 256) := a4
  have bt : Hid (1 ≤ t ∧ t ≤ 128) := by have := et.out; refine hideit ?_; omega
  have bm : Hid (1 ≤ m ∧ m ≤ 8) := by have := em.out; have := bt.out; refine hideit ?_; omega
  have bS : Hid (1 ≤ Sm ∧ Sm ≤ 9) := hideit (by have := bm.out; rw [hSm.out]; unfold lsum; split <;> omega)
  have sS : Hid (Sm = sI m N) := hideit (by
    have := bm.out
    rw [hSm.out, hN.out]
    unfold lsum sI
    by_cases h1 : m = 1
    · rw [if_pos h1, if_pos h1, if_neg (by decide), if_pos rfl]; omega
    · rw [if_neg h1, if_neg h1, if_neg (by decide), if_neg (by decide)])
  have nN : Hid (nI t m N = 1) := hideit (by
    rw [hN.out]
    unfold nI
    by_cases h1 : m = 1
    · rw [if_pos h1, if_neg (by decide), if_pos rfl]; omega
    · rw [if_neg h1, if_neg (by decide), if_neg (by decide)])
  have sN : Hid (1 ≤ N ∧ N ≤ 2) := hideit (by rw [hN.out]; split <;> omega)
  have hm1 : Hid (1 < N → 1 < m) := hideit (by rw [hN.out]; have := bm.out; split <;> omega)
  clear a1 a2 a3 a4 a5 a6 p1 p2 p3
  go_enter Tryd.func6, Tryd.ntmps6
  go_upto_region 0 with (fail)
  refine wp_region_lit ?_
  refine wpList_to rfl (.pointer (some ⟨w.heap.size, 0, none⟩)) (w.alloc (.cells (row 24 (hdv h)).toArray 27)) (by simp [go_sem]) ?_
  simp only [Act.put, List.setIfInBounds_toArray, List.set_cons_zero, List.set_cons_succ]
  have H1 := hideit (RowAt.new w 24 (hdv h) 27)
  have X1 : Ext w (w.alloc (.cells (row 24 (hdv h)).toArray 27)) := (Below.refl _ _).alloc (Nat.le_refl _) _
  have C1 := hideit (hC.out.ext X1)
  have hE1 := hideit X1
  clear X1 hC
  generalize w.alloc (.cells (row 24 (hdv h)).toArray 27) = w1 at *
  generalize w.heap.size = c at H1 ⊢
  go_upto_region 1 with (fail)
  refine wp_region_lit ?_
  refine wpList_run rfl (.agg (row 24 (hdv h)).toArray) (exec_loadR 27 (.tmp 1) rfl c 0 24 _ rfl H1.out.range Tryd.underlying27 rfl infoH) ?_
  simp only [Act.put, List.setIfInBounds_toArray, List.set_cons_zero, List.set_cons_succ]
  refine wpList_call rfl (by simp [go_sem]; exact ⟨rfl, rfl⟩) ?_
  refine (lay_core h w1 hk t m N Sm et.out em.out hN hSm).mono ?_
  rintro e w2 ⟨lb, cap, rfl, hR2, hX2⟩
  refine ⟨_, rfl, ?_⟩
  simp only [Act.put, List.setIfInBounds_toArray, List.set_cons_zero, List.set_cons_succ]
  have H2 := hideit (H1.out.carry hX2)
  have C2 := hideit (C1.out.ext hX2)
  have hE2 := hideit (Ext.trans hE1.out hX2)
  clear H1 C1 hE1 hX2
  refine wpList_run rfl (.tuple #[.agg (row 9 (lyv (lzF h Sm t) (.slice (some ⟨lb, 0, none⟩) N cap))).toArray, .int .i64 0]) (by simp [go_sem]) ?_
  simp only [Act.put, List.setIfInBounds_toArray, List.set_cons_zero, List.set_cons_succ]
  refine wpList_run rfl (.agg (row 9 (lyv (lzF h Sm t) (.slice (some ⟨lb, 0, none⟩) N cap))).toArray) (by simp [go_sem]) ?_
  simp only [Act.put, List.setIfInBounds_toArray, List.set_cons_zero, List.set_cons_succ]
  refine wpList_run rfl (.int .i64 0) (by simp [go_sem]) ?_
  simp only [Act.put, List.setIfInBounds_toArray, List.set_cons_zero, List.set_cons_succ]
  obtain ⟨M1, M2, M3⟩ := made34 w2 (lzF h Sm t) (.slice (some ⟨lb, 0, none⟩) N cap)
  replace M1 := hideit M1
  replace M2 := hideit M2
  have H3 := hideit (H2.out.carry M3)
  have C3 := hideit (C2.out.ext M3)
  have hE3 := hideit (Ext.trans hE2.out M3)
  have R3 := hideit (hR2.carry M3)
  clear hR2
  refine wpList_to rfl (.pointer (some ⟨w2.heap.size, 0, none⟩)) (w2.alloc (.cells (row 9 (lyv (fun _ => 0) (.slice none 0 0))).toArray 34)) (exec_alloc 34 _ rfl (zeroL w2)) ?_
  simp only [Act.put, List.setIfInBounds_toArray, List.set_cons_zero, List.set_cons_succ]
  refine wpList_store_mid rfl 34 (.tmp 3) (.tmp 12) rfl w2.heap.size 0 (row 9 (lyv (lzF h Sm t) (.slice (some ⟨lb, 0, none⟩) N cap))).toArray rfl rfl (by rw [row_size]; exact M1.out.there) (by rw [row_size]; exact infoL) (row_one fun j _ => lyv_one _ rfl j) ?_
  rw [show (row 9 (lyv (lzF h Sm t) (.slice (some ⟨lb, 0, none⟩) N cap))).toArray.toList = row 9 (lyv (lzF h Sm t) (.slice (some ⟨lb, 0, none⟩) N cap)) from rfl]
  generalize (w2.alloc (.cells (row 9 (lyv (fun _ => 0) (.slice none 0 0))).toArray 34)).setCells w2.heap.size 0 (row 9 (lyv (lzF h Sm t) (.slice (some ⟨lb, 0, none⟩) N cap))) = w3 at *
  generalize w2.heap.size = d at *
  clear M1 M3 H2 C2 hE2
  simp only [Act.put]
  have kl := hideit (lives_any w3 C3)
  go_upto_region 4 with (go_at_call 12; refine kl.out.mono ?_; rintro e w4 ⟨rfl, hX4⟩; have H4 := hideit (H3.out.carry hX4); have L4 := hideit (M2.out.carry hX4); have hE4 := hideit (Ext.trans hE3.out hX4); have R4 := hideit (R3.out.carry hX4); clear R3; clear kl H3 M2 C3 hE3 hX4)
  have e0 : w4.cell? ⟨d, 0, none⟩ = some (.int .i64 2) := L4.out.1 0 (by decide)
  obtain ⟨a1, ha1⟩ : ∃ a, a = 2 + h.sl := ⟨_, rfl⟩
  obtain ⟨a2, ha2⟩ : ∃ a, a = a1 + 1 := ⟨_, rfl⟩
  obtain ⟨a3, ha3⟩ : ∃ a, a = a2 + 1 := ⟨_, rfl⟩
  obtain ⟨a4, ha4⟩ : ∃ a, a = a3 + h.jo := ⟨_, rfl⟩
  obtain ⟨a6, ha6⟩ : ∃ a, a = a4 + Sm := ⟨_, rfl⟩
  obtain ⟨a7, ha7⟩ : ∃ a, a = a6 + (t : Int) := ⟨_, rfl⟩
  obtain ⟨a8, ha8⟩ : ∃ a, a = a7 + h.se := ⟨_, rfl⟩
  have e1 : w4.cell? ⟨d, 1, none⟩ = some (.int .i64 a1) := (L4.out.1 1 (by decide)).trans (by rw [ha1]; rfl)
  have e2 : w4.cell? ⟨d, 2, none⟩ = some (.int .i64 a2) := (L4.out.1 2 (by decide)).trans (by rw [ha2, ha1]; rfl)
  have e3 : w4.cell? ⟨d, 3, none⟩ = some (.int .i64 a3) := (L4.out.1 3 (by decide)).trans (by rw [ha3, ha2, ha1]; rfl)
  have e4 : w4.cell? ⟨d, 4, none⟩ = some (.int .i64 a4) := (L4.out.1 4 (by decide)).trans (by rw [ha4, ha3, ha2, ha1]; rfl)
  have e5 : w4.cell? ⟨d, 5, none⟩ = some (.slice (some ⟨lb, 0, none⟩) N cap) := L4.out.1 5 (by decide)
  have e6 : w4.cell? ⟨d, 6, none⟩ = some (.int .i64 a6) := (L4.out.1 6 (by decide)).trans (by rw [ha6, ha4, ha3, ha2, ha1]; rfl)
  have e7 : w4.cell? ⟨d, 7, none⟩ = some (.int .i64 a7) := (L4.out.1 7 (by decide)).trans (by rw [ha7, ha6, ha4, ha3, ha2, ha1]; rfl)
  have e8 : w4.cell? ⟨d, 8, none⟩ = some (.int .i64 a8) := (L4.out.1 8 (by decide)).trans (by rw [ha8, ha7, ha6, ha4, ha3, ha2, ha1]; rfl)
  have c1 : w4.cell? ⟨c, 1, none⟩ = some (.int .i64 h.se) := H4.out.1 1 (by decide)
  have c2 : w4.cell? ⟨c, 2, none⟩ = some (.int .i64 h.sl) := H4.out.1 2 (by decide)
  have c3 : w4.cell? ⟨c, 3, none⟩ = some (.int .i64 h.jo) := H4.out.1 3 (by decide)
  clear L4 H4
  have f1 : IntKind.i64.wrap (2 + h.sl) = a1 := by have := bsl.out; rw [IntKind.wrap_i64]; omega
  have f2 : IntKind.i64.wrap (a1 + 1) = a2 := by have := bsl.out; rw [IntKind.wrap_i64]; omega
  have f3 : IntKind.i64.wrap (a2 + 1) = a3 := by have := bsl.out; rw [IntKind.wrap_i64]; omega
  have f4 : IntKind.i64.wrap (a3 + h.jo) = a4 := by have := bsl.out; have := bjo.out; rw [IntKind.wrap_i64]; omega
  have f7 : IntKind.i64.wrap (a7 - a6) = (t : Int) := by have := bt.out; rw [IntKind.wrap_i64]; omega
  have f8 : IntKind.i64.wrap (a7 + h.se) = a8 := by have := bsl.out; have := bjo.out; have := bt.out; have := bS.out; have := bse.out; rw [IntKind.wrap_i64]; omega
  obtain ⟨t8, ht8⟩ : ∃ a : Int, a = t * 8 := ⟨_, rfl⟩
  obtain ⟨t1, ht1⟩ : ∃ a : Int, a = t - 1 := ⟨_, rfl⟩
  obtain ⟨t9, ht9⟩ : ∃ a : Int, a = t1 * 8 := ⟨_, rfl⟩
  have g1 : IntKind.i64.wrap ((t : Int) * 8) = t8 := by have := bt.out; rw [IntKind.wrap_i64]; omega
  have g2 : IntKind.i64.wrap ((t : Int) - 1) = t1 := by have := bt.out; rw [IntKind.wrap_i64]; omega
  have g3 : IntKind.i64.wrap (t1 * 8) = t9 := by have := bt.out; rw [IntKind.wrap_i64]; omega
  have o1 : h.se ≤ t8 := by have := et.out; have := bse.out; omega
  have o2 : t9 < h.se := by have := et.out; have := bse.out; omega
  have o3 : a8 ≤ 4096 := by have := bsl.out; have := bjo.out; have := bt.out; have := bS.out; have := bse.out; omega
  have r1 : Hid (a6 = a4 + Sm) := hideit ha6
  have r2 : Hid (20 ≤ a4 ∧ a4 ≤ 300) := hideit (by have := bsl.out; have := bjo.out; omega)
  clear ha1 ha2 ha3 ha4 ha6 ha7 ha8 ht8 ht1 ht9 hSm
  go_upto_region 9 with (fail)
  go_wp2
  go_loop [6, 7, 8] (fun nn aa i => ∃ k : Nat, k ≤ N ∧ i = .int .i64 k ∧ nn = .int .i64 (nI t m k) ∧ aa = .int .i64 (a4 + sI m k)) (fun _ _ i => N - (intOf i).toNat)
  case atStart => exact ⟨0, Nat.zero_le _, rfl, rfl, by rw [sI0, Int.add_zero]⟩
  case round =>
    obtain ⟨k, hk, rfl, rfl, rfl⟩ := hrel
    by_cases hlt : k < N
    · have k0 : (0 : Int) ≤ (k : Int) := by omega
      have k1 : (k : Int) < (N : Int) := by omega
      have k2 : (k : Int) < 2 := by have := sN.out; omega
      have hcell : w4.cell? ⟨lb, k, none⟩ = some (.int .i64 (lI m k)) := (R4.out.1 k hlt).trans (by unfold lvF lI; split <;> rfl)
      have hl : 1 ≤ lI m k ∧ lI m k ≤ 8 ∧ nI t m k ≤ lI m k * 16 ∧ (lI m k - 1) * 16 < nI t m k ∧ 0 ≤ sI m k ∧ sI m k ≤ 9 ∧ nI t m (k + 1) = lI m k ∧ sI m (k + 1) = sI m k + lI m k := by
        have := bm.out
        have := bt.out
        have := em.out
        have := hm1.out
        have := sN.out
        unfold lI nI sI
        rcases (by omega : k = 0 ∨ k = 1) with rfl | rfl
        · simp only [if_true, Nat.zero_add, show ¬ (1 : Nat) = 0 by decide, if_false, true_and]
          omega
        · simp only [if_true, show ¬ (1 : Nat) = 0 by decide, show ¬ (1 + 1 : Nat) = 0 by decide, show ¬ (1 + 1 : Nat) = 1 by decide, if_false, and_true]
          omega
      obtain ⟨l, hle⟩ : ∃ l, l = lI m k := ⟨_, rfl⟩
      obtain ⟨n, hne⟩ : ∃ n, n = nI t m k := ⟨_, rfl⟩
      obtain ⟨s, hse⟩ : ∃ s, s = a4 + sI m k := ⟨_, rfl⟩
      rw [← hle] at hcell
      rw [← hne, ← hse]
      rw [← hle, ← hne] at hl
      have p1 : ¬ l < 1 := by omega
      obtain ⟨l16, h16⟩ : ∃ x, x = l * 16 := ⟨_, rfl⟩
      obtain ⟨l1, hl1⟩ : ∃ x, x = l - 1 := ⟨_, rfl⟩
      obtain ⟨l2, hl2⟩ : ∃ x, x = l1 * 16 := ⟨_, rfl⟩
      have w1' : IntKind.i64.wrap (l * 16) = l16 := by rw [IntKind.wrap_i64]; omega
      have w2' : IntKind.i64.wrap (l - 1) = l1 := by rw [IntKind.wrap_i64]; omega
      have w3' : IntKind.i64.wrap (l1 * 16) = l2 := by rw [IntKind.wrap_i64]; omega
      have w4' : IntKind.i64.wrap (s + l) = s + l := by have := r2.out; rw [IntKind.wrap_i64]; omega
      have p2 : ¬ l16 < n := by omega
      have p3 : ¬ n ≤ l2 := by omega
      have q1 : Hid (nI t m (k + 1) = l) := hideit hl.2.2.2.2.2.2.1
      have q2 : Hid (a4 + sI m (k + 1) = s + l) := hideit (by rw [hl.2.2.2.2.2.2.2, hse, hle]; omega)
      clear hl hle hne hse h16 hl1 hl2 f1 f2 f3 f4 f7 f8 g1 g2 g3 o1 o2 o3 e0 e1 e2 e3 e4 e6 e7 e8 c1 c2 c3
      go_wp2
      go_round
      case rel => exact ⟨k + 1, by omega, by go_num, by rw [q1.out], by rw [q2.out]⟩
      case measure => simp [intOf]; omega
    · obtain rfl : k = N := by omega
      have hnk : ¬ (k : Int) < (k : Int) := by omega
      rw [nN.out, show a4 + sI m k = a6 by rw [r1.out, sS.out]]
      clear hlt hk hN R4
      go_wp2
      go_ret
      exact ⟨rfl, hE4.out⟩
theorem walk (h : Hd) (w : World) (hC : TabC w) : Calls Tryd.prog 6 #[.agg (row 24 (hdv h)).toArray] w fun e w' => e = .returned (.bool true) ∧ Below w.heap.size w w' := by
  by_cases hk : okH h
  · exact walk_ok h w hC hk _ _ _ _ rfl rfl rfl rfl
  · exact walk_no h w hC hk

theorem contract (H : Type) (enc : TypeId × Value → H) (W : World) (base : Nat) (args : Array Value) (ds gs : List (DataW H)) (before : List MemPlace)
    (hval0 : ∀ (j : Nat) t v, Tryd.f6.params[j]? = some t → args[j]? = some v → Value.okWide Tryd.prog W .any base t v)
    (hW : DataW.Whole enc Tryd.prog Tryd.f6.params.toList Rows.headPartsSpec.vars false W args.toList ds gs before) (hL : laidMetH Tryd.prog Rows.headPartsRow.laid W) :
    Calls Tryd.prog 6 args W fun e W' => ∃ v, e = .returned v ∧ Rows.headPartsSpec.post enc Tryd.prog Tryd.f6 false true false false W args v W' := by
  have hval := hval0
  have hW' := hW
  obtain ⟨p, q, hA0, hV, rfl, hfz, hnd⟩ := hW
  have hA : DataW.TrodAll enc Tryd.prog W 0 (fun _ => true) true Tryd.f6.params.toList args.toList ds p := hA0
  rw [Tryd.params6] at hA hval
  obtain ⟨v0, vs0, d0, ds0, p0, q0, hargs, rfl, rfl, h0, r0⟩ := trodAll_cons hA
  obtain ⟨rfl, rfl, rfl⟩ := trodAll_nil r0
  obtain rfl : args = #[v0] := by cases args; simp_all
  obtain ⟨rfl, rfl⟩ := trodVars_none hV
  have h0s : 0 < W.heap.size := by
    have hc := (table hL).cell gTab 0 (by decide)
    rcases Nat.lt_or_ge 0 W.heap.size with h | h
    · exact h
    · exfalso
      have : W.heap[0]? = none := Array.getElem?_eq_none h
      simp [World.cell?, this] at hc
  have hC : TabC W := tabC hL h0s
  have k0 := h0
  have lt0 : ∀ x ∈ p0, x.block < W.heap.size := by obtain ⟨m, hm⟩ := k0; exact DataW.trod_lt m _ _ _ hm
  obtain ⟨k0h, rfl⟩ := open_head (hval 0 27 v0 rfl rfl) h0
  clear hA0 hval0
  refine (walk k0h W  hC).mono fun e W' ⟨he, bel⟩ => ?_
  subst he
  exact ⟨_, rfl, _, _, _, [], _, [], hW', trodAll_mk1 (shut_bool Tryd.underlying4 _), (trodAll_cons_mk (Below.trod laidOut (by kernel_rfl) (of_decide_eq_true (by kernel_rfl)) k0 bel lt0) trodAll_mk0), rfl, bel.frame _, fun h => by cases h⟩

def wit : Array Value := #[.agg #[.int .u64 0, .int .i64 0, .int .i64 0, .int .i64 0, .int .i64 0, .int .i64 0, .int .i64 0, .int .i64 0, .int .u8 0, .int .u8 0, .int .u8 0, .int .u8 0, .int .u8 0, .int .u8 0, .int .u8 0, .int .u8 0, .int .u8 0, .int .u8 0, .int .u8 0, .int .u8 0, .int .u8 0, .int .u8 0, .int .u8 0, .int .u8 0]]
def dat {H : Type} : List (DataW H) := [.agg [.lit (.int .u64 0), .lit (.int .i64 0), .lit (.int .i64 0), .lit (.int .i64 0), .lit (.int .i64 0), .agg [.lit (.int .i64 0), .lit (.int .i64 0), .lit (.int .i64 0)], .agg (List.replicate 16 (.lit (.int .u8 0)))]]
def setTab : Obj → Obj
  | .cells _ t frozen => .cells (tabL.map fun z => Value.int .u32 z).toArray t frozen
  | o => o
theorem laid_met (os : Os) : laidMet Tryd.prog Rows.headPartsRow.laid (({ World.holding Tryd.prog os ⟨#[], #[], []⟩ with heap := (World.holding Tryd.prog os ⟨#[], #[], []⟩).heap.modify 0 setTab } : World).forCall (fun _ _ => 0) ⟨#[], wit, []⟩).memory :=
  laidMet_of_run' 8 (by kernel_rfl) (by kernel_rfl)
theorem reads (os : Os) {H : Type} (enc : TypeId × Value → H) : ∃ places, DataW.whole enc Tryd.prog (({ World.holding Tryd.prog os ⟨#[], #[], []⟩ with heap := (World.holding Tryd.prog os ⟨#[], #[], []⟩).heap.modify 0 setTab } : World).forCall (fun _ _ => 0) ⟨#[], wit, []⟩).memory Tryd.f6.params.toList Rows.headPartsSpec.vars false wit.toList 8 = some (dat, [], places) :=
  ⟨[], by kernel_rfl⟩

set_option maxRecDepth 100000 in
theorem lifted (os : Os) (started : os.Started) (H : Type) (enc : TypeId × Value → H) (F : Stop.Interp) :
    ReturnsInHanded {} Tryd.checked os 6 .any ((OpenSpec.ofChange Rows.headPartsSpec).preRow enc Tryd.prog Tryd.f6 Rows.headPartsRow.domain false Rows.headPartsRow.laid) (((OpenSpec.ofChange Rows.headPartsSpec).at F).post enc Tryd.prog Tryd.f6 false true false false) := by
  obtain ⟨places, hx⟩ := reads os enc
  refine returnsInHanded_of_row (C := Tryd.checked) (s := (OpenSpec.ofChange Rows.headPartsSpec)) own started (by kernel_rfl) Tryd.func6
    (witness_row_at (enc := enc) (C := Tryd.checked) false ({ World.holding Tryd.prog os ⟨#[], #[], []⟩ with heap := (World.holding Tryd.prog os ⟨#[], #[], []⟩).heap.modify 0 setTab } : World) wit rfl (by kernel_rfl) (by kernel_rfl) (by kernel_rfl)
      (OpenSpec.preRow_of_cond 8 hx (by kernel_rfl) (fun k hk => by cases hk) (by kernel_rfl) (laid_met os))) ?_
  intro W base args ds gs before hval hW _ hcond hsz hL _ _
  exact contract H enc W base args ds gs before hval hW hL

theorem said : Rows.HeadPartsSaid :=
  OpenClaim.holds_of_cond 6 Tryd.f6 rfl rfl rfl rfl rfl rfl rfl ⟨rfl, rfl, rfl, rfl, rfl⟩ rfl rfl rfl rfl rfl (by kernel_rfl) Tryd.func6 (by kernel_rfl)
    (of_decide_eq_true (by kernel_rfl)) (by unfold Func.isWrapper; first | (rw [if_pos (by decide +kernel)]; kernel_rfl) | (rw [if_neg (by decide +kernel)]; exact ⟨rfl, rfl⟩))
    (fun os started H enc _ F => by rw [OpenClaim.pre_eq_preRow]; exact lifted os started H enc F)

theorem plain (f : FuncId) (fn : Func) (hf : Tryd.pinned.checked.prog.funcNamed "casket/casketlaw11.HeadParts" = some f) (hfn : Tryd.pinned.checked.prog.funcs[f]? = some fn) :
    false = Tryd.pinned.checked.prog.looks [] ∧ ∀ (j : Nat) t, fn.params[j]? = some t → Tryd.pinned.checked.prog.wantsStandIn t = false := by
  obtain rfl : f = 6 := Option.some.inj ((show Tryd.prog.funcNamed "casket/casketlaw11.HeadParts" = some 6 by kernel_rfl).symm.trans hf) |>.symm
  obtain rfl : fn = Tryd.f6 := (Option.some.inj (Tryd.func6.symm.trans hfn)).symm
  refine ⟨by kernel_rfl, fun j t ht => ?_⟩
  rw [Tryd.params6] at ht
  have hm : t ∈ [27] := by simpa using Array.mem_of_getElem? ht
  have hall : ([27].all fun u => !Tryd.prog.wantsStandIn u) = true := by kernel_rfl
  exact (show Tryd.prog.wantsStandIn t = false by simpa using List.all_eq_true.1 hall t hm)

theorem card : Rows.HeadPartsCardSaid :=
  Claim7.holds_tied_plain_at .later [] _ _ _ _ said (fun _ h => by cases h) (by kernel_rfl) (fun _ h => by cases h) headParts_row_tie rfl ⟨rfl, rfl⟩ (by kernel_rfl) rfl plain (by kernel_rfl)
end Go.Proofs.YtenlokmoijeehaaDoor.headParts
namespace Go.Proofs.YtenlokmoijeehaaDoor
theorem headParts_holds : Rows.HeadPartsCardSaid := headParts.card
end Go.Proofs.YtenlokmoijeehaaDoor
