/-
  For every header and every slice of bytes, nil or not, the law HeadNewer returns true, and its arguments read behind the call as they read before; the package-level table of constants is laid as the program text lays it. No other condition.
-/
import Derived.Test.YtenlokmoijeehaaDoorCards
import Derived.Test.YtenlokmoijeehaaDoorTie
import Derived.WalkKit
import Derived.ProofKit
import Derived.OpenShut
import Derived.ShutString
import Derived.ChangeOld
import Derived.Below
import Derived.Deep.DeepHandedRow
import Derived.Lib.LaidTab
import Derived.Test.YtenlokmoijeehaaDoorGw
import Derived.Test.YtenlokmoijeehaaDoorGu
namespace Go.Proofs.YtenlokmoijeehaaDoor.headNewer
open Go.ChangeShapes Go.WideShapes Go.ChangeAt Go.RowKit
set_option linter.unusedVariables false

theorem own : ownKnob Tryd.prog.godebug = none := by kernel_rfl
theorem laidOut : laidOutB Tryd.prog = true := by kernel_rfl
theorem gTab : Tryd.prog.globalNamed "casket/sha.constants" = some 0 := by kernel_rfl
theorem gTabType : (Tryd.prog.globals[0]?).map (·.type) = some 95 := by kernel_rfl
theorem cellsG : Tryd.prog.cellsOf 95 = 64 := by kernel_rfl
theorem cellsE : Tryd.prog.cellsOf 79 = 1 := by kernel_rfl
def tabL : List Int := [1116352408, 1899447441, 3049323471, 3921009573, 961987163, 1508970993, 2453635748, 2870763221, 3624381080, 310598401, 607225278, 1426881987, 1925078388, 2162078206, 2614888103, 3248222580, 3835390401, 4022224774, 264347078, 604807628, 770255983, 1249150122, 1555081692, 1996064986, 2554220882, 2821834349, 2952996808, 3210313671, 3336571891, 3584528711, 113926993, 338241895, 666307205, 773529912, 1294757372, 1396182291, 1695183700, 1986661051, 2177026350, 2456956037, 2730485921, 2820302411, 3259730800, 3345764771, 3516065817, 3600352804, 4094571909, 275423344, 430227734, 506948616, 659060556, 883997877, 958139571, 1322822218, 1537002063, 1747873779, 1955562222, 2024104815, 2227730452, 2361852424, 2428436474, 2756734187, 3204031479, 3329325298]
theorem table {W : World} (h : laidMetH Tryd.prog Rows.headNewerRow.laid W) : Lib.TabIs Tryd.prog W "casket/sha.constants" .u32 tabL :=
  Lib.tabIs_of_head (rest := []) gTab gTabType Tryd.underlying95 Tryd.underlying79 cellsE cellsG h
theorem tab_kT : ∀ j, j < 64 → tabL.getD j 0 = ((kT j).toNat : Int) := by decide +kernel
theorem tabC {W : World} (h : laidMetH Tryd.prog Rows.headNewerRow.laid W) (h0 : 0 < W.heap.size) : TabC W :=
  ⟨fun j hj => by
    rw [← tab_kT j hj]
    exact (table h).cell gTab j hj, h0⟩

open Go.BigFrame
theorem barg_bv {v : Value} {W : World} (h : BArg v W) : ∃ l b, BV v l b W := by
  rcases h with rfl | ⟨a, l, cap, b, rfl, h1, h2, _⟩
  · exact ⟨0, fun _ => 0#8, .inl ⟨rfl, rfl⟩⟩
  · exact ⟨l, b, .inr ⟨a, cap, rfl, h1, h2⟩⟩
set_option maxRecDepth 20000 in
set_option maxHeartbeats 2000000 in
theorem walk_no (h : Hd) (v1 : Value) (l : Nat) (bb : Nat → BitVec 8) (w : World) (hC : Hid (TabC w)) (hS : Hid (BV v1 l bb w)) (hk : ¬ okH h) : Calls Tryd.prog 7 #[.agg (row 24 (hdv h)).toArray, v1] w fun e w' => e = .returned (.bool true) ∧ Below w.heap.size w w' := by
  go_enter Tryd.func7, Tryd.ntmps7
  go_upto_region 0 with (fail)
  refine wp_region_lit ?_
  refine wpList_to rfl (.pointer (some ⟨w.heap.size, 0, none⟩)) (w.alloc (.cells (row 24 (hdv h)).toArray 27)) (by simp [go_sem]) ?_
  simp only [Act.put, List.setIfInBounds_toArray, List.set_cons_zero, List.set_cons_succ]
  have P1 := hideit (RowAt.new w 24 (hdv h) 27)
  have X1 : Ext w (w.alloc (.cells (row 24 (hdv h)).toArray 27)) := (Below.refl _ _).alloc (Nat.le_refl _) _
  have C1 := hideit (hC.out.ext X1)
  have S1 := hideit (hS.out.ext X1)
  have hE1 := hideit X1
  clear X1 hC hS
  generalize w.alloc (.cells (row 24 (hdv h)).toArray 27) = w1 at *
  generalize w.heap.size = c at P1 ⊢
  go_upto_region 1 with (fail)
  refine wp_region_lit ?_
  refine wpList_run rfl (.agg (row 24 (hdv h)).toArray) (exec_loadR 27 (.tmp 2) rfl c 0 24 _ rfl P1.out.range Tryd.underlying27 rfl infoH) ?_
  simp only [Act.put, List.setIfInBounds_toArray, List.set_cons_zero, List.set_cons_succ]
  refine wpList_call rfl (by simp [go_sem]; exact ⟨rfl, rfl⟩) ?_
  refine (enc_no h w1 hk).mono ?_
  rintro e w2 ⟨rfl, hX⟩
  refine ⟨_, rfl, ?_⟩
  simp only [Act.put, List.setIfInBounds_toArray, List.set_cons_zero, List.set_cons_succ]
  have P2 := hideit (P1.out.carry hX)
  have C2 := hideit (C1.out.ext hX)
  have S2 := hideit (S1.out.ext hX)
  have hE2 := hideit (Ext.trans hE1.out hX)
  clear hE1 hX P1 C1 S1
  have kl := hideit (lives_any w2 C2)
  go_upto_region 4 with (go_at_call 12; refine kl.out.mono ?_; rintro e w3 ⟨rfl, hX⟩; have P3 := hideit (P2.out.carry hX); have C3 := hideit (C2.out.ext hX); have S3 := hideit (S2.out.ext hX); have hE3 := hideit (Ext.trans hE2.out hX); clear hE2 hX P2 C2 S2; clear kl)
  have kr := hideit (rcheck_no h w3 hk)
  go_upto_region 5 with (fail)
  refine wp_region_lit ?_
  refine wpList_run rfl (.agg (row 24 (hdv h)).toArray) (exec_loadR 27 (.tmp 2) rfl c 0 24 _ rfl P3.out.range Tryd.underlying27 rfl infoH) ?_
  simp only [Act.put, List.setIfInBounds_toArray, List.set_cons_zero, List.set_cons_succ]
  refine wpList_call rfl (by simp [go_sem]; exact ⟨rfl, rfl⟩) ?_
  refine (kr.out).mono ?_
  rintro e w4 ⟨rfl, hX⟩
  refine ⟨_, rfl, ?_⟩
  simp only [Act.put, List.setIfInBounds_toArray, List.set_cons_zero, List.set_cons_succ]
  have hE4 := hideit (Ext.trans hE3.out hX)
  clear P3 S3 C3 hE3 kr hX
  go_wp2
  go_ret
  exact ⟨rfl, hE4.out⟩
set_option maxRecDepth 20000 in
set_option maxHeartbeats 2000000 in
theorem walk_max (h : Hd) (v1 : Value) (l : Nat) (bb : Nat → BitVec 8) (w : World) (hC : Hid (TabC w)) (hS : Hid (BV v1 l bb w)) (hk : Hid (okH h)) (hmax : h.g.toNat = 18446744073709551615) : Calls Tryd.prog 7 #[.agg (row 24 (hdv h)).toArray, v1] w fun e w' => e = .returned (.bool true) ∧ Below w.heap.size w w' := by
  go_enter Tryd.func7, Tryd.ntmps7
  go_upto_region 0 with (fail)
  refine wp_region_lit ?_
  refine wpList_to rfl (.pointer (some ⟨w.heap.size, 0, none⟩)) (w.alloc (.cells (row 24 (hdv h)).toArray 27)) (by simp [go_sem]) ?_
  simp only [Act.put, List.setIfInBounds_toArray, List.set_cons_zero, List.set_cons_succ]
  have P1 := hideit (RowAt.new w 24 (hdv h) 27)
  have X1 : Ext w (w.alloc (.cells (row 24 (hdv h)).toArray 27)) := (Below.refl _ _).alloc (Nat.le_refl _) _
  have C1 := hideit (hC.out.ext X1)
  have S1 := hideit (hS.out.ext X1)
  have hE1 := hideit X1
  clear X1 hC hS
  generalize w.alloc (.cells (row 24 (hdv h)).toArray 27) = w1 at *
  generalize w.heap.size = c at P1 ⊢
  go_upto_region 1 with (fail)
  refine wp_region_lit ?_
  refine wpList_run rfl (.agg (row 24 (hdv h)).toArray) (exec_loadR 27 (.tmp 2) rfl c 0 24 _ rfl P1.out.range Tryd.underlying27 rfl infoH) ?_
  simp only [Act.put, List.setIfInBounds_toArray, List.set_cons_zero, List.set_cons_succ]
  refine wpList_call rfl (by simp [go_sem]; exact ⟨rfl, rfl⟩) ?_
  refine (enc_ok h w1 hk.out C1.out).mono ?_
  rintro e w2 ⟨ga, rfl, hg2, A2, hX⟩
  refine ⟨_, rfl, ?_⟩
  simp only [Act.put, List.setIfInBounds_toArray, List.set_cons_zero, List.set_cons_succ]
  replace A2 := hideit A2
  clear hg2
  have P2 := hideit (P1.out.carry hX)
  have C2 := hideit (C1.out.ext hX)
  have S2 := hideit (S1.out.ext hX)
  have hE2 := hideit (Ext.trans hE1.out hX)
  clear hE1 hX P1 C1 S1
  have kl := hideit (lives_any w2 C2)
  go_upto_region 4 with (go_at_call 12; refine kl.out.mono ?_; rintro e w3 ⟨rfl, hX⟩; have P3 := hideit (P2.out.carry hX); have A3 := hideit (A2.out.carry hX); have C3 := hideit (C2.out.ext hX); have S3 := hideit (S2.out.ext hX); have hE3 := hideit (Ext.trans hE2.out hX); clear hE2 hX P2 A2 C2 S2; clear kl)
  have eg : w3.cell? ⟨c, 0, none⟩ = some (.int .u64 (h.g.toNat : Int)) := P3.out.1 0 (by decide)
  have hm : (h.g.toNat : Int) = 18446744073709551615 := by omega
  have kr := hideit (rcheck_ok h w3 hk.out)
  rw [hm] at eg
  go_upto_region 5 with (fail)
  refine wp_region_lit ?_
  refine wpList_run rfl (.agg (row 24 (hdv h)).toArray) (exec_loadR 27 (.tmp 2) rfl c 0 24 _ rfl P3.out.range Tryd.underlying27 rfl infoH) ?_
  simp only [Act.put, List.setIfInBounds_toArray, List.set_cons_zero, List.set_cons_succ]
  refine wpList_call rfl (by simp [go_sem]; exact ⟨rfl, rfl⟩) ?_
  refine (kr.out).mono ?_
  rintro e w4 ⟨rfl, hX⟩
  refine ⟨_, rfl, ?_⟩
  simp only [Act.put, List.setIfInBounds_toArray, List.set_cons_zero, List.set_cons_succ]
  have hE4 := hideit (Ext.trans hE3.out hX)
  clear P3 S3 C3 A3 hE3 kr hX eg
  go_wp2
  go_ret
  exact ⟨rfl, hE4.out⟩
set_option maxRecDepth 20000 in
set_option maxHeartbeats 2000000 in
theorem walk_ok (h G : Hd) (v1 : Value) (l : Nat) (bb : Nat → BitVec 8) (w : World) (hC : Hid (TabC w)) (hS : Hid (BV v1 l bb w)) (hk : Hid (okH h)) (hkG : Hid (okH G)) (hG1 : Hid (G.g.toNat = h.g.toNat + 1)) (hG2 : Hid (∀ j, j ≠ 0 → hdv h j = hdv G j)) (hmax : h.g.toNat ≠ 18446744073709551615) (H : Hd) (E : Int) (hd : Hid ((E = 0 ∧ 1 ≤ H.g.toNat) ∨ (E = 110 ∧ H = zH)))
    (k1 : Hid (∀ X, Ext w X → Calls Tryd.prog 16 #[v1] X fun e w' => e = .returned (.tuple #[.agg (row 24 (hdv H)).toArray, .int .i64 E]) ∧ Ext X w'))
    (r1 : Hid (∀ X, Ext w X → Calls Tryd.prog 17 #[v1] X fun e w' => e = .returned (.tuple #[.agg (row 24 (hdv H)).toArray, .int .i64 E]) ∧ Ext X w')) : Calls Tryd.prog 7 #[.agg (row 24 (hdv h)).toArray, v1] w fun e w' => e = .returned (.bool true) ∧ Below w.heap.size w w' := by
  have hlt : Hid (h.g.toNat < G.g.toNat) := hideit (by have := hG1.out; omega)
  have hCw := hC
  have hSw := hS
  go_enter Tryd.func7, Tryd.ntmps7
  go_upto_region 0 with (fail)
  refine wp_region_lit ?_
  refine wpList_to rfl (.pointer (some ⟨w.heap.size, 0, none⟩)) (w.alloc (.cells (row 24 (hdv h)).toArray 27)) (by simp [go_sem]) ?_
  simp only [Act.put, List.setIfInBounds_toArray, List.set_cons_zero, List.set_cons_succ]
  have P1 := hideit (RowAt.new w 24 (hdv h) 27)
  have X1 : Ext w (w.alloc (.cells (row 24 (hdv h)).toArray 27)) := (Below.refl _ _).alloc (Nat.le_refl _) _
  have C1 := hideit (hC.out.ext X1)
  have S1 := hideit (hS.out.ext X1)
  have hE1 := hideit X1
  clear X1 hC hS
  generalize w.alloc (.cells (row 24 (hdv h)).toArray 27) = w1 at *
  generalize w.heap.size = c at P1 ⊢
  go_upto_region 1 with (fail)
  refine wp_region_lit ?_
  refine wpList_run rfl (.agg (row 24 (hdv h)).toArray) (exec_loadR 27 (.tmp 2) rfl c 0 24 _ rfl P1.out.range Tryd.underlying27 rfl infoH) ?_
  simp only [Act.put, List.setIfInBounds_toArray, List.set_cons_zero, List.set_cons_succ]
  refine wpList_call rfl (by simp [go_sem]; exact ⟨rfl, rfl⟩) ?_
  refine (enc_ok h w1 hk.out C1.out).mono ?_
  rintro e w2 ⟨ga, rfl, hg2, A2, hX⟩
  refine ⟨_, rfl, ?_⟩
  simp only [Act.put, List.setIfInBounds_toArray, List.set_cons_zero, List.set_cons_succ]
  replace A2 := hideit A2
  clear hg2
  have P2 := hideit (P1.out.carry hX)
  have C2 := hideit (C1.out.ext hX)
  have S2 := hideit (S1.out.ext hX)
  have hE2 := hideit (Ext.trans hE1.out hX)
  clear hE1 hX P1 C1 S1
  have kl := hideit (lives_any w2 C2)
  go_upto_region 4 with (go_at_call 12; refine kl.out.mono ?_; rintro e w3 ⟨rfl, hX⟩; have P3 := hideit (P2.out.carry hX); have A3 := hideit (A2.out.carry hX); have C3 := hideit (C2.out.ext hX); have S3 := hideit (S2.out.ext hX); have hE3 := hideit (Ext.trans hE2.out hX); clear hE2 hX P2 A2 C2 S2; clear kl)
  have eg : w3.cell? ⟨c, 0, none⟩ = some (.int .u64 (h.g.toNat : Int)) := P3.out.1 0 (by decide)
  have hm : ¬ (h.g.toNat : Int) = 18446744073709551615 := by omega
  go_upto_region 6 with (fail)
  clear eg
  refine wp_region_lit ?_
  refine wpList_run rfl (.agg (row 24 (hdv h)).toArray) (exec_loadR 27 (.tmp 2) rfl c 0 24 _ rfl P3.out.range Tryd.underlying27 rfl infoH) ?_
  simp only [Act.put, List.setIfInBounds_toArray, List.set_cons_zero, List.set_cons_succ]
  have hE3x : Hid (w.heap.size ≤ w3.heap.size) := hideit (Below.size hE3.out)
  have hpx : Hid (c < w3.heap.size) := hideit P3.out.2.2
  have hax : Hid (ga < w3.heap.size) := hideit A3.out.2.2
  obtain ⟨M1, M2, M3⟩ := made27 w3 h
  replace M1 := hideit M1
  have D4 := hideit M2
  clear M2
  refine wpList_to rfl (.pointer (some ⟨w3.heap.size, 0, none⟩)) (w3.alloc (.cells (row 24 (hdv zH)).toArray 27)) (exec_alloc 27 _ rfl (zeroH w3)) ?_
  simp only [Act.put, List.setIfInBounds_toArray, List.set_cons_zero, List.set_cons_succ]
  refine wpList_store_mid rfl 27 (.tmp 7) (.tmp 42) rfl w3.heap.size 0 (row 24 (hdv h)).toArray rfl rfl (by rw [row_size]; exact M1.out.there) (by rw [row_size]; exact infoH) (row_one fun j _ => hdv_one _ j) ?_
  rw [show (row 24 (hdv h)).toArray.toList = row 24 (hdv h) from rfl]
  have P4 := hideit (P3.out.carry M3)
  have A4 := hideit (A3.out.carry M3)
  have C4 := hideit (C3.out.ext M3)
  have S4 := hideit (S3.out.ext M3)
  have hE4 := hideit (Ext.trans hE3.out M3)
  clear hE3 M3 P3 A3 C3 S3
  generalize (w3.alloc (.cells (row 24 (hdv zH)).toArray 27)).setCells w3.heap.size 0 (row 24 (hdv h)) = w4 at *
  generalize w3.heap.size = d at *
  clear M1
  simp only [Act.put]
  have e1 : w4.cell? ⟨d, 0, none⟩ = some (.int .u64 (h.g.toNat : Int)) := D4.out.1 0 (by decide)
  have e2 : w4.frozen? ⟨d, 0, none⟩ = false := D4.out.2.1 0 (by decide)
  have e3 : IntKind.u64.wrap ((h.g.toNat : Int) + 1) = (G.g.toNat : Int) := by have := hG1.out; have := G.g.isLt; rw [IntKind.wrap_u64]; omega
  go_upto_region 8 with (fail)
  have D5 := hideit ((D4.out.set 0 (.int .u64 (G.g.toNat : Int))).congr (g' := hdv G) fun j hj => by
    by_cases h0 : j = 0
    · rw [if_pos h0, h0]; rfl
    · rw [if_neg h0, hG2.out j h0])
  have hBt := but_setCell w4 d 0 (.int .u64 (G.g.toNat : Int))
  have P5 := hideit (P4.out.but hBt (by have := hpx.out; omega))
  have A5 := hideit (A4.out.but hBt (by have := hax.out; omega))
  have hE5 := hideit (hE4.out.but hBt hE3x.out)
  have C5 := hideit (hCw.out.ext hE5.out)
  have S5 := hideit (hSw.out.ext hE5.out)
  clear e1 e2 e3 D4 P4 A4 hE4 C4 S4 hBt hpx hax hE3x
  generalize w4.setCell ⟨d, 0, none⟩ (.int .u64 (G.g.toNat : Int)) = w5 at *
  refine wp_region_lit ?_
  refine wpList_run rfl (.agg (row 24 (hdv G)).toArray) (exec_loadR 27 (.tmp 7) rfl d 0 24 _ rfl D5.out.range Tryd.underlying27 rfl infoH) ?_
  simp only [Act.put, List.setIfInBounds_toArray, List.set_cons_zero, List.set_cons_succ]
  refine wpList_call rfl (by simp [go_sem]; exact ⟨rfl, rfl⟩) ?_
  refine (enc_ok G w5 hkG.out C5.out).mono ?_
  rintro e w6 ⟨gb, rfl, hg2, B6, hX⟩
  refine ⟨_, rfl, ?_⟩
  simp only [Act.put, List.setIfInBounds_toArray, List.set_cons_zero, List.set_cons_succ]
  replace B6 := hideit B6
  clear hg2
  have P6 := hideit (P5.out.carry hX)
  have A6 := hideit (A5.out.carry hX)
  have D6 := hideit (D5.out.carry hX)
  have C6 := hideit (C5.out.ext hX)
  have S6 := hideit (S5.out.ext hX)
  have hE6 := hideit (Ext.trans hE5.out hX)
  clear hE5 hX P5 A5 D5 C5 S5
  go_upto_region 9 with (fail)
  refine wp_region_lit ?_
  refine wpList_run rfl (.slice (some ⟨ga, 0, none⟩) 512 512) (by simp [go_sem]) ?_
  simp only [Act.put, List.setIfInBounds_toArray, List.set_cons_zero, List.set_cons_succ]
  refine wpList_run rfl (.slice (some ⟨gb, 0, none⟩) 512 512) (by simp [go_sem]) ?_
  simp only [Act.put, List.setIfInBounds_toArray, List.set_cons_zero, List.set_cons_succ]
  refine wpList_call rfl (by simp [go_sem]; exact ⟨rfl, rfl⟩) ?_
  refine (cho_core (.slice (some ⟨ga, 0, none⟩) 512 512) (.slice (some ⟨gb, 0, none⟩) 512 512) h G 0 0 w6 (fun X hX => dec_back (.slice (some ⟨ga, 0, none⟩) 512 512) h X ((A6.out.carry hX).bv 512 (Nat.le_refl _)) (C6.out.ext hX) hk.out) (fun X hX => dec_back (.slice (some ⟨gb, 0, none⟩) 512 512) G X ((B6.out.carry hX).bv 512 (Nat.le_refl _)) (C6.out.ext hX) hkG.out) G 1 0 (hideit fun hh => absurd rfl hh.1) (hideit fun _ _ => ⟨rfl, rfl, rfl⟩) (hideit fun _ hh => absurd hlt.out hh)).mono ?_
  rintro e w7 ⟨rfl, hX⟩
  refine ⟨_, rfl, ?_⟩
  simp only [Act.put, List.setIfInBounds_toArray, List.set_cons_zero, List.set_cons_succ]
  have P7 := hideit (P6.out.carry hX)
  have A7 := hideit (A6.out.carry hX)
  have D7 := hideit (D6.out.carry hX)
  have B7 := hideit (B6.out.carry hX)
  have C7 := hideit (C6.out.ext hX)
  have S7 := hideit (S6.out.ext hX)
  have hE7 := hideit (Ext.trans hE6.out hX)
  clear hE6 hX P6 A6 D6 B6 C6 S6
  refine wpList_run rfl (.tuple #[.agg (row 24 (hdv G)).toArray, .int .i64 1, .int .i64 0]) (by simp [go_sem]) ?_
  simp only [Act.put, List.setIfInBounds_toArray, List.set_cons_zero, List.set_cons_succ]
  refine wpList_run rfl (.agg (row 24 (hdv G)).toArray) (by simp [go_sem]) ?_
  simp only [Act.put, List.setIfInBounds_toArray, List.set_cons_zero, List.set_cons_succ]
  refine wpList_run rfl (.int .i64 1) (by simp [go_sem]) ?_
  simp only [Act.put, List.setIfInBounds_toArray, List.set_cons_zero, List.set_cons_succ]
  refine wpList_run rfl (.int .i64 0) (by simp [go_sem]) ?_
  simp only [Act.put, List.setIfInBounds_toArray, List.set_cons_zero, List.set_cons_succ]
  obtain ⟨M1, M2, M3⟩ := made27 w7 G
  replace M1 := hideit M1
  have X8 := hideit M2
  clear M2
  refine wpList_to rfl (.pointer (some ⟨w7.heap.size, 0, none⟩)) (w7.alloc (.cells (row 24 (hdv zH)).toArray 27)) (exec_alloc 27 _ rfl (zeroH w7)) ?_
  simp only [Act.put, List.setIfInBounds_toArray, List.set_cons_zero, List.set_cons_succ]
  refine wpList_store_mid rfl 27 (.tmp 10) (.tmp 56) rfl w7.heap.size 0 (row 24 (hdv G)).toArray rfl rfl (by rw [row_size]; exact M1.out.there) (by rw [row_size]; exact infoH) (row_one fun j _ => hdv_one _ j) ?_
  rw [show (row 24 (hdv G)).toArray.toList = row 24 (hdv G) from rfl]
  have P8 := hideit (P7.out.carry M3)
  have A8 := hideit (A7.out.carry M3)
  have D8 := hideit (D7.out.carry M3)
  have B8 := hideit (B7.out.carry M3)
  have C8 := hideit (C7.out.ext M3)
  have S8 := hideit (S7.out.ext M3)
  have hE8 := hideit (Ext.trans hE7.out M3)
  clear hE7 M3 P7 A7 D7 B7 C7 S7
  generalize (w7.alloc (.cells (row 24 (hdv zH)).toArray 27)).setCells w7.heap.size 0 (row 24 (hdv G)) = w8 at *
  generalize w7.heap.size = x at *
  clear M1
  simp only [Act.put]
  go_upto_region 10 with (fail)
  refine wp_region_lit ?_
  refine wpList_run rfl (.slice (some ⟨gb, 0, none⟩) 512 512) (by simp [go_sem]) ?_
  simp only [Act.put, List.setIfInBounds_toArray, List.set_cons_zero, List.set_cons_succ]
  refine wpList_run rfl (.slice (some ⟨ga, 0, none⟩) 512 512) (by simp [go_sem]) ?_
  simp only [Act.put, List.setIfInBounds_toArray, List.set_cons_zero, List.set_cons_succ]
  refine wpList_call rfl (by simp [go_sem]; exact ⟨rfl, rfl⟩) ?_
  refine (cho_core (.slice (some ⟨gb, 0, none⟩) 512 512) (.slice (some ⟨ga, 0, none⟩) 512 512) G h 0 0 w8 (fun X hX => dec_back (.slice (some ⟨gb, 0, none⟩) 512 512) G X ((B8.out.carry hX).bv 512 (Nat.le_refl _)) (C8.out.ext hX) hkG.out) (fun X hX => dec_back (.slice (some ⟨ga, 0, none⟩) 512 512) h X ((A8.out.carry hX).bv 512 (Nat.le_refl _)) (C8.out.ext hX) hk.out) G 0 0 (hideit fun hh => absurd rfl hh.1) (hideit fun _ hh => absurd hh (Nat.lt_asymm hlt.out)) (hideit fun _ _ => ⟨rfl, rfl, rfl⟩)).mono ?_
  rintro e w9 ⟨rfl, hX⟩
  refine ⟨_, rfl, ?_⟩
  simp only [Act.put, List.setIfInBounds_toArray, List.set_cons_zero, List.set_cons_succ]
  have P9 := hideit (P8.out.carry hX)
  have A9 := hideit (A8.out.carry hX)
  have D9 := hideit (D8.out.carry hX)
  have B9 := hideit (B8.out.carry hX)
  have X9 := hideit (X8.out.carry hX)
  have C9 := hideit (C8.out.ext hX)
  have S9 := hideit (S8.out.ext hX)
  have hE9 := hideit (Ext.trans hE8.out hX)
  clear hE8 hX P8 A8 D8 B8 X8 C8 S8
  refine wpList_run rfl (.tuple #[.agg (row 24 (hdv G)).toArray, .int .i64 0, .int .i64 0]) (by simp [go_sem]) ?_
  simp only [Act.put, List.setIfInBounds_toArray, List.set_cons_zero, List.set_cons_succ]
  refine wpList_run rfl (.agg (row 24 (hdv G)).toArray) (by simp [go_sem]) ?_
  simp only [Act.put, List.setIfInBounds_toArray, List.set_cons_zero, List.set_cons_succ]
  refine wpList_run rfl (.int .i64 0) (by simp [go_sem]) ?_
  simp only [Act.put, List.setIfInBounds_toArray, List.set_cons_zero, List.set_cons_succ]
  refine wpList_run rfl (.int .i64 0) (by simp [go_sem]) ?_
  simp only [Act.put, List.setIfInBounds_toArray, List.set_cons_zero, List.set_cons_succ]
  obtain ⟨M1, M2, M3⟩ := made27 w9 G
  replace M1 := hideit M1
  have Y10 := hideit M2
  clear M2
  refine wpList_to rfl (.pointer (some ⟨w9.heap.size, 0, none⟩)) (w9.alloc (.cells (row 24 (hdv zH)).toArray 27)) (exec_alloc 27 _ rfl (zeroH w9)) ?_
  simp only [Act.put, List.setIfInBounds_toArray, List.set_cons_zero, List.set_cons_succ]
  refine wpList_store_mid rfl 27 (.tmp 13) (.tmp 63) rfl w9.heap.size 0 (row 24 (hdv G)).toArray rfl rfl (by rw [row_size]; exact M1.out.there) (by rw [row_size]; exact infoH) (row_one fun j _ => hdv_one _ j) ?_
  rw [show (row 24 (hdv G)).toArray.toList = row 24 (hdv G) from rfl]
  have P10 := hideit (P9.out.carry M3)
  have A10 := hideit (A9.out.carry M3)
  have D10 := hideit (D9.out.carry M3)
  have B10 := hideit (B9.out.carry M3)
  have X10 := hideit (X9.out.carry M3)
  have C10 := hideit (C9.out.ext M3)
  have S10 := hideit (S9.out.ext M3)
  have hE10 := hideit (Ext.trans hE9.out M3)
  clear hE9 M3 P9 A9 D9 B9 X9 C9 S9
  generalize (w9.alloc (.cells (row 24 (hdv zH)).toArray 27)).setCells w9.heap.size 0 (row 24 (hdv G)) = w10 at *
  generalize w9.heap.size = y at *
  clear M1
  simp only [Act.put]
  go_upto_region 11 with (fail)
  refine wp_region_lit ?_
  refine wpList_run rfl (.int .i64 0) (by simp [go_sem]) ?_
  simp only [Act.put, List.setIfInBounds_toArray, List.set_cons_zero, List.set_cons_succ]
  refine wpList_run rfl (.bool false) (by simp [go_sem]) ?_
  simp only [Act.put, List.setIfInBounds_toArray, List.set_cons_zero, List.set_cons_succ]
  refine wpList_run rfl (.bool false) (by simp [go_sem]) ?_
  simp only [Act.put, List.setIfInBounds_toArray, List.set_cons_zero, List.set_cons_succ]
  refine wpList_runW rfl (.int .i64 0) (by simp [go_sem]) ?_
  simp only [Act.put, List.setIfInBounds_toArray, List.set_cons_zero, List.set_cons_succ]
  refine wpList_runW rfl (.bool false) (by simp [go_sem]) ?_
  simp only [Act.put, List.setIfInBounds_toArray, List.set_cons_zero, List.set_cons_succ]
  refine wpList_run rfl (.bool false) (by simp [go_sem]) ?_
  simp only [Act.put, List.setIfInBounds_toArray, List.set_cons_zero, List.set_cons_succ]
  refine wpList_run rfl (.bool false) (by simp [go_sem]) ?_
  simp only [Act.put, List.setIfInBounds_toArray, List.set_cons_zero, List.set_cons_succ]
  refine wpList_runW rfl (.agg (row 24 (hdv G)).toArray) (exec_loadR 27 (.tmp 10) rfl x 0 24 _ rfl X10.out.range Tryd.underlying27 rfl infoH) ?_
  simp only [Act.put, List.setIfInBounds_toArray, List.set_cons_zero, List.set_cons_succ]
  refine wpList_runW rfl (.agg (row 24 (hdv G)).toArray) (exec_loadR 27 (.tmp 7) rfl d 0 24 _ rfl D10.out.range Tryd.underlying27 rfl infoH) ?_
  simp only [Act.put, List.setIfInBounds_toArray, List.set_cons_zero, List.set_cons_succ]
  refine wpList_runW rfl (.bool false) (exec_cmp .neq 27 27 (.tmp 73) (.tmp 74) rfl _ _ rfl rfl (by kernel_rfl) false (neqH G _)) ?_
  simp only [Act.put, List.setIfInBounds_toArray, List.set_cons_zero, List.set_cons_succ]
  refine wpList_run rfl (.bool false) (by simp [go_sem]) ?_
  simp only [Act.put, List.setIfInBounds_toArray, List.set_cons_zero, List.set_cons_succ]
  refine wpList_run rfl (.bool false) (by simp [go_sem]) ?_
  simp only [Act.put, List.setIfInBounds_toArray, List.set_cons_zero, List.set_cons_succ]
  refine wpList_runW rfl (.int .i64 1) (by simp [go_sem]) ?_
  simp only [Act.put, List.setIfInBounds_toArray, List.set_cons_zero, List.set_cons_succ]
  refine wpList_runW rfl (.bool false) (by simp [go_sem]) ?_
  simp only [Act.put, List.setIfInBounds_toArray, List.set_cons_zero, List.set_cons_succ]
  refine wpList_run rfl (.bool false) (by simp [go_sem]) ?_
  simp only [Act.put, List.setIfInBounds_toArray, List.set_cons_zero, List.set_cons_succ]
  refine wpList_run rfl (.bool false) (by simp [go_sem]) ?_
  simp only [Act.put, List.setIfInBounds_toArray, List.set_cons_zero, List.set_cons_succ]
  refine wpList_runW rfl (.agg (row 24 (hdv G)).toArray) (exec_loadR 27 (.tmp 13) rfl y 0 24 _ rfl Y10.out.range Tryd.underlying27 rfl infoH) ?_
  simp only [Act.put, List.setIfInBounds_toArray, List.set_cons_zero, List.set_cons_succ]
  refine wpList_runW rfl (.agg (row 24 (hdv G)).toArray) (exec_loadR 27 (.tmp 7) rfl d 0 24 _ rfl D10.out.range Tryd.underlying27 rfl infoH) ?_
  simp only [Act.put, List.setIfInBounds_toArray, List.set_cons_zero, List.set_cons_succ]
  refine wpList_runW rfl (.bool false) (exec_cmp .neq 27 27 (.tmp 82) (.tmp 83) rfl _ _ rfl rfl (by kernel_rfl) false (neqH G _)) ?_
  simp only [Act.put, List.setIfInBounds_toArray, List.set_cons_zero, List.set_cons_succ]
  refine wpList_run rfl (.bool false) (by simp [go_sem]) ?_
  simp only [Act.put, List.setIfInBounds_toArray, List.set_cons_zero, List.set_cons_succ]
  refine wpList_run rfl (.bool false) (by simp [go_sem]) ?_
  simp only [Act.put, List.setIfInBounds_toArray, List.set_cons_zero, List.set_cons_succ]
  refine wpList_runW rfl (.int .i64 0) (by simp [go_sem]) ?_
  simp only [Act.put, List.setIfInBounds_toArray, List.set_cons_zero, List.set_cons_succ]
  refine wpList_runW rfl (.bool false) (by simp [go_sem]) ?_
  simp only [Act.put, List.setIfInBounds_toArray, List.set_cons_zero, List.set_cons_succ]
  refine wpList_run rfl (.bool false) (by simp [go_sem]) ?_
  simp only [Act.put, List.setIfInBounds_toArray, List.set_cons_zero, List.set_cons_succ]
  clear X10 Y10 D10 B10
  go_upto_region 13 with (fail)
  refine wp_region_lit ?_
  refine wpList_run rfl (v1) (by simp [go_sem]) ?_
  simp only [Act.put, List.setIfInBounds_toArray, List.set_cons_zero, List.set_cons_succ]
  refine wpList_call rfl (by simp [go_sem]; exact ⟨rfl, rfl⟩) ?_
  refine (r1.out w10 hE10.out).mono ?_
  rintro e w11 ⟨rfl, hX⟩
  refine ⟨_, rfl, ?_⟩
  simp only [Act.put, List.setIfInBounds_toArray, List.set_cons_zero, List.set_cons_succ]
  have P11 := hideit (P10.out.carry hX)
  have A11 := hideit (A10.out.carry hX)
  have C11 := hideit (C10.out.ext hX)
  have S11 := hideit (S10.out.ext hX)
  have hE11 := hideit (Ext.trans hE10.out hX)
  clear hE10 hX P10 A10 C10 S10
  refine wpList_run rfl (.tuple #[.agg (row 24 (hdv H)).toArray, .int .i64 E]) (by simp [go_sem]) ?_
  simp only [Act.put, List.setIfInBounds_toArray, List.set_cons_zero, List.set_cons_succ]
  refine wpList_run rfl (.agg (row 24 (hdv H)).toArray) (by simp [go_sem]) ?_
  simp only [Act.put, List.setIfInBounds_toArray, List.set_cons_zero, List.set_cons_succ]
  refine wpList_run rfl (.int .i64 E) (by simp [go_sem]) ?_
  simp only [Act.put, List.setIfInBounds_toArray, List.set_cons_zero, List.set_cons_succ]
  obtain ⟨M1, M2, M3⟩ := made27 w11 H
  replace M1 := hideit M1
  have Z12 := hideit M2
  clear M2
  refine wpList_to rfl (.pointer (some ⟨w11.heap.size, 0, none⟩)) (w11.alloc (.cells (row 24 (hdv zH)).toArray 27)) (exec_alloc 27 _ rfl (zeroH w11)) ?_
  simp only [Act.put, List.setIfInBounds_toArray, List.set_cons_zero, List.set_cons_succ]
  refine wpList_store_mid rfl 27 (.tmp 16) (.tmp 93) rfl w11.heap.size 0 (row 24 (hdv H)).toArray rfl rfl (by rw [row_size]; exact M1.out.there) (by rw [row_size]; exact infoH) (row_one fun j _ => hdv_one _ j) ?_
  rw [show (row 24 (hdv H)).toArray.toList = row 24 (hdv H) from rfl]
  have P12 := hideit (P11.out.carry M3)
  have A12 := hideit (A11.out.carry M3)
  have C12 := hideit (C11.out.ext M3)
  have S12 := hideit (S11.out.ext M3)
  have hE12 := hideit (Ext.trans hE11.out M3)
  clear hE11 M3 P11 A11 C11 S11
  generalize (w11.alloc (.cells (row 24 (hdv zH)).toArray 27)).setCells w11.heap.size 0 (row 24 (hdv H)) = w12 at *
  generalize w11.heap.size = z at *
  clear M1
  simp only [Act.put]
  clear Z12
  go_upto_region 14 with (fail)
  by_cases hE : E = 0
  · clear hd P12 A12 C12 S12
    go_wp2
    go_ret
    exact ⟨rfl, hE12.out⟩
  · obtain ⟨rfl, rfl⟩ : E = 110 ∧ H = zH := hd.out.resolve_left fun hh => hE hh.1
    clear hd hE
    go_upto_region 16 with (fail)
    refine wp_region_lit ?_
    refine wpList_run rfl (v1) (by simp [go_sem]) ?_
    simp only [Act.put, List.setIfInBounds_toArray, List.set_cons_zero, List.set_cons_succ]
    refine wpList_run rfl (.slice (some ⟨ga, 0, none⟩) 512 512) (by simp [go_sem]) ?_
    simp only [Act.put, List.setIfInBounds_toArray, List.set_cons_zero, List.set_cons_succ]
    refine wpList_call rfl (by simp [go_sem]; exact ⟨rfl, rfl⟩) ?_
    refine (cho_core v1 (.slice (some ⟨ga, 0, none⟩) 512 512) zH h 110 0 w12 (fun X hX => k1.out X (Ext.trans hE12.out hX)) (fun X hX => dec_back (.slice (some ⟨ga, 0, none⟩) 512 512) h X ((A12.out.carry hX).bv 512 (Nat.le_refl _)) (C12.out.ext hX) hk.out) h 1 0 (hideit fun hh => absurd rfl hh.2) (hideit fun _ _ => ⟨rfl, rfl, rfl⟩) (hideit fun _ hh => absurd hk.out.1.1 hh)).mono ?_
    rintro e w13 ⟨rfl, hX⟩
    refine ⟨_, rfl, ?_⟩
    simp only [Act.put, List.setIfInBounds_toArray, List.set_cons_zero, List.set_cons_succ]
    have P13 := hideit (P12.out.carry hX)
    have A13 := hideit (A12.out.carry hX)
    have C13 := hideit (C12.out.ext hX)
    have S13 := hideit (S12.out.ext hX)
    have hE13 := hideit (Ext.trans hE12.out hX)
    clear hE12 hX P12 A12 C12 S12
    refine wpList_run rfl (.tuple #[.agg (row 24 (hdv h)).toArray, .int .i64 1, .int .i64 0]) (by simp [go_sem]) ?_
    simp only [Act.put, List.setIfInBounds_toArray, List.set_cons_zero, List.set_cons_succ]
    refine wpList_run rfl (.agg (row 24 (hdv h)).toArray) (by simp [go_sem]) ?_
    simp only [Act.put, List.setIfInBounds_toArray, List.set_cons_zero, List.set_cons_succ]
    refine wpList_run rfl (.int .i64 1) (by simp [go_sem]) ?_
    simp only [Act.put, List.setIfInBounds_toArray, List.set_cons_zero, List.set_cons_succ]
    refine wpList_run rfl (.int .i64 0) (by simp [go_sem]) ?_
    simp only [Act.put, List.setIfInBounds_toArray, List.set_cons_zero, List.set_cons_succ]
    obtain ⟨M1, M2, M3⟩ := made27 w13 h
    replace M1 := hideit M1
    have X14 := hideit M2
    clear M2
    refine wpList_to rfl (.pointer (some ⟨w13.heap.size, 0, none⟩)) (w13.alloc (.cells (row 24 (hdv zH)).toArray 27)) (exec_alloc 27 _ rfl (zeroH w13)) ?_
    simp only [Act.put, List.setIfInBounds_toArray, List.set_cons_zero, List.set_cons_succ]
    refine wpList_store_mid rfl 27 (.tmp 18) (.tmp 101) rfl w13.heap.size 0 (row 24 (hdv h)).toArray rfl rfl (by rw [row_size]; exact M1.out.there) (by rw [row_size]; exact infoH) (row_one fun j _ => hdv_one _ j) ?_
    rw [show (row 24 (hdv h)).toArray.toList = row 24 (hdv h) from rfl]
    have P14 := hideit (P13.out.carry M3)
    have A14 := hideit (A13.out.carry M3)
    have C14 := hideit (C13.out.ext M3)
    have S14 := hideit (S13.out.ext M3)
    have hE14 := hideit (Ext.trans hE13.out M3)
    clear hE13 M3 P13 A13 C13 S13
    generalize (w13.alloc (.cells (row 24 (hdv zH)).toArray 27)).setCells w13.heap.size 0 (row 24 (hdv h)) = w14 at *
    generalize w13.heap.size = x2 at *
    clear M1
    simp only [Act.put]
    go_upto_region 17 with (fail)
    refine wp_region_lit ?_
    refine wpList_run rfl (.slice (some ⟨ga, 0, none⟩) 512 512) (by simp [go_sem]) ?_
    simp only [Act.put, List.setIfInBounds_toArray, List.set_cons_zero, List.set_cons_succ]
    refine wpList_run rfl (v1) (by simp [go_sem]) ?_
    simp only [Act.put, List.setIfInBounds_toArray, List.set_cons_zero, List.set_cons_succ]
    refine wpList_call rfl (by simp [go_sem]; exact ⟨rfl, rfl⟩) ?_
    refine (cho_core (.slice (some ⟨ga, 0, none⟩) 512 512) v1 h zH 0 110 w14 (fun X hX => dec_back (.slice (some ⟨ga, 0, none⟩) 512 512) h X ((A14.out.carry hX).bv 512 (Nat.le_refl _)) (C14.out.ext hX) hk.out) (fun X hX => k1.out X (Ext.trans hE14.out hX)) h 0 0 (hideit fun hh => absurd rfl hh.1) (hideit fun _ hh => absurd hh (Nat.not_lt_zero _)) (hideit fun _ _ => ⟨rfl, rfl, rfl⟩)).mono ?_
    rintro e w15 ⟨rfl, hX⟩
    refine ⟨_, rfl, ?_⟩
    simp only [Act.put, List.setIfInBounds_toArray, List.set_cons_zero, List.set_cons_succ]
    have P15 := hideit (P14.out.carry hX)
    have A15 := hideit (A14.out.carry hX)
    have X15 := hideit (X14.out.carry hX)
    have C15 := hideit (C14.out.ext hX)
    have S15 := hideit (S14.out.ext hX)
    have hE15 := hideit (Ext.trans hE14.out hX)
    clear hE14 hX P14 A14 X14 C14 S14
    refine wpList_run rfl (.tuple #[.agg (row 24 (hdv h)).toArray, .int .i64 0, .int .i64 0]) (by simp [go_sem]) ?_
    simp only [Act.put, List.setIfInBounds_toArray, List.set_cons_zero, List.set_cons_succ]
    refine wpList_run rfl (.agg (row 24 (hdv h)).toArray) (by simp [go_sem]) ?_
    simp only [Act.put, List.setIfInBounds_toArray, List.set_cons_zero, List.set_cons_succ]
    refine wpList_run rfl (.int .i64 0) (by simp [go_sem]) ?_
    simp only [Act.put, List.setIfInBounds_toArray, List.set_cons_zero, List.set_cons_succ]
    refine wpList_run rfl (.int .i64 0) (by simp [go_sem]) ?_
    simp only [Act.put, List.setIfInBounds_toArray, List.set_cons_zero, List.set_cons_succ]
    obtain ⟨M1, M2, M3⟩ := made27 w15 h
    replace M1 := hideit M1
    have Y16 := hideit M2
    clear M2
    refine wpList_to rfl (.pointer (some ⟨w15.heap.size, 0, none⟩)) (w15.alloc (.cells (row 24 (hdv zH)).toArray 27)) (exec_alloc 27 _ rfl (zeroH w15)) ?_
    simp only [Act.put, List.setIfInBounds_toArray, List.set_cons_zero, List.set_cons_succ]
    refine wpList_store_mid rfl 27 (.tmp 21) (.tmp 108) rfl w15.heap.size 0 (row 24 (hdv h)).toArray rfl rfl (by rw [row_size]; exact M1.out.there) (by rw [row_size]; exact infoH) (row_one fun j _ => hdv_one _ j) ?_
    rw [show (row 24 (hdv h)).toArray.toList = row 24 (hdv h) from rfl]
    have P16 := hideit (P15.out.carry M3)
    have A16 := hideit (A15.out.carry M3)
    have X16 := hideit (X15.out.carry M3)
    have C16 := hideit (C15.out.ext M3)
    have S16 := hideit (S15.out.ext M3)
    have hE16 := hideit (Ext.trans hE15.out M3)
    clear hE15 M3 P15 A15 X15 C15 S15
    generalize (w15.alloc (.cells (row 24 (hdv zH)).toArray 27)).setCells w15.heap.size 0 (row 24 (hdv h)) = w16 at *
    generalize w15.heap.size = y2 at *
    clear M1
    simp only [Act.put]
    go_upto_region 18 with (fail)
    refine wp_region_lit ?_
    refine wpList_run rfl (.int .i64 0) (by simp [go_sem]) ?_
    simp only [Act.put, List.setIfInBounds_toArray, List.set_cons_zero, List.set_cons_succ]
    refine wpList_run rfl (.bool true) (by simp [go_sem]) ?_
    simp only [Act.put, List.setIfInBounds_toArray, List.set_cons_zero, List.set_cons_succ]
    refine wpList_run rfl (.bool true) (by simp [go_sem]) ?_
    simp only [Act.put, List.setIfInBounds_toArray, List.set_cons_zero, List.set_cons_succ]
    refine wpList_runW rfl (.int .i64 0) (by simp [go_sem]) ?_
    simp only [Act.put, List.setIfInBounds_toArray, List.set_cons_zero, List.set_cons_succ]
    refine wpList_runW rfl (.bool true) (by simp [go_sem]) ?_
    simp only [Act.put, List.setIfInBounds_toArray, List.set_cons_zero, List.set_cons_succ]
    refine wpList_run rfl (.bool true) (by simp [go_sem]) ?_
    simp only [Act.put, List.setIfInBounds_toArray, List.set_cons_zero, List.set_cons_succ]
    refine wpList_run rfl (.bool true) (by simp [go_sem]) ?_
    simp only [Act.put, List.setIfInBounds_toArray, List.set_cons_zero, List.set_cons_succ]
    refine wpList_runW rfl (.agg (row 24 (hdv h)).toArray) (exec_loadR 27 (.tmp 18) rfl x2 0 24 _ rfl X16.out.range Tryd.underlying27 rfl infoH) ?_
    simp only [Act.put, List.setIfInBounds_toArray, List.set_cons_zero, List.set_cons_succ]
    refine wpList_runW rfl (.agg (row 24 (hdv h)).toArray) (exec_loadR 27 (.tmp 2) rfl c 0 24 _ rfl P16.out.range Tryd.underlying27 rfl infoH) ?_
    simp only [Act.put, List.setIfInBounds_toArray, List.set_cons_zero, List.set_cons_succ]
    refine wpList_runW rfl (.bool true) (exec_cmp .eql 27 27 (.tmp 118) (.tmp 119) rfl _ _ rfl rfl (by kernel_rfl) true (eqlH h _)) ?_
    simp only [Act.put, List.setIfInBounds_toArray, List.set_cons_zero, List.set_cons_succ]
    refine wpList_run rfl (.bool true) (by simp [go_sem]) ?_
    simp only [Act.put, List.setIfInBounds_toArray, List.set_cons_zero, List.set_cons_succ]
    refine wpList_run rfl (.bool true) (by simp [go_sem]) ?_
    simp only [Act.put, List.setIfInBounds_toArray, List.set_cons_zero, List.set_cons_succ]
    refine wpList_runW rfl (.int .i64 1) (by simp [go_sem]) ?_
    simp only [Act.put, List.setIfInBounds_toArray, List.set_cons_zero, List.set_cons_succ]
    refine wpList_runW rfl (.bool true) (by simp [go_sem]) ?_
    simp only [Act.put, List.setIfInBounds_toArray, List.set_cons_zero, List.set_cons_succ]
    refine wpList_run rfl (.bool true) (by simp [go_sem]) ?_
    simp only [Act.put, List.setIfInBounds_toArray, List.set_cons_zero, List.set_cons_succ]
    refine wpList_run rfl (.bool true) (by simp [go_sem]) ?_
    simp only [Act.put, List.setIfInBounds_toArray, List.set_cons_zero, List.set_cons_succ]
    refine wpList_runW rfl (.agg (row 24 (hdv h)).toArray) (exec_loadR 27 (.tmp 21) rfl y2 0 24 _ rfl Y16.out.range Tryd.underlying27 rfl infoH) ?_
    simp only [Act.put, List.setIfInBounds_toArray, List.set_cons_zero, List.set_cons_succ]
    refine wpList_runW rfl (.agg (row 24 (hdv h)).toArray) (exec_loadR 27 (.tmp 2) rfl c 0 24 _ rfl P16.out.range Tryd.underlying27 rfl infoH) ?_
    simp only [Act.put, List.setIfInBounds_toArray, List.set_cons_zero, List.set_cons_succ]
    refine wpList_runW rfl (.bool true) (exec_cmp .eql 27 27 (.tmp 127) (.tmp 128) rfl _ _ rfl rfl (by kernel_rfl) true (eqlH h _)) ?_
    simp only [Act.put, List.setIfInBounds_toArray, List.set_cons_zero, List.set_cons_succ]
    refine wpList_run rfl (.bool true) (by simp [go_sem]) ?_
    simp only [Act.put, List.setIfInBounds_toArray, List.set_cons_zero, List.set_cons_succ]
    refine wpList_run rfl (.bool true) (by simp [go_sem]) ?_
    simp only [Act.put, List.setIfInBounds_toArray, List.set_cons_zero, List.set_cons_succ]
    refine wpList_runW rfl (.int .i64 0) (by simp [go_sem]) ?_
    simp only [Act.put, List.setIfInBounds_toArray, List.set_cons_zero, List.set_cons_succ]
    refine wpList_runW rfl (.bool true) (by simp [go_sem]) ?_
    simp only [Act.put, List.setIfInBounds_toArray, List.set_cons_zero, List.set_cons_succ]
    refine wpList_run rfl (.bool true) (by simp [go_sem]) ?_
    simp only [Act.put, List.setIfInBounds_toArray, List.set_cons_zero, List.set_cons_succ]
    clear X16 Y16 P16 A16 C16 S16
    go_wp2
    go_ret
    exact ⟨rfl, hE16.out⟩
theorem walk (h : Hd) (v1 : Value) (w : World) (B1 : BArg v1 w) (hC : TabC w) : Calls Tryd.prog 7 #[.agg (row 24 (hdv h)).toArray, v1] w fun e w' => e = .returned (.bool true) ∧ Below w.heap.size w w' := by
  obtain ⟨l, bb, hS⟩ := barg_bv B1
  by_cases hk : okH h
  · by_cases hm : h.g.toNat = 18446744073709551615
    · exact walk_max h v1 l bb w hC hS hk hm
    · obtain ⟨H, E, hd, _, _, k1, r1⟩ := dec_both v1 l bb w hS hC
      have hg : (h.g + 1#64).toNat = h.g.toNat + 1 := by
        have := h.g.isLt
        rw [BitVec.toNat_add]
        show (h.g.toNat + 1) % 2 ^ 64 = _
        omega
      exact walk_ok h { h with g := h.g + 1#64 } v1 l bb w hC hS hk ⟨⟨by show 1 ≤ (h.g + 1#64).toNat; omega, hk.1.2⟩, hk.2⟩ hg (fun j hj => by unfold hdv; rw [if_neg hj, if_neg hj]) hm H E hd k1 r1
  · exact walk_no h v1 l bb w hC hS hk

theorem contract (H : Type) (enc : TypeId × Value → H) (W : World) (base : Nat) (args : Array Value) (ds gs : List (DataW H)) (before : List MemPlace)
    (hval0 : ∀ (j : Nat) t v, Tryd.f7.params[j]? = some t → args[j]? = some v → Value.okWide Tryd.prog W .any base t v)
    (hW : DataW.Whole enc Tryd.prog Tryd.f7.params.toList Rows.headNewerSpec.vars false W args.toList ds gs before) (hL : laidMetH Tryd.prog Rows.headNewerRow.laid W) (hsz0 : (DataW.weightsEach Tryd.prog (Tryd.f7.params.toList ++ []) (ds ++ gs)).all (· ≤ reachBytes) = true) :
    Calls Tryd.prog 7 args W fun e W' => ∃ v, e = .returned v ∧ Rows.headNewerSpec.post enc Tryd.prog Tryd.f7 false true false false W args v W' := by
  have hval := hval0
  have hsz := hsz0
  have hW' := hW
  obtain ⟨p, q, hA0, hV, rfl, hfz, hnd⟩ := hW
  have hA : DataW.TrodAll enc Tryd.prog W 0 (fun _ => true) true Tryd.f7.params.toList args.toList ds p := hA0
  rw [Tryd.params7] at hA hval hsz
  obtain ⟨v0, vs0, d0, ds0, p0, q0, hargs, rfl, rfl, h0, r0⟩ := trodAll_cons hA
  obtain ⟨v1, vs1, d1, ds1, p1, q1, rfl, rfl, rfl, h1, r1⟩ := trodAll_cons r0
  obtain ⟨rfl, rfl, rfl⟩ := trodAll_nil r1
  obtain rfl : args = #[v0, v1] := by cases args; simp_all
  obtain ⟨rfl, rfl⟩ := trodVars_none hV
  have h0s : 0 < W.heap.size := by
    have hc := (table hL).cell gTab 0 (by decide)
    rcases Nat.lt_or_ge 0 W.heap.size with h | h
    · exact h
    · exfalso
      have : W.heap[0]? = none := Array.getElem?_eq_none h
      simp [World.cell?, this] at hc
  have hC : TabC W := tabC hL h0s
  have k0 := h0
  have lt0 : ∀ x ∈ p0, x.block < W.heap.size := by obtain ⟨m, hm⟩ := k0; exact DataW.trod_lt m _ _ _ hm
  have k1 := h1
  have lt1 : ∀ x ∈ p1, x.block < W.heap.size := by obtain ⟨m, hm⟩ := k1; exact DataW.trod_lt m _ _ _ hm
  have B1 := barg (hval 1 28 v1 rfl rfl) h1 hsz 1 rfl rfl
  obtain ⟨k0h, rfl⟩ := open_head (hval 0 27 v0 rfl rfl) h0
  clear hA0 hval0
  refine (walk k0h v1 W B1 hC).mono fun e W' ⟨he, bel⟩ => ?_
  subst he
  exact ⟨_, rfl, _, _, _, [], _, [], hW', trodAll_mk1 (shut_bool Tryd.underlying4 _), (trodAll_cons_mk (Below.trod laidOut (by kernel_rfl) (of_decide_eq_true (by kernel_rfl)) k0 bel lt0) (trodAll_cons_mk (Below.trod laidOut (by kernel_rfl) (of_decide_eq_true (by kernel_rfl)) k1 bel lt1) trodAll_mk0)), rfl, bel.frame _, fun h => by cases h⟩

def wit : Array Value := #[.agg #[.int .u64 0, .int .i64 0, .int .i64 0, .int .i64 0, .int .i64 0, .int .i64 0, .int .i64 0, .int .i64 0, .int .u8 0, .int .u8 0, .int .u8 0, .int .u8 0, .int .u8 0, .int .u8 0, .int .u8 0, .int .u8 0, .int .u8 0, .int .u8 0, .int .u8 0, .int .u8 0, .int .u8 0, .int .u8 0, .int .u8 0, .int .u8 0], .slice none 0 0]
def dat {H : Type} : List (DataW H) := [.agg [.lit (.int .u64 0), .lit (.int .i64 0), .lit (.int .i64 0), .lit (.int .i64 0), .lit (.int .i64 0), .agg [.lit (.int .i64 0), .lit (.int .i64 0), .lit (.int .i64 0)], .agg (List.replicate 16 (.lit (.int .u8 0)))], .nil]
def setTab : Obj → Obj
  | .cells _ t frozen => .cells (tabL.map fun z => Value.int .u32 z).toArray t frozen
  | o => o
theorem laid_met (os : Os) : laidMet Tryd.prog Rows.headNewerRow.laid (({ World.holding Tryd.prog os ⟨#[], #[], []⟩ with heap := (World.holding Tryd.prog os ⟨#[], #[], []⟩).heap.modify 0 setTab } : World).forCall (fun _ _ => 0) ⟨#[], wit, []⟩).memory :=
  laidMet_of_run' 8 (by kernel_rfl) (by kernel_rfl)
theorem reads (os : Os) {H : Type} (enc : TypeId × Value → H) : ∃ places, DataW.whole enc Tryd.prog (({ World.holding Tryd.prog os ⟨#[], #[], []⟩ with heap := (World.holding Tryd.prog os ⟨#[], #[], []⟩).heap.modify 0 setTab } : World).forCall (fun _ _ => 0) ⟨#[], wit, []⟩).memory Tryd.f7.params.toList Rows.headNewerSpec.vars false wit.toList 8 = some (dat, [], places) :=
  ⟨[], by kernel_rfl⟩

set_option maxRecDepth 100000 in
theorem lifted (os : Os) (started : os.Started) (H : Type) (enc : TypeId × Value → H) (F : Stop.Interp) :
    ReturnsInHanded {} Tryd.checked os 7 .any ((OpenSpec.ofChange Rows.headNewerSpec).preRow enc Tryd.prog Tryd.f7 Rows.headNewerRow.domain false Rows.headNewerRow.laid) (((OpenSpec.ofChange Rows.headNewerSpec).at F).post enc Tryd.prog Tryd.f7 false true false false) := by
  obtain ⟨places, hx⟩ := reads os enc
  refine returnsInHanded_of_row (C := Tryd.checked) (s := (OpenSpec.ofChange Rows.headNewerSpec)) own started (by kernel_rfl) Tryd.func7
    (witness_row_at (enc := enc) (C := Tryd.checked) false ({ World.holding Tryd.prog os ⟨#[], #[], []⟩ with heap := (World.holding Tryd.prog os ⟨#[], #[], []⟩).heap.modify 0 setTab } : World) wit rfl (by kernel_rfl) (by kernel_rfl) (by kernel_rfl)
      (OpenSpec.preRow_of_cond 8 hx (by kernel_rfl) (fun k hk => by cases hk) (by kernel_rfl) (laid_met os))) ?_
  intro W base args ds gs before hval hW _ hcond hsz hL _ _
  exact contract H enc W base args ds gs before hval hW hL hsz

theorem said : Rows.HeadNewerSaid :=
  OpenClaim.holds_of_cond 7 Tryd.f7 rfl rfl rfl rfl rfl rfl rfl ⟨rfl, rfl, rfl, rfl, rfl⟩ rfl rfl rfl rfl rfl (by kernel_rfl) Tryd.func7 (by kernel_rfl)
    (of_decide_eq_true (by kernel_rfl)) (by unfold Func.isWrapper; first | (rw [if_pos (by decide +kernel)]; kernel_rfl) | (rw [if_neg (by decide +kernel)]; exact ⟨rfl, rfl⟩))
    (fun os started H enc _ F => by rw [OpenClaim.pre_eq_preRow]; exact lifted os started H enc F)

theorem plain (f : FuncId) (fn : Func) (hf : Tryd.pinned.checked.prog.funcNamed "casket/casketlaw11.HeadNewer" = some f) (hfn : Tryd.pinned.checked.prog.funcs[f]? = some fn) :
    false = Tryd.pinned.checked.prog.looks [] ∧ ∀ (j : Nat) t, fn.params[j]? = some t → Tryd.pinned.checked.prog.wantsStandIn t = false := by
  obtain rfl : f = 7 := Option.some.inj ((show Tryd.prog.funcNamed "casket/casketlaw11.HeadNewer" = some 7 by kernel_rfl).symm.trans hf) |>.symm
  obtain rfl : fn = Tryd.f7 := (Option.some.inj (Tryd.func7.symm.trans hfn)).symm
  refine ⟨by kernel_rfl, fun j t ht => ?_⟩
  rw [Tryd.params7] at ht
  have hm : t ∈ [27, 28] := by simpa using Array.mem_of_getElem? ht
  have hall : ([27, 28].all fun u => !Tryd.prog.wantsStandIn u) = true := by kernel_rfl
  exact (show Tryd.prog.wantsStandIn t = false by simpa using List.all_eq_true.1 hall t hm)

theorem card : Rows.HeadNewerCardSaid :=
  Claim7.holds_tied_plain_at .later [] _ _ _ _ said (fun _ h => by cases h) (by kernel_rfl) (fun _ h => by cases h) headNewer_row_tie rfl ⟨rfl, rfl⟩ (by kernel_rfl) rfl plain (by kernel_rfl)
end Go.Proofs.YtenlokmoijeehaaDoor.headNewer
namespace Go.Proofs.YtenlokmoijeehaaDoor
theorem headNewer_holds : Rows.HeadNewerCardSaid := headNewer.card
end Go.Proofs.YtenlokmoijeehaaDoor
