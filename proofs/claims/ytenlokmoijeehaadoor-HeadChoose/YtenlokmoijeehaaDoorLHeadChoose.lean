/-
  For every two slices of bytes, nil or not, the law HeadChoose returns true, and its arguments read behind the call as they read before; the package-level table of constants is laid as the program text lays it. No other condition.
-/
import Derived.Test.YtenlokmoijeehaaDoorCards
import Derived.Test.YtenlokmoijeehaaDoorTie
import Derived.WalkKit
import Derived.ProofKit
import Derived.OpenShut
import Derived.ShutString
import Derived.ChangeOld
import Derived.Below
import Derived.Deep.DeepHandedRow
import Derived.Lib.LaidTab
import Derived.Test.YtenlokmoijeehaaDoorGw
import Derived.Test.YtenlokmoijeehaaDoorGu
namespace Go.Proofs.YtenlokmoijeehaaDoor.headChoose
open Go.ChangeShapes Go.WideShapes Go.ChangeAt Go.RowKit
set_option linter.unusedVariables false

theorem own : ownKnob Tryd.prog.godebug = none := by kernel_rfl
theorem laidOut : laidOutB Tryd.prog = true := by kernel_rfl
theorem gTab : Tryd.prog.globalNamed "casket/sha.constants" = some 0 := by kernel_rfl
theorem gTabType : (Tryd.prog.globals[0]?).map (·.type) = some 95 := by kernel_rfl
theorem cellsG : Tryd.prog.cellsOf 95 = 64 := by kernel_rfl
theorem cellsE : Tryd.prog.cellsOf 79 = 1 := by kernel_rfl
def tabL : List Int := [1116352408, 1899447441, 3049323471, 3921009573, 961987163, 1508970993, 2453635748, 2870763221, 3624381080, 310598401, 607225278, 1426881987, 1925078388, 2162078206, 2614888103, 3248222580, 3835390401, 4022224774, 264347078, 604807628, 770255983, 1249150122, 1555081692, 1996064986, 2554220882, 2821834349, 2952996808, 3210313671, 3336571891, 3584528711, 113926993, 338241895, 666307205, 773529912, 1294757372, 1396182291, 1695183700, 1986661051, 2177026350, 2456956037, 2730485921, 2820302411, 3259730800, 3345764771, 3516065817, 3600352804, 4094571909, 275423344, 430227734, 506948616, 659060556, 883997877, 958139571, 1322822218, 1537002063, 1747873779, 1955562222, 2024104815, 2227730452, 2361852424, 2428436474, 2756734187, 3204031479, 3329325298]
theorem table {W : World} (h : laidMetH Tryd.prog Rows.headChooseRow.laid W) : Lib.TabIs Tryd.prog W "casket/sha.constants" .u32 tabL :=
  Lib.tabIs_of_head (rest := []) gTab gTabType Tryd.underlying95 Tryd.underlying79 cellsE cellsG h
theorem tab_kT : ∀ j, j < 64 → tabL.getD j 0 = ((kT j).toNat : Int) := by decide +kernel
theorem tabC {W : World} (h : laidMetH Tryd.prog Rows.headChooseRow.laid W) (h0 : 0 < W.heap.size) : TabC W :=
  ⟨fun j hj => by
    rw [← tab_kT j hj]
    exact (table h).cell gTab j hj, h0⟩

open Go.BigFrame
theorem barg_bv {v : Value} {W : World} (h : BArg v W) : ∃ l b, BV v l b W := by
  rcases h with rfl | ⟨a, l, cap, b, rfl, h1, h2, _⟩
  · exact ⟨0, fun _ => 0#8, .inl ⟨rfl, rfl⟩⟩
  · exact ⟨l, b, .inr ⟨a, cap, rfl, h1, h2⟩⟩
set_option maxRecDepth 20000 in
set_option maxHeartbeats 2000000 in
theorem walk_core (v0 v1 : Value) (H1 H2 R : Hd) (E1 E2 n e : Int) (w : World) (hC : Hid (TabC w)) (d1 : Hid ((E1 = 0 ∧ 1 ≤ H1.g.toNat) ∨ (E1 = 110 ∧ H1 = zH)))
    (k1 : Hid (∀ X, Ext w X → Calls Tryd.prog 16 #[v0] X fun e w' => e = .returned (.tuple #[.agg (row 24 (hdv H1)).toArray, .int .i64 E1]) ∧ Ext X w'))
    (k2 : Hid (∀ X, Ext w X → Calls Tryd.prog 16 #[v1] X fun e w' => e = .returned (.tuple #[.agg (row 24 (hdv H2)).toArray, .int .i64 E2]) ∧ Ext X w'))
    (r1 : Hid (∀ X, Ext w X → Calls Tryd.prog 17 #[v0] X fun e w' => e = .returned (.tuple #[.agg (row 24 (hdv H1)).toArray, .int .i64 E1]) ∧ Ext X w'))
    (r2 : Hid (∀ X, Ext w X → Calls Tryd.prog 17 #[v1] X fun e w' => e = .returned (.tuple #[.agg (row 24 (hdv H2)).toArray, .int .i64 E2]) ∧ Ext X w'))
    (rA : Hid (E1 ≠ 0 ∧ E2 ≠ 0 → R = zH ∧ n = 0 ∧ e = 110)) (rB : Hid (¬ (E1 ≠ 0 ∧ E2 ≠ 0) → H1.g.toNat < H2.g.toNat → R = H2 ∧ n = 1 ∧ e = 0)) (rC : Hid (¬ (E1 ≠ 0 ∧ E2 ≠ 0) → ¬ H1.g.toNat < H2.g.toNat → R = H1 ∧ n = 0 ∧ e = 0))
    (sA : Hid (E2 ≠ 0 → R = H1 ∧ n = 0 ∧ e = E1)) (sB : Hid (E2 = 0 → E1 ≠ 0 ∨ H1.g.toNat < H2.g.toNat → R = H2 ∧ n = 1 ∧ e = 0)) (sC : Hid (E2 = 0 → E1 = 0 → ¬ H1.g.toNat < H2.g.toNat → R = H1 ∧ n = 0 ∧ e = E1)) :
    Calls Tryd.prog 5 #[v0, v1] w fun e w' => e = .returned (.bool true) ∧ Below w.heap.size w w' := by
  go_enter Tryd.func5, Tryd.ntmps5
  have hE0 := hideit (Ext.refl w)
  go_upto_region 1 with (fail)
  refine wp_region_lit ?_
  refine wpList_run rfl (v0) (by simp [go_sem]) ?_
  simp only [Act.put, List.setIfInBounds_toArray, List.set_cons_zero, List.set_cons_succ]
  refine wpList_run rfl (v1) (by simp [go_sem]) ?_
  simp only [Act.put, List.setIfInBounds_toArray, List.set_cons_zero, List.set_cons_succ]
  refine wpList_call rfl (by simp [go_sem]; exact ⟨rfl, rfl⟩) ?_
  refine (cho_core v0 v1 H1 H2 E1 E2 w k1.out k2.out R n e rA rB rC).mono ?_
  rintro e w1 ⟨rfl, hX⟩
  refine ⟨_, rfl, ?_⟩
  simp only [Act.put, List.setIfInBounds_toArray, List.set_cons_zero, List.set_cons_succ]
  have hE1 := hideit (Ext.trans hE0.out hX)
  clear hE0 hX
  refine wpList_run rfl (.tuple #[.agg (row 24 (hdv R)).toArray, .int .i64 n, .int .i64 e]) (by simp [go_sem]) ?_
  simp only [Act.put, List.setIfInBounds_toArray, List.set_cons_zero, List.set_cons_succ]
  refine wpList_run rfl (.agg (row 24 (hdv R)).toArray) (by simp [go_sem]) ?_
  simp only [Act.put, List.setIfInBounds_toArray, List.set_cons_zero, List.set_cons_succ]
  refine wpList_run rfl (.int .i64 n) (by simp [go_sem]) ?_
  simp only [Act.put, List.setIfInBounds_toArray, List.set_cons_zero, List.set_cons_succ]
  refine wpList_run rfl (.int .i64 e) (by simp [go_sem]) ?_
  simp only [Act.put, List.setIfInBounds_toArray, List.set_cons_zero, List.set_cons_succ]
  obtain ⟨M1, M2, M3⟩ := made27 w1 R
  replace M1 := hideit M1
  have X2 := hideit M2
  clear M2
  refine wpList_to rfl (.pointer (some ⟨w1.heap.size, 0, none⟩)) (w1.alloc (.cells (row 24 (hdv zH)).toArray 27)) (exec_alloc 27 _ rfl (zeroH w1)) ?_
  simp only [Act.put, List.setIfInBounds_toArray, List.set_cons_zero, List.set_cons_succ]
  refine wpList_store_mid rfl 27 (.tmp 5) (.tmp 20) rfl w1.heap.size 0 (row 24 (hdv R)).toArray rfl rfl (by rw [row_size]; exact M1.out.there) (by rw [row_size]; exact infoH) (row_one fun j _ => hdv_one _ j) ?_
  rw [show (row 24 (hdv R)).toArray.toList = row 24 (hdv R) from rfl]
  have hE2 := hideit (Ext.trans hE1.out M3)
  clear hE1 M3
  generalize (w1.alloc (.cells (row 24 (hdv zH)).toArray 27)).setCells w1.heap.size 0 (row 24 (hdv R)) = w2 at *
  generalize w1.heap.size = x at *
  clear M1
  simp only [Act.put]
  go_upto_region 2 with (fail)
  refine wp_region_lit ?_
  refine wpList_run rfl (v0) (by simp [go_sem]) ?_
  simp only [Act.put, List.setIfInBounds_toArray, List.set_cons_zero, List.set_cons_succ]
  refine wpList_run rfl (v1) (by simp [go_sem]) ?_
  simp only [Act.put, List.setIfInBounds_toArray, List.set_cons_zero, List.set_cons_succ]
  refine wpList_call rfl (by simp [go_sem]; exact ⟨rfl, rfl⟩) ?_
  refine (rcho_core v0 v1 H1 H2 E1 E2 w2 (fun X hX => r1.out X (Ext.trans hE2.out hX)) (fun X hX => r2.out X (Ext.trans hE2.out hX)) R n e sA sB sC).mono ?_
  rintro e w3 ⟨rfl, hX⟩
  refine ⟨_, rfl, ?_⟩
  simp only [Act.put, List.setIfInBounds_toArray, List.set_cons_zero, List.set_cons_succ]
  have X3 := hideit (X2.out.carry hX)
  have hE3 := hideit (Ext.trans hE2.out hX)
  clear hE2 hX X2
  refine wpList_run rfl (.tuple #[.agg (row 24 (hdv R)).toArray, .int .i64 n, .int .i64 e]) (by simp [go_sem]) ?_
  simp only [Act.put, List.setIfInBounds_toArray, List.set_cons_zero, List.set_cons_succ]
  refine wpList_run rfl (.agg (row 24 (hdv R)).toArray) (by simp [go_sem]) ?_
  simp only [Act.put, List.setIfInBounds_toArray, List.set_cons_zero, List.set_cons_succ]
  refine wpList_run rfl (.int .i64 n) (by simp [go_sem]) ?_
  simp only [Act.put, List.setIfInBounds_toArray, List.set_cons_zero, List.set_cons_succ]
  refine wpList_run rfl (.int .i64 e) (by simp [go_sem]) ?_
  simp only [Act.put, List.setIfInBounds_toArray, List.set_cons_zero, List.set_cons_succ]
  obtain ⟨M1, M2, M3⟩ := made27 w3 R
  replace M1 := hideit M1
  have Y4 := hideit M2
  clear M2
  refine wpList_to rfl (.pointer (some ⟨w3.heap.size, 0, none⟩)) (w3.alloc (.cells (row 24 (hdv zH)).toArray 27)) (exec_alloc 27 _ rfl (zeroH w3)) ?_
  simp only [Act.put, List.setIfInBounds_toArray, List.set_cons_zero, List.set_cons_succ]
  refine wpList_store_mid rfl 27 (.tmp 8) (.tmp 27) rfl w3.heap.size 0 (row 24 (hdv R)).toArray rfl rfl (by rw [row_size]; exact M1.out.there) (by rw [row_size]; exact infoH) (row_one fun j _ => hdv_one _ j) ?_
  rw [show (row 24 (hdv R)).toArray.toList = row 24 (hdv R) from rfl]
  have X4 := hideit (X3.out.carry M3)
  have hE4 := hideit (Ext.trans hE3.out M3)
  clear hE3 M3 X3
  generalize (w3.alloc (.cells (row 24 (hdv zH)).toArray 27)).setCells w3.heap.size 0 (row 24 (hdv R)) = w4 at *
  generalize w3.heap.size = y at *
  clear M1
  simp only [Act.put]
  go_upto_region 3 with (fail)
  refine wp_region_lit ?_
  refine wpList_run rfl (v0) (by simp [go_sem]) ?_
  simp only [Act.put, List.setIfInBounds_toArray, List.set_cons_zero, List.set_cons_succ]
  refine wpList_run rfl (v0) (by simp [go_sem]) ?_
  simp only [Act.put, List.setIfInBounds_toArray, List.set_cons_zero, List.set_cons_succ]
  refine wpList_call rfl (by simp [go_sem]; exact ⟨rfl, rfl⟩) ?_
  refine (cho_core v0 v0 H1 H1 E1 E1 w4 (fun X hX => k1.out X (Ext.trans hE4.out hX)) (fun X hX => k1.out X (Ext.trans hE4.out hX)) H1 0 E1 (hideit fun hh => (d1.out.resolve_left fun h => hh.1 h.1).symm.imp id (fun h => ⟨rfl, h⟩)) (hideit fun _ h => absurd h (Nat.lt_irrefl _)) (hideit fun hh _ => ⟨rfl, rfl, d1.out.elim (fun h => h.1) (fun h => absurd ⟨by rw [h.1]; decide, by rw [h.1]; decide⟩ hh)⟩)).mono ?_
  rintro e w5 ⟨rfl, hX⟩
  refine ⟨_, rfl, ?_⟩
  simp only [Act.put, List.setIfInBounds_toArray, List.set_cons_zero, List.set_cons_succ]
  have X5 := hideit (X4.out.carry hX)
  have Y5 := hideit (Y4.out.carry hX)
  have hE5 := hideit (Ext.trans hE4.out hX)
  clear hE4 hX X4 Y4
  refine wpList_run rfl (.tuple #[.agg (row 24 (hdv H1)).toArray, .int .i64 0, .int .i64 E1]) (by simp [go_sem]) ?_
  simp only [Act.put, List.setIfInBounds_toArray, List.set_cons_zero, List.set_cons_succ]
  refine wpList_run rfl (.agg (row 24 (hdv H1)).toArray) (by simp [go_sem]) ?_
  simp only [Act.put, List.setIfInBounds_toArray, List.set_cons_zero, List.set_cons_succ]
  refine wpList_run rfl (.int .i64 0) (by simp [go_sem]) ?_
  simp only [Act.put, List.setIfInBounds_toArray, List.set_cons_zero, List.set_cons_succ]
  refine wpList_run rfl (.int .i64 E1) (by simp [go_sem]) ?_
  simp only [Act.put, List.setIfInBounds_toArray, List.set_cons_zero, List.set_cons_succ]
  obtain ⟨M1, M2, M3⟩ := made27 w5 H1
  replace M1 := hideit M1
  have Z6 := hideit M2
  clear M2
  refine wpList_to rfl (.pointer (some ⟨w5.heap.size, 0, none⟩)) (w5.alloc (.cells (row 24 (hdv zH)).toArray 27)) (exec_alloc 27 _ rfl (zeroH w5)) ?_
  simp only [Act.put, List.setIfInBounds_toArray, List.set_cons_zero, List.set_cons_succ]
  refine wpList_store_mid rfl 27 (.tmp 11) (.tmp 34) rfl w5.heap.size 0 (row 24 (hdv H1)).toArray rfl rfl (by rw [row_size]; exact M1.out.there) (by rw [row_size]; exact infoH) (row_one fun j _ => hdv_one _ j) ?_
  rw [show (row 24 (hdv H1)).toArray.toList = row 24 (hdv H1) from rfl]
  have X6 := hideit (X5.out.carry M3)
  have Y6 := hideit (Y5.out.carry M3)
  have hE6 := hideit (Ext.trans hE5.out M3)
  clear hE5 M3 X5 Y5
  generalize (w5.alloc (.cells (row 24 (hdv zH)).toArray 27)).setCells w5.heap.size 0 (row 24 (hdv H1)) = w6 at *
  generalize w5.heap.size = z at *
  clear M1
  simp only [Act.put]
  go_upto_region 4 with (fail)
  refine wp_region_lit ?_
  refine wpList_run rfl (v0) (by simp [go_sem]) ?_
  simp only [Act.put, List.setIfInBounds_toArray, List.set_cons_zero, List.set_cons_succ]
  refine wpList_call rfl (by simp [go_sem]; exact ⟨rfl, rfl⟩) ?_
  refine (r1.out w6 hE6.out).mono ?_
  rintro e w7 ⟨rfl, hX⟩
  refine ⟨_, rfl, ?_⟩
  simp only [Act.put, List.setIfInBounds_toArray, List.set_cons_zero, List.set_cons_succ]
  have X7 := hideit (X6.out.carry hX)
  have Y7 := hideit (Y6.out.carry hX)
  have Z7 := hideit (Z6.out.carry hX)
  have hE7 := hideit (Ext.trans hE6.out hX)
  clear hE6 hX X6 Y6 Z6
  refine wpList_run rfl (.tuple #[.agg (row 24 (hdv H1)).toArray, .int .i64 E1]) (by simp [go_sem]) ?_
  simp only [Act.put, List.setIfInBounds_toArray, List.set_cons_zero, List.set_cons_succ]
  refine wpList_run rfl (.agg (row 24 (hdv H1)).toArray) (by simp [go_sem]) ?_
  simp only [Act.put, List.setIfInBounds_toArray, List.set_cons_zero, List.set_cons_succ]
  refine wpList_run rfl (.int .i64 E1) (by simp [go_sem]) ?_
  simp only [Act.put, List.setIfInBounds_toArray, List.set_cons_zero, List.set_cons_succ]
  obtain ⟨M1, M2, M3⟩ := made27 w7 H1
  replace M1 := hideit M1
  have V8 := hideit M2
  clear M2
  refine wpList_to rfl (.pointer (some ⟨w7.heap.size, 0, none⟩)) (w7.alloc (.cells (row 24 (hdv zH)).toArray 27)) (exec_alloc 27 _ rfl (zeroH w7)) ?_
  simp only [Act.put, List.setIfInBounds_toArray, List.set_cons_zero, List.set_cons_succ]
  refine wpList_store_mid rfl 27 (.tmp 14) (.tmp 40) rfl w7.heap.size 0 (row 24 (hdv H1)).toArray rfl rfl (by rw [row_size]; exact M1.out.there) (by rw [row_size]; exact infoH) (row_one fun j _ => hdv_one _ j) ?_
  rw [show (row 24 (hdv H1)).toArray.toList = row 24 (hdv H1) from rfl]
  have X8 := hideit (X7.out.carry M3)
  have Y8 := hideit (Y7.out.carry M3)
  have Z8 := hideit (Z7.out.carry M3)
  have hE8 := hideit (Ext.trans hE7.out M3)
  clear hE7 M3 X7 Y7 Z7
  generalize (w7.alloc (.cells (row 24 (hdv zH)).toArray 27)).setCells w7.heap.size 0 (row 24 (hdv H1)) = w8 at *
  generalize w7.heap.size = v at *
  clear M1
  simp only [Act.put]
  go_upto_region 5 with (fail)
  refine wp_region_lit ?_
  refine wpList_call rfl (by simp [go_sem]; exact ⟨rfl, rfl⟩) ?_
  refine (lives_any w8 (hideit (hC.out.ext hE8.out))).mono ?_
  rintro e w9 ⟨rfl, hX⟩
  refine ⟨_, rfl, ?_⟩
  simp only [Act.put, List.setIfInBounds_toArray, List.set_cons_zero, List.set_cons_succ]
  have X9 := hideit (X8.out.carry hX)
  have Y9 := hideit (Y8.out.carry hX)
  have Z9 := hideit (Z8.out.carry hX)
  have V9 := hideit (V8.out.carry hX)
  have hE9 := hideit (Ext.trans hE8.out hX)
  clear hE8 hX X8 Y8 Z8 V8
  refine wpList_run rfl (.bool true) (by simp [go_sem]) ?_
  simp only [Act.put, List.setIfInBounds_toArray, List.set_cons_zero, List.set_cons_succ]
  refine wpList_runW rfl (.agg (row 24 (hdv R)).toArray) (exec_loadR 27 (.tmp 5) rfl x 0 24 _ rfl X9.out.range Tryd.underlying27 rfl infoH) ?_
  simp only [Act.put, List.setIfInBounds_toArray, List.set_cons_zero, List.set_cons_succ]
  refine wpList_runW rfl (.agg (row 24 (hdv R)).toArray) (exec_loadR 27 (.tmp 8) rfl y 0 24 _ rfl Y9.out.range Tryd.underlying27 rfl infoH) ?_
  simp only [Act.put, List.setIfInBounds_toArray, List.set_cons_zero, List.set_cons_succ]
  refine wpList_runW rfl (.bool true) (exec_cmp .eql 27 27 (.tmp 44) (.tmp 45) rfl _ _ rfl rfl (by kernel_rfl) true (eqlH R _)) ?_
  simp only [Act.put, List.setIfInBounds_toArray, List.set_cons_zero, List.set_cons_succ]
  refine wpList_run rfl (.bool true) (by simp [go_sem]) ?_
  simp only [Act.put, List.setIfInBounds_toArray, List.set_cons_zero, List.set_cons_succ]
  refine wpList_run rfl (.bool true) (by simp [go_sem]) ?_
  simp only [Act.put, List.setIfInBounds_toArray, List.set_cons_zero, List.set_cons_succ]
  refine wpList_runW rfl (.int .i64 n) (by simp [go_sem]) ?_
  simp only [Act.put, List.setIfInBounds_toArray, List.set_cons_zero, List.set_cons_succ]
  refine wpList_runW rfl (.int .i64 n) (by simp [go_sem]) ?_
  simp only [Act.put, List.setIfInBounds_toArray, List.set_cons_zero, List.set_cons_succ]
  refine wpList_runW rfl (.bool true) (by simp [go_sem]) ?_
  simp only [Act.put, List.setIfInBounds_toArray, List.set_cons_zero, List.set_cons_succ]
  refine wpList_run rfl (.bool true) (by simp [go_sem]) ?_
  simp only [Act.put, List.setIfInBounds_toArray, List.set_cons_zero, List.set_cons_succ]
  refine wpList_run rfl (.bool true) (by simp [go_sem]) ?_
  simp only [Act.put, List.setIfInBounds_toArray, List.set_cons_zero, List.set_cons_succ]
  refine wpList_runW rfl (.int .i64 e) (by simp [go_sem]) ?_
  simp only [Act.put, List.setIfInBounds_toArray, List.set_cons_zero, List.set_cons_succ]
  refine wpList_runW rfl (.int .i64 e) (by simp [go_sem]) ?_
  simp only [Act.put, List.setIfInBounds_toArray, List.set_cons_zero, List.set_cons_succ]
  refine wpList_runW rfl (.bool true) (by simp [go_sem]) ?_
  simp only [Act.put, List.setIfInBounds_toArray, List.set_cons_zero, List.set_cons_succ]
  refine wpList_run rfl (.bool true) (by simp [go_sem]) ?_
  simp only [Act.put, List.setIfInBounds_toArray, List.set_cons_zero, List.set_cons_succ]
  refine wpList_run rfl (.bool true) (by simp [go_sem]) ?_
  simp only [Act.put, List.setIfInBounds_toArray, List.set_cons_zero, List.set_cons_succ]
  refine wpList_runW rfl (.agg (row 24 (hdv H1)).toArray) (exec_loadR 27 (.tmp 11) rfl z 0 24 _ rfl Z9.out.range Tryd.underlying27 rfl infoH) ?_
  simp only [Act.put, List.setIfInBounds_toArray, List.set_cons_zero, List.set_cons_succ]
  refine wpList_runW rfl (.agg (row 24 (hdv H1)).toArray) (exec_loadR 27 (.tmp 14) rfl v 0 24 _ rfl V9.out.range Tryd.underlying27 rfl infoH) ?_
  simp only [Act.put, List.setIfInBounds_toArray, List.set_cons_zero, List.set_cons_succ]
  refine wpList_runW rfl (.bool true) (exec_cmp .eql 27 27 (.tmp 59) (.tmp 60) rfl _ _ rfl rfl (by kernel_rfl) true (eqlH H1 _)) ?_
  simp only [Act.put, List.setIfInBounds_toArray, List.set_cons_zero, List.set_cons_succ]
  refine wpList_run rfl (.bool true) (by simp [go_sem]) ?_
  simp only [Act.put, List.setIfInBounds_toArray, List.set_cons_zero, List.set_cons_succ]
  refine wpList_run rfl (.bool true) (by simp [go_sem]) ?_
  simp only [Act.put, List.setIfInBounds_toArray, List.set_cons_zero, List.set_cons_succ]
  refine wpList_runW rfl (.int .i64 E1) (by simp [go_sem]) ?_
  simp only [Act.put, List.setIfInBounds_toArray, List.set_cons_zero, List.set_cons_succ]
  refine wpList_runW rfl (.int .i64 E1) (by simp [go_sem]) ?_
  simp only [Act.put, List.setIfInBounds_toArray, List.set_cons_zero, List.set_cons_succ]
  refine wpList_runW rfl (.bool true) (by simp [go_sem]) ?_
  simp only [Act.put, List.setIfInBounds_toArray, List.set_cons_zero, List.set_cons_succ]
  refine wpList_run rfl (.bool true) (by simp [go_sem]) ?_
  simp only [Act.put, List.setIfInBounds_toArray, List.set_cons_zero, List.set_cons_succ]
  clear X9 Y9 Z9 V9
  go_wp2
  go_ret
  exact ⟨rfl, hE9.out⟩
theorem walk (v0 v1 : Value) (w : World) (B0 : BArg v0 w) (B1 : BArg v1 w) (hC : TabC w) : Calls Tryd.prog 5 #[v0, v1] w fun e w' => e = .returned (.bool true) ∧ Below w.heap.size w w' := by
  obtain ⟨l0, b0, h0⟩ := barg_bv B0
  obtain ⟨l1, b1, h1⟩ := barg_bv B1
  obtain ⟨H1, E1, d1, _, _, k1, r1⟩ := dec_both v0 l0 b0 w h0 hC
  obtain ⟨H2, E2, d2, _, _, k2, r2⟩ := dec_both v1 l1 b1 w h1 hC
  obtain ⟨R, n, e, rA, rB, rC, sA, sB, sC⟩ := pickH H1 H2 E1 E2 d1 d2
  exact walk_core v0 v1 H1 H2 R E1 E2 n e w hC d1 k1 k2 r1 r2 rA rB rC sA sB sC

theorem contract (H : Type) (enc : TypeId × Value → H) (W : World) (base : Nat) (args : Array Value) (ds gs : List (DataW H)) (before : List MemPlace)
    (hval0 : ∀ (j : Nat) t v, Tryd.f5.params[j]? = some t → args[j]? = some v → Value.okWide Tryd.prog W .any base t v)
    (hW : DataW.Whole enc Tryd.prog Tryd.f5.params.toList Rows.headChooseSpec.vars false W args.toList ds gs before) (hL : laidMetH Tryd.prog Rows.headChooseRow.laid W) (hsz0 : (DataW.weightsEach Tryd.prog (Tryd.f5.params.toList ++ []) (ds ++ gs)).all (· ≤ reachBytes) = true) :
    Calls Tryd.prog 5 args W fun e W' => ∃ v, e = .returned v ∧ Rows.headChooseSpec.post enc Tryd.prog Tryd.f5 false true false false W args v W' := by
  have hval := hval0
  have hsz := hsz0
  have hW' := hW
  obtain ⟨p, q, hA0, hV, rfl, hfz, hnd⟩ := hW
  have hA : DataW.TrodAll enc Tryd.prog W 0 (fun _ => true) true Tryd.f5.params.toList args.toList ds p := hA0
  rw [Tryd.params5] at hA hval hsz
  obtain ⟨v0, vs0, d0, ds0, p0, q0, hargs, rfl, rfl, h0, r0⟩ := trodAll_cons hA
  obtain ⟨v1, vs1, d1, ds1, p1, q1, rfl, rfl, rfl, h1, r1⟩ := trodAll_cons r0
  obtain ⟨rfl, rfl, rfl⟩ := trodAll_nil r1
  obtain rfl : args = #[v0, v1] := by cases args; simp_all
  obtain ⟨rfl, rfl⟩ := trodVars_none hV
  have h0s : 0 < W.heap.size := by
    have hc := (table hL).cell gTab 0 (by decide)
    rcases Nat.lt_or_ge 0 W.heap.size with h | h
    · exact h
    · exfalso
      have : W.heap[0]? = none := Array.getElem?_eq_none h
      simp [World.cell?, this] at hc
  have hC : TabC W := tabC hL h0s
  have k0 := h0
  have lt0 : ∀ x ∈ p0, x.block < W.heap.size := by obtain ⟨m, hm⟩ := k0; exact DataW.trod_lt m _ _ _ hm
  have k1 := h1
  have lt1 : ∀ x ∈ p1, x.block < W.heap.size := by obtain ⟨m, hm⟩ := k1; exact DataW.trod_lt m _ _ _ hm
  have B0 := barg (hval 0 28 v0 rfl rfl) h0 hsz 0 rfl rfl
  have B1 := barg (hval 1 28 v1 rfl rfl) h1 hsz 1 rfl rfl
  clear hA0 hval0
  refine (walk v0 v1 W B0 B1 hC).mono fun e W' ⟨he, bel⟩ => ?_
  subst he
  exact ⟨_, rfl, _, _, _, [], _, [], hW', trodAll_mk1 (shut_bool Tryd.underlying4 _), (trodAll_cons_mk (Below.trod laidOut (by kernel_rfl) (of_decide_eq_true (by kernel_rfl)) k0 bel lt0) (trodAll_cons_mk (Below.trod laidOut (by kernel_rfl) (of_decide_eq_true (by kernel_rfl)) k1 bel lt1) trodAll_mk0)), rfl, bel.frame _, fun h => by cases h⟩

def wit : Array Value := #[.slice none 0 0, .slice none 0 0]
def dat {H : Type} : List (DataW H) := [.nil, .nil]
def setTab : Obj → Obj
  | .cells _ t frozen => .cells (tabL.map fun z => Value.int .u32 z).toArray t frozen
  | o => o
theorem laid_met (os : Os) : laidMet Tryd.prog Rows.headChooseRow.laid (({ World.holding Tryd.prog os ⟨#[], #[], []⟩ with heap := (World.holding Tryd.prog os ⟨#[], #[], []⟩).heap.modify 0 setTab } : World).forCall (fun _ _ => 0) ⟨#[], wit, []⟩).memory :=
  laidMet_of_run' 8 (by kernel_rfl) (by kernel_rfl)
theorem reads (os : Os) {H : Type} (enc : TypeId × Value → H) : ∃ places, DataW.whole enc Tryd.prog (({ World.holding Tryd.prog os ⟨#[], #[], []⟩ with heap := (World.holding Tryd.prog os ⟨#[], #[], []⟩).heap.modify 0 setTab } : World).forCall (fun _ _ => 0) ⟨#[], wit, []⟩).memory Tryd.f5.params.toList Rows.headChooseSpec.vars false wit.toList 8 = some (dat, [], places) :=
  ⟨[], by kernel_rfl⟩

set_option maxRecDepth 100000 in
theorem lifted (os : Os) (started : os.Started) (H : Type) (enc : TypeId × Value → H) (F : Stop.Interp) :
    ReturnsInHanded {} Tryd.checked os 5 .any ((OpenSpec.ofChange Rows.headChooseSpec).preRow enc Tryd.prog Tryd.f5 Rows.headChooseRow.domain false Rows.headChooseRow.laid) (((OpenSpec.ofChange Rows.headChooseSpec).at F).post enc Tryd.prog Tryd.f5 false true false false) := by
  obtain ⟨places, hx⟩ := reads os enc
  refine returnsInHanded_of_row (C := Tryd.checked) (s := (OpenSpec.ofChange Rows.headChooseSpec)) own started (by kernel_rfl) Tryd.func5
    (witness_row_at (enc := enc) (C := Tryd.checked) false ({ World.holding Tryd.prog os ⟨#[], #[], []⟩ with heap := (World.holding Tryd.prog os ⟨#[], #[], []⟩).heap.modify 0 setTab } : World) wit rfl (by kernel_rfl) (by kernel_rfl) (by kernel_rfl)
      (OpenSpec.preRow_of_cond 8 hx (by kernel_rfl) (fun k hk => by cases hk) (by kernel_rfl) (laid_met os))) ?_
  intro W base args ds gs before hval hW _ hcond hsz hL _ _
  exact contract H enc W base args ds gs before hval hW hL hsz

theorem said : Rows.HeadChooseSaid :=
  OpenClaim.holds_of_cond 5 Tryd.f5 rfl rfl rfl rfl rfl rfl rfl ⟨rfl, rfl, rfl, rfl, rfl⟩ rfl rfl rfl rfl rfl (by kernel_rfl) Tryd.func5 (by kernel_rfl)
    (of_decide_eq_true (by kernel_rfl)) (by unfold Func.isWrapper; first | (rw [if_pos (by decide +kernel)]; kernel_rfl) | (rw [if_neg (by decide +kernel)]; exact ⟨rfl, rfl⟩))
    (fun os started H enc _ F => by rw [OpenClaim.pre_eq_preRow]; exact lifted os started H enc F)

theorem plain (f : FuncId) (fn : Func) (hf : Tryd.pinned.checked.prog.funcNamed "casket/casketlaw11.HeadChoose" = some f) (hfn : Tryd.pinned.checked.prog.funcs[f]? = some fn) :
    false = Tryd.pinned.checked.prog.looks [] ∧ ∀ (j : Nat) t, fn.params[j]? = some t → Tryd.pinned.checked.prog.wantsStandIn t = false := by
  obtain rfl : f = 5 := Option.some.inj ((show Tryd.prog.funcNamed "casket/casketlaw11.HeadChoose" = some 5 by kernel_rfl).symm.trans hf) |>.symm
  obtain rfl : fn = Tryd.f5 := (Option.some.inj (Tryd.func5.symm.trans hfn)).symm
  refine ⟨by kernel_rfl, fun j t ht => ?_⟩
  rw [Tryd.params5] at ht
  have hm : t ∈ [28, 28] := by simpa using Array.mem_of_getElem? ht
  have hall : ([28, 28].all fun u => !Tryd.prog.wantsStandIn u) = true := by kernel_rfl
  exact (show Tryd.prog.wantsStandIn t = false by simpa using List.all_eq_true.1 hall t hm)

theorem card : Rows.HeadChooseCardSaid :=
  Claim7.holds_tied_plain_at .later [] _ _ _ _ said (fun _ h => by cases h) (by kernel_rfl) (fun _ h => by cases h) headChoose_row_tie rfl ⟨rfl, rfl⟩ (by kernel_rfl) rfl plain (by kernel_rfl)
end Go.Proofs.YtenlokmoijeehaaDoor.headChoose
namespace Go.Proofs.YtenlokmoijeehaaDoor
theorem headChoose_holds : Rows.HeadChooseCardSaid := headChoose.card
end Go.Proofs.YtenlokmoijeehaaDoor
