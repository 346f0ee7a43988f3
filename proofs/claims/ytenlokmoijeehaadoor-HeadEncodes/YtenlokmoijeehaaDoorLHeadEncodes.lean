/-
  For every header the law HeadEncodes returns true, and its argument reads behind the call as it read before; the package-level table of constants is laid as the program text lays it. No other condition.
-/
import Derived.Test.YtenlokmoijeehaaDoorCards
import Derived.Test.YtenlokmoijeehaaDoorTie
import Derived.WalkKit
import Derived.ProofKit
import Derived.OpenShut
import Derived.ShutString
import Derived.ChangeOld
import Derived.Below
import Derived.Deep.DeepHandedRow
import Derived.Lib.LaidTab
import Derived.Test.YtenlokmoijeehaaDoorGw
import Derived.Test.YtenlokmoijeehaaDoorGx
import Derived.Test.YtenlokmoijeehaaDoorGu
namespace Go.Proofs.YtenlokmoijeehaaDoor.headEncodes
open Go.ChangeShapes Go.WideShapes Go.ChangeAt Go.RowKit
set_option linter.unusedVariables false

theorem own : ownKnob Tryd.prog.godebug = none := by kernel_rfl
theorem laidOut : laidOutB Tryd.prog = true := by kernel_rfl
theorem gTab : Tryd.prog.globalNamed "casket/sha.constants" = some 0 := by kernel_rfl
theorem gTabType : (Tryd.prog.globals[0]?).map (·.type) = some 95 := by kernel_rfl
theorem cellsG : Tryd.prog.cellsOf 95 = 64 := by kernel_rfl
theorem cellsE : Tryd.prog.cellsOf 79 = 1 := by kernel_rfl
def tabL : List Int := [1116352408, 1899447441, 3049323471, 3921009573, 961987163, 1508970993, 2453635748, 2870763221, 3624381080, 310598401, 607225278, 1426881987, 1925078388, 2162078206, 2614888103, 3248222580, 3835390401, 4022224774, 264347078, 604807628, 770255983, 1249150122, 1555081692, 1996064986, 2554220882, 2821834349, 2952996808, 3210313671, 3336571891, 3584528711, 113926993, 338241895, 666307205, 773529912, 1294757372, 1396182291, 1695183700, 1986661051, 2177026350, 2456956037, 2730485921, 2820302411, 3259730800, 3345764771, 3516065817, 3600352804, 4094571909, 275423344, 430227734, 506948616, 659060556, 883997877, 958139571, 1322822218, 1537002063, 1747873779, 1955562222, 2024104815, 2227730452, 2361852424, 2428436474, 2756734187, 3204031479, 3329325298]
theorem table {W : World} (h : laidMetH Tryd.prog Rows.headEncodesRow.laid W) : Lib.TabIs Tryd.prog W "casket/sha.constants" .u32 tabL :=
  Lib.tabIs_of_head (rest := []) gTab gTabType Tryd.underlying95 Tryd.underlying79 cellsE cellsG h
theorem tab_kT : ∀ j, j < 64 → tabL.getD j 0 = ((kT j).toNat : Int) := by decide +kernel
theorem tabC {W : World} (h : laidMetH Tryd.prog Rows.headEncodesRow.laid W) (h0 : 0 < W.heap.size) : TabC W :=
  ⟨fun j hj => by
    rw [← tab_kT j hj]
    exact (table h).cell gTab j hj, h0⟩

open Go.BigFrame
theorem lv_int (m j : Nat) : some (lvF m j) = some (Value.int .i64 (if j = 0 then (m : Int) else 1)) := by
  unfold lvF
  by_cases h : j = 0
  · rw [if_pos h, if_pos h]
  · rw [if_neg h, if_neg h]
set_option maxRecDepth 20000 in
set_option maxHeartbeats 2000000 in
theorem walk_no (h : Hd) (w : World) (hC : Hid (TabC w)) (hk : Hid (¬ okH h)) : Calls Tryd.prog 3 #[.agg (row 24 (hdv h)).toArray] w fun e w' => e = .returned (.bool true) ∧ Below w.heap.size w w' := by
  go_enter Tryd.func3, Tryd.ntmps3
  go_upto_region 0 with (fail)
  refine wp_region_lit ?_
  refine wpList_to rfl (.pointer (some ⟨w.heap.size, 0, none⟩)) (w.alloc (.cells (row 24 (hdv h)).toArray 27)) (by simp [go_sem]) ?_
  simp only [Act.put, List.setIfInBounds_toArray, List.set_cons_zero, List.set_cons_succ]
  have P1 := hideit (RowAt.new w 24 (hdv h) 27)
  have X1 : Ext w (w.alloc (.cells (row 24 (hdv h)).toArray 27)) := (Below.refl _ _).alloc (Nat.le_refl _) _
  have C1 := hideit (hC.out.ext X1)
  have hE1 := hideit X1
  clear X1 hC
  generalize w.alloc (.cells (row 24 (hdv h)).toArray 27) = w1 at *
  generalize w.heap.size = c at P1 ⊢
  go_upto_region 1 with (fail)
  refine wp_region_lit ?_
  refine wpList_run rfl (.agg (row 24 (hdv h)).toArray) (exec_loadR 27 (.tmp 1) rfl c 0 24 _ rfl P1.out.range Tryd.underlying27 rfl infoH) ?_
  simp only [Act.put, List.setIfInBounds_toArray, List.set_cons_zero, List.set_cons_succ]
  refine wpList_call rfl (by simp [go_sem]; exact ⟨rfl, rfl⟩) ?_
  refine (enc_no h w1 hk.out).mono ?_
  rintro e w2 ⟨rfl, hX⟩
  refine ⟨_, rfl, ?_⟩
  simp only [Act.put, List.setIfInBounds_toArray, List.set_cons_zero, List.set_cons_succ]
  have P2 := hideit (P1.out.carry hX)
  have C2 := hideit (C1.out.ext hX)
  have hE2 := hideit (Ext.trans hE1.out hX)
  clear hE1 hX P1 C1
  go_upto_region 2 with (fail)
  refine wp_region_lit ?_
  refine wpList_run rfl (.agg (row 24 (hdv h)).toArray) (exec_loadR 27 (.tmp 1) rfl c 0 24 _ rfl P2.out.range Tryd.underlying27 rfl infoH) ?_
  simp only [Act.put, List.setIfInBounds_toArray, List.set_cons_zero, List.set_cons_succ]
  refine wpList_call rfl (by simp [go_sem]; exact ⟨rfl, rfl⟩) ?_
  refine (renc_no h w2 hk.out).mono ?_
  rintro e w3 ⟨rfl, hX⟩
  refine ⟨_, rfl, ?_⟩
  simp only [Act.put, List.setIfInBounds_toArray, List.set_cons_zero, List.set_cons_succ]
  have P3 := hideit (P2.out.carry hX)
  have C3 := hideit (C2.out.ext hX)
  have hE3 := hideit (Ext.trans hE2.out hX)
  clear hE2 hX P2 C2
  go_upto_region 3 with (fail)
  refine wp_region_lit ?_
  refine wpList_run rfl (.agg (row 24 (hdv h)).toArray) (exec_loadR 27 (.tmp 1) rfl c 0 24 _ rfl P3.out.range Tryd.underlying27 rfl infoH) ?_
  simp only [Act.put, List.setIfInBounds_toArray, List.set_cons_zero, List.set_cons_succ]
  refine wpList_call rfl (by simp [go_sem]; exact ⟨rfl, rfl⟩) ?_
  refine (lay_no h w3 hk.out).mono ?_
  rintro e w4 ⟨rfl, hX⟩
  refine ⟨_, rfl, ?_⟩
  simp only [Act.put, List.setIfInBounds_toArray, List.set_cons_zero, List.set_cons_succ]
  have P4 := hideit (P3.out.carry hX)
  have C4 := hideit (C3.out.ext hX)
  have hE4 := hideit (Ext.trans hE3.out hX)
  clear hE3 hX P3 C3
  refine wpList_run rfl (.tuple #[.agg (row 9 (lyv (fun _ => 0) (.slice none 0 0))).toArray, .int .i64 1]) (by simp [go_sem]) ?_
  simp only [Act.put, List.setIfInBounds_toArray, List.set_cons_zero, List.set_cons_succ]
  refine wpList_run rfl (.agg (row 9 (lyv (fun _ => 0) (.slice none 0 0))).toArray) (by simp [go_sem]) ?_
  simp only [Act.put, List.setIfInBounds_toArray, List.set_cons_zero, List.set_cons_succ]
  refine wpList_run rfl (.int .i64 1) (by simp [go_sem]) ?_
  simp only [Act.put, List.setIfInBounds_toArray, List.set_cons_zero, List.set_cons_succ]
  obtain ⟨M1, M2, M3⟩ := made34 w4 (fun _ => 0) (.slice none 0 0)
  replace M1 := hideit M1
  have X5 := hideit M2
  clear M2
  refine wpList_to rfl (.pointer (some ⟨w4.heap.size, 0, none⟩)) (w4.alloc (.cells (row 9 (lyv (fun _ => 0) (.slice none 0 0))).toArray 34)) (exec_alloc 34 _ rfl (zeroL w4)) ?_
  simp only [Act.put, List.setIfInBounds_toArray, List.set_cons_zero, List.set_cons_succ]
  refine wpList_store_mid rfl 34 (.tmp 7) (.tmp 25) rfl w4.heap.size 0 (row 9 (lyv (fun _ => 0) (.slice none 0 0))).toArray rfl rfl (by rw [row_size]; exact M1.out.there) (by rw [row_size]; exact infoL) (row_one fun j _ => lyv_one _ rfl j) ?_
  rw [show (row 9 (lyv (fun _ => 0) (.slice none 0 0))).toArray.toList = row 9 (lyv (fun _ => 0) (.slice none 0 0)) from rfl]
  have P5 := hideit (P4.out.carry M3)
  have C5 := hideit (C4.out.ext M3)
  have hE5 := hideit (Ext.trans hE4.out M3)
  clear hE4 M3 P4 C4
  generalize (w4.alloc (.cells (row 9 (lyv (fun _ => 0) (.slice none 0 0))).toArray 34)).setCells w4.heap.size 0 (row 9 (lyv (fun _ => 0) (.slice none 0 0))) = w5 at *
  generalize w4.heap.size = x at *
  clear M1
  simp only [Act.put]
  go_upto_region 4 with (fail)
  refine wp_region_lit ?_
  refine wpList_run rfl (.agg (row 24 (hdv h)).toArray) (exec_loadR 27 (.tmp 1) rfl c 0 24 _ rfl P5.out.range Tryd.underlying27 rfl infoH) ?_
  simp only [Act.put, List.setIfInBounds_toArray, List.set_cons_zero, List.set_cons_succ]
  refine wpList_call rfl (by simp [go_sem]; exact ⟨rfl, rfl⟩) ?_
  refine (rlay_no h w5 hk.out).mono ?_
  rintro e w6 ⟨rfl, hX⟩
  refine ⟨_, rfl, ?_⟩
  simp only [Act.put, List.setIfInBounds_toArray, List.set_cons_zero, List.set_cons_succ]
  have P6 := hideit (P5.out.carry hX)
  have X6 := hideit (X5.out.carry hX)
  have C6 := hideit (C5.out.ext hX)
  have hE6 := hideit (Ext.trans hE5.out hX)
  clear hE5 hX P5 X5 C5
  refine wpList_run rfl (.tuple #[.agg (row 9 (lyv (fun _ => 0) (.slice none 0 0))).toArray, .int .i64 1]) (by simp [go_sem]) ?_
  simp only [Act.put, List.setIfInBounds_toArray, List.set_cons_zero, List.set_cons_succ]
  refine wpList_run rfl (.agg (row 9 (lyv (fun _ => 0) (.slice none 0 0))).toArray) (by simp [go_sem]) ?_
  simp only [Act.put, List.setIfInBounds_toArray, List.set_cons_zero, List.set_cons_succ]
  refine wpList_run rfl (.int .i64 1) (by simp [go_sem]) ?_
  simp only [Act.put, List.setIfInBounds_toArray, List.set_cons_zero, List.set_cons_succ]
  obtain ⟨M1, M2, M3⟩ := made34 w6 (fun _ => 0) (.slice none 0 0)
  replace M1 := hideit M1
  have Y7 := hideit M2
  clear M2
  refine wpList_to rfl (.pointer (some ⟨w6.heap.size, 0, none⟩)) (w6.alloc (.cells (row 9 (lyv (fun _ => 0) (.slice none 0 0))).toArray 34)) (exec_alloc 34 _ rfl (zeroL w6)) ?_
  simp only [Act.put, List.setIfInBounds_toArray, List.set_cons_zero, List.set_cons_succ]
  refine wpList_store_mid rfl 34 (.tmp 9) (.tmp 30) rfl w6.heap.size 0 (row 9 (lyv (fun _ => 0) (.slice none 0 0))).toArray rfl rfl (by rw [row_size]; exact M1.out.there) (by rw [row_size]; exact infoL) (row_one fun j _ => lyv_one _ rfl j) ?_
  rw [show (row 9 (lyv (fun _ => 0) (.slice none 0 0))).toArray.toList = row 9 (lyv (fun _ => 0) (.slice none 0 0)) from rfl]
  have P7 := hideit (P6.out.carry M3)
  have X7 := hideit (X6.out.carry M3)
  have C7 := hideit (C6.out.ext M3)
  have hE7 := hideit (Ext.trans hE6.out M3)
  clear hE6 M3 P6 X6 C6
  generalize (w6.alloc (.cells (row 9 (lyv (fun _ => 0) (.slice none 0 0))).toArray 34)).setCells w6.heap.size 0 (row 9 (lyv (fun _ => 0) (.slice none 0 0))) = w7 at *
  generalize w6.heap.size = y at *
  clear M1
  simp only [Act.put]
  go_upto_region 5 with (fail)
  have hD := (Ext.refl w7).draw
  have P8 := hideit (P7.out.carry hD)
  have X8 := hideit (X7.out.carry hD)
  have Y8 := hideit (Y7.out.carry hD)
  have C8 := hideit (C7.out.ext hD)
  have hE8 := hideit (Ext.trans hE7.out hD)
  clear hE7 P7 X7 Y7 C7
  have ca : Hid (∀ X, Ext w7.drew X → (convert 28 9 (.slice none 0 0)).run Tryd.prog X = .ok (.string (bstr 0 fun j => (((fun _ => 0#8) j).toNat : Int))) X) := hideit fun X hX => convV _ 0 (fun _ => 0#8) X (.inl ⟨rfl, rfl⟩)
  have cb' : Hid (∀ X, Ext w7.drew X → (convert 28 9 (.slice none 0 0)).run Tryd.prog X = .ok (.string (bstr 0 fun j => (((fun _ => 0#8) j).toNat : Int))) X) := hideit fun X hX => convV _ 0 (fun _ => 0#8) X (.inl ⟨rfl, rfl⟩)
  generalize (bstr 0 fun j => (((fun _ => 0#8) j).toNat : Int)) = str at *
  refine wp_region_lad (fun X => Ext w7.drew X) [(true, 0), (false, 1), (false, 2), (false, 3), (false, 4), (false, 5), (false, 6), (false, 7), (false, 8), (false, 9), (false, 10), (false, 11), (false, 12), (false, 13), (false, 14), (false, 15), (false, 16), (true, 17), (false, 18), (false, 19), (false, 20), (false, 21), (false, 22), (false, 23), (false, 24), (false, 25), (false, 26), (false, 28), (true, 27), (true, 29), (false, 30), (false, 31)] (by kernel_rfl) (by kernel_rfl) (by decide +kernel) (by decide +kernel) (by decide +kernel) (by decide +kernel) (Ext.refl _) ?_
  refine wpX_call _ rfl rfl (by simp [go_sem]) ((lives_any w7.drew C8).mono ?_)
  rintro e w9 ⟨rfl, hX9⟩
  refine ⟨_, rfl, fun X => Ext w9 X, fun X hX => Ext.trans hX9 hX, Ext.refl _, ?_⟩
  simp only [List.getElem_toArray, List.getElem_cons_zero, Act.put, List.setIfInBounds_toArray, List.set_cons_zero, List.set_cons_succ]
  refine wpX_f _ (.bool false) rfl rfl (fun X _ => by simp [go_sem]) ?_
  simp only [List.getElem_toArray, List.getElem_cons_zero, List.getElem_cons_succ, Act.put, List.setIfInBounds_toArray, List.set_cons_zero, List.set_cons_succ]
  refine wpX_f _ (.bool false) rfl rfl (fun X _ => by simp [go_sem]) ?_
  simp only [List.getElem_toArray, List.getElem_cons_zero, List.getElem_cons_succ, Act.put, List.setIfInBounds_toArray, List.set_cons_zero, List.set_cons_succ]
  refine wpX_f _ (.slice none 0 0) rfl rfl (fun X _ => by simp [go_sem]) ?_
  simp only [List.getElem_toArray, List.getElem_cons_zero, List.getElem_cons_succ, Act.put, List.setIfInBounds_toArray, List.set_cons_zero, List.set_cons_succ]
  refine wpX_f _ (.string str) rfl rfl (fun X hX => by have hcv := ca.out X (Ext.trans hX9 hX); simp [go_sem, hcv]) ?_
  simp only [List.getElem_toArray, List.getElem_cons_zero, List.getElem_cons_succ, Act.put, List.setIfInBounds_toArray, List.set_cons_zero, List.set_cons_succ]
  refine wpX_f _ (.slice none 0 0) rfl rfl (fun X _ => by simp [go_sem]) ?_
  simp only [List.getElem_toArray, List.getElem_cons_zero, List.getElem_cons_succ, Act.put, List.setIfInBounds_toArray, List.set_cons_zero, List.set_cons_succ]
  refine wpX_f _ (.string str) rfl rfl (fun X hX => by have hcv := cb'.out X (Ext.trans hX9 hX); simp [go_sem, hcv]) ?_
  simp only [List.getElem_toArray, List.getElem_cons_zero, List.getElem_cons_succ, Act.put, List.setIfInBounds_toArray, List.set_cons_zero, List.set_cons_succ]
  refine wpX_f _ (.bool false) rfl rfl (fun X _ => by simp [go_sem]) ?_
  simp only [List.getElem_toArray, List.getElem_cons_zero, List.getElem_cons_succ, Act.put, List.setIfInBounds_toArray, List.set_cons_zero, List.set_cons_succ]
  refine wpX_f _ (.bool false) rfl rfl (fun X _ => by simp [go_sem]) ?_
  simp only [List.getElem_toArray, List.getElem_cons_zero, List.getElem_cons_succ, Act.put, List.setIfInBounds_toArray, List.set_cons_zero, List.set_cons_succ]
  refine wpX_f _ (.bool false) rfl rfl (fun X _ => by simp [go_sem]) ?_
  simp only [List.getElem_toArray, List.getElem_cons_zero, List.getElem_cons_succ, Act.put, List.setIfInBounds_toArray, List.set_cons_zero, List.set_cons_succ]
  refine wpX_f _ (.int .i64 1) rfl rfl (fun X _ => by simp [go_sem]) ?_
  simp only [List.getElem_toArray, List.getElem_cons_zero, List.getElem_cons_succ, Act.put, List.setIfInBounds_toArray, List.set_cons_zero, List.set_cons_succ]
  refine wpX_f _ (.int .i64 1) rfl rfl (fun X _ => by simp [go_sem]) ?_
  simp only [List.getElem_toArray, List.getElem_cons_zero, List.getElem_cons_succ, Act.put, List.setIfInBounds_toArray, List.set_cons_zero, List.set_cons_succ]
  refine wpX_f _ (.bool false) rfl rfl (fun X _ => by simp [go_sem]) ?_
  simp only [List.getElem_toArray, List.getElem_cons_zero, List.getElem_cons_succ, Act.put, List.setIfInBounds_toArray, List.set_cons_zero, List.set_cons_succ]
  refine wpX_f _ (.bool false) rfl rfl (fun X _ => by simp [go_sem]) ?_
  simp only [List.getElem_toArray, List.getElem_cons_zero, List.getElem_cons_succ, Act.put, List.setIfInBounds_toArray, List.set_cons_zero, List.set_cons_succ]
  refine wpX_f _ (.bool false) rfl rfl (fun X _ => by simp [go_sem]) ?_
  simp only [List.getElem_toArray, List.getElem_cons_zero, List.getElem_cons_succ, Act.put, List.setIfInBounds_toArray, List.set_cons_zero, List.set_cons_succ]
  refine wpX_f _ (.agg (row 9 (lyv (fun _ => 0) (.slice none 0 0))).toArray) rfl rfl (fun X hX => exec_loadR 34 (.tmp 7) rfl x 0 9 _ rfl (X8.out.carry (Ext.trans hX9 hX)).range Tryd.underlying34 rfl infoL) ?_
  simp only [List.getElem_toArray, List.getElem_cons_zero, List.getElem_cons_succ, Act.put, List.setIfInBounds_toArray, List.set_cons_zero, List.set_cons_succ]
  refine wpX_f _ (.agg (row 9 (lyv (fun _ => 0) (.slice none 0 0))).toArray) rfl rfl (fun X hX => exec_loadR 34 (.tmp 9) rfl y 0 9 _ rfl (Y8.out.carry (Ext.trans hX9 hX)).range Tryd.underlying34 rfl infoL) ?_
  simp only [List.getElem_toArray, List.getElem_cons_zero, List.getElem_cons_succ, Act.put, List.setIfInBounds_toArray, List.set_cons_zero, List.set_cons_succ]
  refine wpX_call _ rfl rfl (by simp [go_sem]) ((same_any (fun _ => 0) none none 0 0 0 (fun _ => 0) w9 (hideit fun j hj => absurd hj (Nat.not_lt_zero _)) (hideit fun j hj => absurd hj (Nat.not_lt_zero _)) (by decide)).mono ?_)
  rintro e w10 ⟨rfl, hX10⟩
  have hY10 := Ext.trans hX9 hX10
  refine ⟨_, rfl, fun X => Ext w10 X, fun X hX => Ext.trans hX10 hX, Ext.refl _, ?_⟩
  simp only [List.getElem_toArray, List.getElem_cons_zero, List.getElem_cons_succ, Act.put, List.setIfInBounds_toArray, List.set_cons_zero, List.set_cons_succ]
  refine wpX_f _ (.bool false) rfl rfl (fun X _ => by simp [go_sem]) ?_
  simp only [List.getElem_toArray, List.getElem_cons_zero, List.getElem_cons_succ, Act.put, List.setIfInBounds_toArray, List.set_cons_zero, List.set_cons_succ]
  refine wpX_f _ (.bool false) rfl rfl (fun X _ => by simp [go_sem]) ?_
  simp only [List.getElem_toArray, List.getElem_cons_zero, List.getElem_cons_succ, Act.put, List.setIfInBounds_toArray, List.set_cons_zero, List.set_cons_succ]
  refine wpX_f _ (.bool false) rfl rfl (fun X _ => by simp [go_sem]) ?_
  simp only [List.getElem_toArray, List.getElem_cons_zero, List.getElem_cons_succ, Act.put, List.setIfInBounds_toArray, List.set_cons_zero, List.set_cons_succ]
  refine wpX_f _ (.int .i64 1) rfl rfl (fun X _ => by simp [go_sem]) ?_
  simp only [List.getElem_toArray, List.getElem_cons_zero, List.getElem_cons_succ, Act.put, List.setIfInBounds_toArray, List.set_cons_zero, List.set_cons_succ]
  refine wpX_f _ (.int .i64 1) rfl rfl (fun X _ => by simp [go_sem]) ?_
  simp only [List.getElem_toArray, List.getElem_cons_zero, List.getElem_cons_succ, Act.put, List.setIfInBounds_toArray, List.set_cons_zero, List.set_cons_succ]
  refine wpX_f _ (.bool false) rfl rfl (fun X _ => by simp [go_sem]) ?_
  simp only [List.getElem_toArray, List.getElem_cons_zero, List.getElem_cons_succ, Act.put, List.setIfInBounds_toArray, List.set_cons_zero, List.set_cons_succ]
  refine wpX_f _ (.bool false) rfl rfl (fun X _ => by simp [go_sem]) ?_
  simp only [List.getElem_toArray, List.getElem_cons_zero, List.getElem_cons_succ, Act.put, List.setIfInBounds_toArray, List.set_cons_zero, List.set_cons_succ]
  refine wpX_f _ (.bool false) rfl rfl (fun X _ => by simp [go_sem]) ?_
  simp only [List.getElem_toArray, List.getElem_cons_zero, List.getElem_cons_succ, Act.put, List.setIfInBounds_toArray, List.set_cons_zero, List.set_cons_succ]
  refine wpX_f _ (.agg (row 24 (hdv h)).toArray) rfl rfl (fun X hX => exec_loadR 27 (.tmp 1) rfl c 0 24 _ rfl (P8.out.carry (Ext.trans hY10 hX)).range Tryd.underlying27 rfl infoH) ?_
  simp only [List.getElem_toArray, List.getElem_cons_zero, List.getElem_cons_succ, Act.put, List.setIfInBounds_toArray, List.set_cons_zero, List.set_cons_succ]
  refine wpX_f _ (.agg (row 24 (hdv h)).toArray) rfl rfl (fun X hX => exec_loadR 27 (.tmp 1) rfl c 0 24 _ rfl (P8.out.carry (Ext.trans hY10 hX)).range Tryd.underlying27 rfl infoH) ?_
  simp only [List.getElem_toArray, List.getElem_cons_zero, List.getElem_cons_succ, Act.put, List.setIfInBounds_toArray, List.set_cons_zero, List.set_cons_succ]
  refine wpX_call _ rfl rfl (by simp [go_sem]) ((check_no h w10 hk.out).mono ?_)
  rintro e w11 ⟨rfl, hX11⟩
  refine ⟨_, rfl, fun X => Ext w11 X, fun X hX => Ext.trans hX11 hX, Ext.refl _, ?_⟩
  simp only [List.getElem_toArray, List.getElem_cons_zero, List.getElem_cons_succ, Act.put, List.setIfInBounds_toArray, List.set_cons_zero, List.set_cons_succ]
  refine wpX_call _ rfl rfl (by simp [go_sem]) ((rcheck_no h w11 hk.out).mono ?_)
  rintro e w12 ⟨rfl, hX12⟩
  refine ⟨_, rfl, fun X => Ext w12 X, fun X hX => Ext.trans hX12 hX, Ext.refl _, ?_⟩
  simp only [List.getElem_toArray, List.getElem_cons_zero, List.getElem_cons_succ, Act.put, List.setIfInBounds_toArray, List.set_cons_zero, List.set_cons_succ]
  refine wpX_f _ (.bool false) rfl rfl (fun X _ => by simp [go_sem]) ?_
  simp only [List.getElem_toArray, List.getElem_cons_zero, List.getElem_cons_succ, Act.put, List.setIfInBounds_toArray, List.set_cons_zero, List.set_cons_succ]
  refine wpX_f _ (.bool false) rfl rfl (fun X _ => by simp [go_sem]) ?_
  simp only [List.getElem_toArray, List.getElem_cons_zero, List.getElem_cons_succ, Act.put, List.setIfInBounds_toArray, List.set_cons_zero, List.set_cons_succ]
  refine wpX_nil ?_
  have hZ := Ext.trans (Ext.trans hY10 hX11) hX12
  clear hX9 hX10 hX11 hX12 hY10 ca cb'
  have hE13 := hideit (Ext.trans hE8.out hZ)
  clear hZ hE8 P8 X8 Y8 C8
  go_wp2
  go_ret
  exact ⟨rfl, hE13.out⟩
set_option maxRecDepth 20000 in
set_option maxHeartbeats 2000000 in
theorem walk_ok (h : Hd) (w : World) (hC : Hid (TabC w)) (hk : Hid (okH h)) (t m N : Nat) (Sm : Int) (et : Hid (t = (h.se.toNat + 8 - 1) / 8)) (em : Hid (m = (t + 16 - 1) / 16)) (hN : Hid (N = if m = 1 then 1 else 2)) (hSm : Hid (Sm = lsum m)) : Calls Tryd.prog 3 #[.agg (row 24 (hdv h)).toArray] w fun e w' => e = .returned (.bool true) ∧ Below w.heap.size w w' := by
  go_enter Tryd.func3, Tryd.ntmps3
  go_upto_region 0 with (fail)
  refine wp_region_lit ?_
  refine wpList_to rfl (.pointer (some ⟨w.heap.size, 0, none⟩)) (w.alloc (.cells (row 24 (hdv h)).toArray 27)) (by simp [go_sem]) ?_
  simp only [Act.put, List.setIfInBounds_toArray, List.set_cons_zero, List.set_cons_succ]
  have P1 := hideit (RowAt.new w 24 (hdv h) 27)
  have X1 : Ext w (w.alloc (.cells (row 24 (hdv h)).toArray 27)) := (Below.refl _ _).alloc (Nat.le_refl _) _
  have C1 := hideit (hC.out.ext X1)
  have hE1 := hideit X1
  clear X1 hC
  generalize w.alloc (.cells (row 24 (hdv h)).toArray 27) = w1 at *
  generalize w.heap.size = c at P1 ⊢
  go_upto_region 1 with (fail)
  refine wp_region_lit ?_
  refine wpList_run rfl (.agg (row 24 (hdv h)).toArray) (exec_loadR 27 (.tmp 1) rfl c 0 24 _ rfl P1.out.range Tryd.underlying27 rfl infoH) ?_
  simp only [Act.put, List.setIfInBounds_toArray, List.set_cons_zero, List.set_cons_succ]
  refine wpList_call rfl (by simp [go_sem]; exact ⟨rfl, rfl⟩) ?_
  refine (enc_ok h w1 hk.out C1.out).mono ?_
  rintro e w2 ⟨ga, rfl, hg2, A2, hX⟩
  refine ⟨_, rfl, ?_⟩
  simp only [Act.put, List.setIfInBounds_toArray, List.set_cons_zero, List.set_cons_succ]
  replace A2 := hideit A2
  clear hg2
  have P2 := hideit (P1.out.carry hX)
  have C2 := hideit (C1.out.ext hX)
  have hE2 := hideit (Ext.trans hE1.out hX)
  clear hE1 hX P1 C1
  go_upto_region 2 with (fail)
  refine wp_region_lit ?_
  refine wpList_run rfl (.agg (row 24 (hdv h)).toArray) (exec_loadR 27 (.tmp 1) rfl c 0 24 _ rfl P2.out.range Tryd.underlying27 rfl infoH) ?_
  simp only [Act.put, List.setIfInBounds_toArray, List.set_cons_zero, List.set_cons_succ]
  refine wpList_call rfl (by simp [go_sem]; exact ⟨rfl, rfl⟩) ?_
  refine (renc_ok h w2 hk.out).mono ?_
  rintro e w3 ⟨vb, rfl, hB3, hX⟩
  refine ⟨_, rfl, ?_⟩
  simp only [Act.put, List.setIfInBounds_toArray, List.set_cons_zero, List.set_cons_succ]
  obtain ⟨ob, cb, rfl⟩ := hB3.form
  have B3 := hideit hB3
  clear hB3
  have P3 := hideit (P2.out.carry hX)
  have A3 := hideit (A2.out.carry hX)
  have C3 := hideit (C2.out.ext hX)
  have hE3 := hideit (Ext.trans hE2.out hX)
  clear hE2 hX P2 A2 C2
  go_upto_region 3 with (fail)
  refine wp_region_lit ?_
  refine wpList_run rfl (.agg (row 24 (hdv h)).toArray) (exec_loadR 27 (.tmp 1) rfl c 0 24 _ rfl P3.out.range Tryd.underlying27 rfl infoH) ?_
  simp only [Act.put, List.setIfInBounds_toArray, List.set_cons_zero, List.set_cons_succ]
  refine wpList_call rfl (by simp [go_sem]; exact ⟨rfl, rfl⟩) ?_
  refine (lay_core h w3 hk.out t m N Sm et.out em.out hN hSm).mono ?_
  rintro e w4 ⟨l1, c1, rfl, U4, hX⟩
  refine ⟨_, rfl, ?_⟩
  simp only [Act.put, List.setIfInBounds_toArray, List.set_cons_zero, List.set_cons_succ]
  replace U4 := hideit U4
  have P4 := hideit (P3.out.carry hX)
  have A4 := hideit (A3.out.carry hX)
  have C4 := hideit (C3.out.ext hX)
  have B4 := hideit (B3.out.ext hX)
  have hE4 := hideit (Ext.trans hE3.out hX)
  clear hE3 hX P3 A3 C3 B3
  refine wpList_run rfl (.tuple #[.agg (row 9 (lyv (lzF h Sm t) (.slice (some ⟨l1, 0, none⟩) N c1))).toArray, .int .i64 0]) (by simp [go_sem]) ?_
  simp only [Act.put, List.setIfInBounds_toArray, List.set_cons_zero, List.set_cons_succ]
  refine wpList_run rfl (.agg (row 9 (lyv (lzF h Sm t) (.slice (some ⟨l1, 0, none⟩) N c1))).toArray) (by simp [go_sem]) ?_
  simp only [Act.put, List.setIfInBounds_toArray, List.set_cons_zero, List.set_cons_succ]
  refine wpList_run rfl (.int .i64 0) (by simp [go_sem]) ?_
  simp only [Act.put, List.setIfInBounds_toArray, List.set_cons_zero, List.set_cons_succ]
  obtain ⟨M1, M2, M3⟩ := made34 w4 (lzF h Sm t) (.slice (some ⟨l1, 0, none⟩) N c1)
  replace M1 := hideit M1
  have X5 := hideit M2
  clear M2
  refine wpList_to rfl (.pointer (some ⟨w4.heap.size, 0, none⟩)) (w4.alloc (.cells (row 9 (lyv (fun _ => 0) (.slice none 0 0))).toArray 34)) (exec_alloc 34 _ rfl (zeroL w4)) ?_
  simp only [Act.put, List.setIfInBounds_toArray, List.set_cons_zero, List.set_cons_succ]
  refine wpList_store_mid rfl 34 (.tmp 7) (.tmp 25) rfl w4.heap.size 0 (row 9 (lyv (lzF h Sm t) (.slice (some ⟨l1, 0, none⟩) N c1))).toArray rfl rfl (by rw [row_size]; exact M1.out.there) (by rw [row_size]; exact infoL) (row_one fun j _ => lyv_one _ rfl j) ?_
  rw [show (row 9 (lyv (lzF h Sm t) (.slice (some ⟨l1, 0, none⟩) N c1))).toArray.toList = row 9 (lyv (lzF h Sm t) (.slice (some ⟨l1, 0, none⟩) N c1)) from rfl]
  have P5 := hideit (P4.out.carry M3)
  have A5 := hideit (A4.out.carry M3)
  have U5 := hideit (U4.out.carry M3)
  have C5 := hideit (C4.out.ext M3)
  have B5 := hideit (B4.out.ext M3)
  have hE5 := hideit (Ext.trans hE4.out M3)
  clear hE4 M3 P4 A4 U4 C4 B4
  generalize (w4.alloc (.cells (row 9 (lyv (fun _ => 0) (.slice none 0 0))).toArray 34)).setCells w4.heap.size 0 (row 9 (lyv (lzF h Sm t) (.slice (some ⟨l1, 0, none⟩) N c1))) = w5 at *
  generalize w4.heap.size = x at *
  clear M1
  simp only [Act.put]
  go_upto_region 4 with (fail)
  refine wp_region_lit ?_
  refine wpList_run rfl (.agg (row 24 (hdv h)).toArray) (exec_loadR 27 (.tmp 1) rfl c 0 24 _ rfl P5.out.range Tryd.underlying27 rfl infoH) ?_
  simp only [Act.put, List.setIfInBounds_toArray, List.set_cons_zero, List.set_cons_succ]
  refine wpList_call rfl (by simp [go_sem]; exact ⟨rfl, rfl⟩) ?_
  refine (rlay_core h w5 hk.out t m N Sm et em hN hSm).mono ?_
  rintro e w6 ⟨l2, c2, rfl, V6, hX⟩
  refine ⟨_, rfl, ?_⟩
  simp only [Act.put, List.setIfInBounds_toArray, List.set_cons_zero, List.set_cons_succ]
  replace V6 := hideit V6
  have P6 := hideit (P5.out.carry hX)
  have A6 := hideit (A5.out.carry hX)
  have U6 := hideit (U5.out.carry hX)
  have X6 := hideit (X5.out.carry hX)
  have C6 := hideit (C5.out.ext hX)
  have B6 := hideit (B5.out.ext hX)
  have hE6 := hideit (Ext.trans hE5.out hX)
  clear hE5 hX P5 A5 U5 X5 C5 B5
  refine wpList_run rfl (.tuple #[.agg (row 9 (lyv (lzF h Sm t) (.slice (some ⟨l2, 0, none⟩) N c2))).toArray, .int .i64 0]) (by simp [go_sem]) ?_
  simp only [Act.put, List.setIfInBounds_toArray, List.set_cons_zero, List.set_cons_succ]
  refine wpList_run rfl (.agg (row 9 (lyv (lzF h Sm t) (.slice (some ⟨l2, 0, none⟩) N c2))).toArray) (by simp [go_sem]) ?_
  simp only [Act.put, List.setIfInBounds_toArray, List.set_cons_zero, List.set_cons_succ]
  refine wpList_run rfl (.int .i64 0) (by simp [go_sem]) ?_
  simp only [Act.put, List.setIfInBounds_toArray, List.set_cons_zero, List.set_cons_succ]
  obtain ⟨M1, M2, M3⟩ := made34 w6 (lzF h Sm t) (.slice (some ⟨l2, 0, none⟩) N c2)
  replace M1 := hideit M1
  have Y7 := hideit M2
  clear M2
  refine wpList_to rfl (.pointer (some ⟨w6.heap.size, 0, none⟩)) (w6.alloc (.cells (row 9 (lyv (fun _ => 0) (.slice none 0 0))).toArray 34)) (exec_alloc 34 _ rfl (zeroL w6)) ?_
  simp only [Act.put, List.setIfInBounds_toArray, List.set_cons_zero, List.set_cons_succ]
  refine wpList_store_mid rfl 34 (.tmp 9) (.tmp 30) rfl w6.heap.size 0 (row 9 (lyv (lzF h Sm t) (.slice (some ⟨l2, 0, none⟩) N c2))).toArray rfl rfl (by rw [row_size]; exact M1.out.there) (by rw [row_size]; exact infoL) (row_one fun j _ => lyv_one _ rfl j) ?_
  rw [show (row 9 (lyv (lzF h Sm t) (.slice (some ⟨l2, 0, none⟩) N c2))).toArray.toList = row 9 (lyv (lzF h Sm t) (.slice (some ⟨l2, 0, none⟩) N c2)) from rfl]
  have P7 := hideit (P6.out.carry M3)
  have A7 := hideit (A6.out.carry M3)
  have U7 := hideit (U6.out.carry M3)
  have X7 := hideit (X6.out.carry M3)
  have V7 := hideit (V6.out.carry M3)
  have C7 := hideit (C6.out.ext M3)
  have B7 := hideit (B6.out.ext M3)
  have hE7 := hideit (Ext.trans hE6.out M3)
  clear hE6 M3 P6 A6 U6 X6 V6 C6 B6
  generalize (w6.alloc (.cells (row 9 (lyv (fun _ => 0) (.slice none 0 0))).toArray 34)).setCells w6.heap.size 0 (row 9 (lyv (lzF h Sm t) (.slice (some ⟨l2, 0, none⟩) N c2))) = w7 at *
  generalize w6.heap.size = y at *
  clear M1
  simp only [Act.put]
  go_upto_region 5 with (fail)
  have hD := (Ext.refl w7).draw
  have P8 := hideit (P7.out.carry hD)
  have A8 := hideit (A7.out.carry hD)
  have U8 := hideit (U7.out.carry hD)
  have X8 := hideit (X7.out.carry hD)
  have V8 := hideit (V7.out.carry hD)
  have Y8 := hideit (Y7.out.carry hD)
  have C8 := hideit (C7.out.ext hD)
  have B8 := hideit (B7.out.ext hD)
  have hE8 := hideit (Ext.trans hE7.out hD)
  clear hE7 P7 A7 U7 X7 V7 Y7 C7 B7
  have ca : Hid (∀ X, Ext w7.drew X → (convert 28 9 (.slice (some ⟨ga, 0, none⟩) 512 512)).run Tryd.prog X = .ok (.string (bstr 512 fun j => (((hbF h) j).toNat : Int))) X) := hideit fun X hX => convV _ 512 _ X ((A8.out.carry hX).bv 512 (Nat.le_refl _))
  have cb' : Hid (∀ X, Ext w7.drew X → (convert 28 9 (.slice ob 512 cb)).run Tryd.prog X = .ok (.string (bstr 512 fun j => (((hbF h) j).toNat : Int))) X) := hideit fun X hX => convV _ 512 _ X (B8.out.ext hX)
  generalize (bstr 512 fun j => (((hbF h) j).toNat : Int)) = str at *
  refine wp_region_lad (fun X => Ext w7.drew X) [(true, 0), (false, 1), (false, 2), (false, 3), (false, 4), (false, 5), (false, 6), (false, 7), (false, 8), (false, 9), (false, 10), (false, 11), (false, 12), (false, 13), (false, 14), (false, 15), (false, 16), (true, 17), (false, 18), (false, 19), (false, 20), (false, 21), (false, 22), (false, 23), (false, 24), (false, 25), (false, 26), (false, 28), (true, 27), (true, 29), (false, 30), (false, 31)] (by kernel_rfl) (by kernel_rfl) (by decide +kernel) (by decide +kernel) (by decide +kernel) (by decide +kernel) (Ext.refl _) ?_
  refine wpX_call _ rfl rfl (by simp [go_sem]) ((lives_any w7.drew C8).mono ?_)
  rintro e w9 ⟨rfl, hX9⟩
  refine ⟨_, rfl, fun X => Ext w9 X, fun X hX => Ext.trans hX9 hX, Ext.refl _, ?_⟩
  simp only [List.getElem_toArray, List.getElem_cons_zero, Act.put, List.setIfInBounds_toArray, List.set_cons_zero, List.set_cons_succ]
  refine wpX_f _ (.bool false) rfl rfl (fun X _ => by simp [go_sem]) ?_
  simp only [List.getElem_toArray, List.getElem_cons_zero, List.getElem_cons_succ, Act.put, List.setIfInBounds_toArray, List.set_cons_zero, List.set_cons_succ]
  refine wpX_f _ (.bool false) rfl rfl (fun X _ => by simp [go_sem]) ?_
  simp only [List.getElem_toArray, List.getElem_cons_zero, List.getElem_cons_succ, Act.put, List.setIfInBounds_toArray, List.set_cons_zero, List.set_cons_succ]
  refine wpX_f _ (.slice (some ⟨ga, 0, none⟩) 512 512) rfl rfl (fun X _ => by simp [go_sem]) ?_
  simp only [List.getElem_toArray, List.getElem_cons_zero, List.getElem_cons_succ, Act.put, List.setIfInBounds_toArray, List.set_cons_zero, List.set_cons_succ]
  refine wpX_f _ (.string str) rfl rfl (fun X hX => by have hcv := ca.out X (Ext.trans hX9 hX); simp [go_sem, hcv]) ?_
  simp only [List.getElem_toArray, List.getElem_cons_zero, List.getElem_cons_succ, Act.put, List.setIfInBounds_toArray, List.set_cons_zero, List.set_cons_succ]
  refine wpX_f _ (.slice ob 512 cb) rfl rfl (fun X _ => by simp [go_sem]) ?_
  simp only [List.getElem_toArray, List.getElem_cons_zero, List.getElem_cons_succ, Act.put, List.setIfInBounds_toArray, List.set_cons_zero, List.set_cons_succ]
  refine wpX_f _ (.string str) rfl rfl (fun X hX => by have hcv := cb'.out X (Ext.trans hX9 hX); simp [go_sem, hcv]) ?_
  simp only [List.getElem_toArray, List.getElem_cons_zero, List.getElem_cons_succ, Act.put, List.setIfInBounds_toArray, List.set_cons_zero, List.set_cons_succ]
  refine wpX_f _ (.bool false) rfl rfl (fun X _ => by simp [go_sem]) ?_
  simp only [List.getElem_toArray, List.getElem_cons_zero, List.getElem_cons_succ, Act.put, List.setIfInBounds_toArray, List.set_cons_zero, List.set_cons_succ]
  refine wpX_f _ (.bool false) rfl rfl (fun X _ => by simp [go_sem]) ?_
  simp only [List.getElem_toArray, List.getElem_cons_zero, List.getElem_cons_succ, Act.put, List.setIfInBounds_toArray, List.set_cons_zero, List.set_cons_succ]
  refine wpX_f _ (.bool false) rfl rfl (fun X _ => by simp [go_sem]) ?_
  simp only [List.getElem_toArray, List.getElem_cons_zero, List.getElem_cons_succ, Act.put, List.setIfInBounds_toArray, List.set_cons_zero, List.set_cons_succ]
  refine wpX_f _ (.int .i64 0) rfl rfl (fun X _ => by simp [go_sem]) ?_
  simp only [List.getElem_toArray, List.getElem_cons_zero, List.getElem_cons_succ, Act.put, List.setIfInBounds_toArray, List.set_cons_zero, List.set_cons_succ]
  refine wpX_f _ (.int .i64 0) rfl rfl (fun X _ => by simp [go_sem]) ?_
  simp only [List.getElem_toArray, List.getElem_cons_zero, List.getElem_cons_succ, Act.put, List.setIfInBounds_toArray, List.set_cons_zero, List.set_cons_succ]
  refine wpX_f _ (.bool false) rfl rfl (fun X _ => by simp [go_sem]) ?_
  simp only [List.getElem_toArray, List.getElem_cons_zero, List.getElem_cons_succ, Act.put, List.setIfInBounds_toArray, List.set_cons_zero, List.set_cons_succ]
  refine wpX_f _ (.bool false) rfl rfl (fun X _ => by simp [go_sem]) ?_
  simp only [List.getElem_toArray, List.getElem_cons_zero, List.getElem_cons_succ, Act.put, List.setIfInBounds_toArray, List.set_cons_zero, List.set_cons_succ]
  refine wpX_f _ (.bool false) rfl rfl (fun X _ => by simp [go_sem]) ?_
  simp only [List.getElem_toArray, List.getElem_cons_zero, List.getElem_cons_succ, Act.put, List.setIfInBounds_toArray, List.set_cons_zero, List.set_cons_succ]
  refine wpX_f _ (.agg (row 9 (lyv (lzF h Sm t) (.slice (some ⟨l1, 0, none⟩) N c1))).toArray) rfl rfl (fun X hX => exec_loadR 34 (.tmp 7) rfl x 0 9 _ rfl (X8.out.carry (Ext.trans hX9 hX)).range Tryd.underlying34 rfl infoL) ?_
  simp only [List.getElem_toArray, List.getElem_cons_zero, List.getElem_cons_succ, Act.put, List.setIfInBounds_toArray, List.set_cons_zero, List.set_cons_succ]
  refine wpX_f _ (.agg (row 9 (lyv (lzF h Sm t) (.slice (some ⟨l2, 0, none⟩) N c2))).toArray) rfl rfl (fun X hX => exec_loadR 34 (.tmp 9) rfl y 0 9 _ rfl (Y8.out.carry (Ext.trans hX9 hX)).range Tryd.underlying34 rfl infoL) ?_
  simp only [List.getElem_toArray, List.getElem_cons_zero, List.getElem_cons_succ, Act.put, List.setIfInBounds_toArray, List.set_cons_zero, List.set_cons_succ]
  refine wpX_call _ rfl rfl (by simp [go_sem]) ((same_any (lzF h Sm t) (some ⟨l1, 0, none⟩) (some ⟨l2, 0, none⟩) N c1 c2 (fun j => if j = 0 then (m : Int) else 1) w9 (hideit fun j hj => ⟨_, rfl, (U8.out.carry hX9).2.2, ((U8.out.carry hX9).lie N (Nat.le_refl _)).1 j hj |>.trans (lv_int m j)⟩) (hideit fun j hj => ⟨_, rfl, (V8.out.carry hX9).2.2, ((V8.out.carry hX9).lie N (Nat.le_refl _)).1 j hj |>.trans (lv_int m j)⟩) (by rw [hN.out]; split <;> decide)).mono ?_)
  rintro e w10 ⟨rfl, hX10⟩
  have hY10 := Ext.trans hX9 hX10
  refine ⟨_, rfl, fun X => Ext w10 X, fun X hX => Ext.trans hX10 hX, Ext.refl _, ?_⟩
  simp only [List.getElem_toArray, List.getElem_cons_zero, List.getElem_cons_succ, Act.put, List.setIfInBounds_toArray, List.set_cons_zero, List.set_cons_succ]
  refine wpX_f _ (.bool false) rfl rfl (fun X _ => by simp [go_sem]) ?_
  simp only [List.getElem_toArray, List.getElem_cons_zero, List.getElem_cons_succ, Act.put, List.setIfInBounds_toArray, List.set_cons_zero, List.set_cons_succ]
  refine wpX_f _ (.bool false) rfl rfl (fun X _ => by simp [go_sem]) ?_
  simp only [List.getElem_toArray, List.getElem_cons_zero, List.getElem_cons_succ, Act.put, List.setIfInBounds_toArray, List.set_cons_zero, List.set_cons_succ]
  refine wpX_f _ (.bool false) rfl rfl (fun X _ => by simp [go_sem]) ?_
  simp only [List.getElem_toArray, List.getElem_cons_zero, List.getElem_cons_succ, Act.put, List.setIfInBounds_toArray, List.set_cons_zero, List.set_cons_succ]
  refine wpX_f _ (.int .i64 0) rfl rfl (fun X _ => by simp [go_sem]) ?_
  simp only [List.getElem_toArray, List.getElem_cons_zero, List.getElem_cons_succ, Act.put, List.setIfInBounds_toArray, List.set_cons_zero, List.set_cons_succ]
  refine wpX_f _ (.int .i64 0) rfl rfl (fun X _ => by simp [go_sem]) ?_
  simp only [List.getElem_toArray, List.getElem_cons_zero, List.getElem_cons_succ, Act.put, List.setIfInBounds_toArray, List.set_cons_zero, List.set_cons_succ]
  refine wpX_f _ (.bool false) rfl rfl (fun X _ => by simp [go_sem]) ?_
  simp only [List.getElem_toArray, List.getElem_cons_zero, List.getElem_cons_succ, Act.put, List.setIfInBounds_toArray, List.set_cons_zero, List.set_cons_succ]
  refine wpX_f _ (.bool false) rfl rfl (fun X _ => by simp [go_sem]) ?_
  simp only [List.getElem_toArray, List.getElem_cons_zero, List.getElem_cons_succ, Act.put, List.setIfInBounds_toArray, List.set_cons_zero, List.set_cons_succ]
  refine wpX_f _ (.bool false) rfl rfl (fun X _ => by simp [go_sem]) ?_
  simp only [List.getElem_toArray, List.getElem_cons_zero, List.getElem_cons_succ, Act.put, List.setIfInBounds_toArray, List.set_cons_zero, List.set_cons_succ]
  refine wpX_f _ (.agg (row 24 (hdv h)).toArray) rfl rfl (fun X hX => exec_loadR 27 (.tmp 1) rfl c 0 24 _ rfl (P8.out.carry (Ext.trans hY10 hX)).range Tryd.underlying27 rfl infoH) ?_
  simp only [List.getElem_toArray, List.getElem_cons_zero, List.getElem_cons_succ, Act.put, List.setIfInBounds_toArray, List.set_cons_zero, List.set_cons_succ]
  refine wpX_f _ (.agg (row 24 (hdv h)).toArray) rfl rfl (fun X hX => exec_loadR 27 (.tmp 1) rfl c 0 24 _ rfl (P8.out.carry (Ext.trans hY10 hX)).range Tryd.underlying27 rfl infoH) ?_
  simp only [List.getElem_toArray, List.getElem_cons_zero, List.getElem_cons_succ, Act.put, List.setIfInBounds_toArray, List.set_cons_zero, List.set_cons_succ]
  refine wpX_call _ rfl rfl (by simp [go_sem]) ((check_ok h w10 hk.out).mono ?_)
  rintro e w11 ⟨rfl, hX11⟩
  refine ⟨_, rfl, fun X => Ext w11 X, fun X hX => Ext.trans hX11 hX, Ext.refl _, ?_⟩
  simp only [List.getElem_toArray, List.getElem_cons_zero, List.getElem_cons_succ, Act.put, List.setIfInBounds_toArray, List.set_cons_zero, List.set_cons_succ]
  refine wpX_call _ rfl rfl (by simp [go_sem]) ((rcheck_ok h w11 hk.out).mono ?_)
  rintro e w12 ⟨rfl, hX12⟩
  refine ⟨_, rfl, fun X => Ext w12 X, fun X hX => Ext.trans hX12 hX, Ext.refl _, ?_⟩
  simp only [List.getElem_toArray, List.getElem_cons_zero, List.getElem_cons_succ, Act.put, List.setIfInBounds_toArray, List.set_cons_zero, List.set_cons_succ]
  refine wpX_f _ (.bool false) rfl rfl (fun X _ => by simp [go_sem]) ?_
  simp only [List.getElem_toArray, List.getElem_cons_zero, List.getElem_cons_succ, Act.put, List.setIfInBounds_toArray, List.set_cons_zero, List.set_cons_succ]
  refine wpX_f _ (.bool false) rfl rfl (fun X _ => by simp [go_sem]) ?_
  simp only [List.getElem_toArray, List.getElem_cons_zero, List.getElem_cons_succ, Act.put, List.setIfInBounds_toArray, List.set_cons_zero, List.set_cons_succ]
  refine wpX_nil ?_
  have hZ := Ext.trans (Ext.trans hY10 hX11) hX12
  clear hX9 hX10 hX11 hX12 hY10 ca cb'
  have P12 := hideit (P8.out.carry hZ)
  have A12 := hideit (A8.out.carry hZ)
  have C12 := hideit (C8.out.ext hZ)
  have hE12 := hideit (Ext.trans hE8.out hZ)
  clear hZ hE8 P8 A8 U8 X8 V8 Y8 C8 B8
  go_upto_region 9 with (fail)
  refine wp_region_lit ?_
  refine wpList_run rfl (.slice (some ⟨ga, 0, none⟩) 512 512) (by simp [go_sem]) ?_
  simp only [Act.put, List.setIfInBounds_toArray, List.set_cons_zero, List.set_cons_succ]
  refine wpList_call rfl (by simp [go_sem]; exact ⟨rfl, rfl⟩) ?_
  refine (dec_back (.slice (some ⟨ga, 0, none⟩) 512 512) h w12 (A12.out.bv 512 (Nat.le_refl _)) C12.out hk.out).mono ?_
  rintro e w13 ⟨rfl, hX⟩
  refine ⟨_, rfl, ?_⟩
  simp only [Act.put, List.setIfInBounds_toArray, List.set_cons_zero, List.set_cons_succ]
  have P13 := hideit (P12.out.carry hX)
  have A13 := hideit (A12.out.carry hX)
  have C13 := hideit (C12.out.ext hX)
  have hE13 := hideit (Ext.trans hE12.out hX)
  clear hE12 hX P12 A12 C12
  refine wpList_run rfl (.tuple #[.agg (row 24 (hdv h)).toArray, .int .i64 0]) (by simp [go_sem]) ?_
  simp only [Act.put, List.setIfInBounds_toArray, List.set_cons_zero, List.set_cons_succ]
  refine wpList_run rfl (.agg (row 24 (hdv h)).toArray) (by simp [go_sem]) ?_
  simp only [Act.put, List.setIfInBounds_toArray, List.set_cons_zero, List.set_cons_succ]
  refine wpList_run rfl (.int .i64 0) (by simp [go_sem]) ?_
  simp only [Act.put, List.setIfInBounds_toArray, List.set_cons_zero, List.set_cons_succ]
  obtain ⟨M1, M2, M3⟩ := made27 w13 h
  replace M1 := hideit M1
  have D14 := hideit M2
  clear M2
  refine wpList_to rfl (.pointer (some ⟨w13.heap.size, 0, none⟩)) (w13.alloc (.cells (row 24 (hdv zH)).toArray 27)) (exec_alloc 27 _ rfl (zeroH w13)) ?_
  simp only [Act.put, List.setIfInBounds_toArray, List.set_cons_zero, List.set_cons_succ]
  refine wpList_store_mid rfl 27 (.tmp 11) (.tmp 69) rfl w13.heap.size 0 (row 24 (hdv h)).toArray rfl rfl (by rw [row_size]; exact M1.out.there) (by rw [row_size]; exact infoH) (row_one fun j _ => hdv_one _ j) ?_
  rw [show (row 24 (hdv h)).toArray.toList = row 24 (hdv h) from rfl]
  have P14 := hideit (P13.out.carry M3)
  have A14 := hideit (A13.out.carry M3)
  have C14 := hideit (C13.out.ext M3)
  have hE14 := hideit (Ext.trans hE13.out M3)
  clear hE13 M3 P13 A13 C13
  generalize (w13.alloc (.cells (row 24 (hdv zH)).toArray 27)).setCells w13.heap.size 0 (row 24 (hdv h)) = w14 at *
  generalize w13.heap.size = d at *
  clear M1
  simp only [Act.put]
  go_upto_region 10 with (fail)
  refine wp_region_lit ?_
  refine wpList_run rfl (.int .i64 0) (by simp [go_sem]) ?_
  simp only [Act.put, List.setIfInBounds_toArray, List.set_cons_zero, List.set_cons_succ]
  refine wpList_run rfl (.bool true) (by simp [go_sem]) ?_
  simp only [Act.put, List.setIfInBounds_toArray, List.set_cons_zero, List.set_cons_succ]
  refine wpList_run rfl (.bool true) (by simp [go_sem]) ?_
  simp only [Act.put, List.setIfInBounds_toArray, List.set_cons_zero, List.set_cons_succ]
  refine wpList_runW rfl (.agg (row 24 (hdv h)).toArray) (exec_loadR 27 (.tmp 11) rfl d 0 24 _ rfl D14.out.range Tryd.underlying27 rfl infoH) ?_
  simp only [Act.put, List.setIfInBounds_toArray, List.set_cons_zero, List.set_cons_succ]
  refine wpList_runW rfl (.agg (row 24 (hdv h)).toArray) (exec_loadR 27 (.tmp 1) rfl c 0 24 _ rfl P14.out.range Tryd.underlying27 rfl infoH) ?_
  simp only [Act.put, List.setIfInBounds_toArray, List.set_cons_zero, List.set_cons_succ]
  refine wpList_runW rfl (.bool true) (exec_cmp .eql 27 27 (.tmp 74) (.tmp 75) rfl _ _ rfl rfl (by kernel_rfl) true (eqlH h _)) ?_
  simp only [Act.put, List.setIfInBounds_toArray, List.set_cons_zero, List.set_cons_succ]
  refine wpList_run rfl (.bool true) (by simp [go_sem]) ?_
  simp only [Act.put, List.setIfInBounds_toArray, List.set_cons_zero, List.set_cons_succ]
  clear P14 A14 C14 D14
  go_wp2
  go_ret
  exact ⟨rfl, hE14.out⟩
theorem walk (h : Hd) (w : World) (hC : TabC w) : Calls Tryd.prog 3 #[.agg (row 24 (hdv h)).toArray] w fun e w' => e = .returned (.bool true) ∧ Below w.heap.size w w' := by
  by_cases hk : okH h
  · exact walk_ok h w hC hk _ _ _ _ rfl rfl rfl rfl
  · exact walk_no h w hC hk

theorem contract (H : Type) (enc : TypeId × Value → H) (W : World) (base : Nat) (args : Array Value) (ds gs : List (DataW H)) (before : List MemPlace)
    (hval0 : ∀ (j : Nat) t v, Tryd.f3.params[j]? = some t → args[j]? = some v → Value.okWide Tryd.prog W .any base t v)
    (hW : DataW.Whole enc Tryd.prog Tryd.f3.params.toList Rows.headEncodesSpec.vars false W args.toList ds gs before) (hL : laidMetH Tryd.prog Rows.headEncodesRow.laid W) :
    Calls Tryd.prog 3 args W fun e W' => ∃ v, e = .returned v ∧ Rows.headEncodesSpec.post enc Tryd.prog Tryd.f3 false true false false W args v W' := by
  have hval := hval0
  have hW' := hW
  obtain ⟨p, q, hA0, hV, rfl, hfz, hnd⟩ := hW
  have hA : DataW.TrodAll enc Tryd.prog W 0 (fun _ => true) true Tryd.f3.params.toList args.toList ds p := hA0
  rw [Tryd.params3] at hA hval
  obtain ⟨v0, vs0, d0, ds0, p0, q0, hargs, rfl, rfl, h0, r0⟩ := trodAll_cons hA
  obtain ⟨rfl, rfl, rfl⟩ := trodAll_nil r0
  obtain rfl : args = #[v0] := by cases args; simp_all
  obtain ⟨rfl, rfl⟩ := trodVars_none hV
  have h0s : 0 < W.heap.size := by
    have hc := (table hL).cell gTab 0 (by decide)
    rcases Nat.lt_or_ge 0 W.heap.size with h | h
    · exact h
    · exfalso
      have : W.heap[0]? = none := Array.getElem?_eq_none h
      simp [World.cell?, this] at hc
  have hC : TabC W := tabC hL h0s
  have k0 := h0
  have lt0 : ∀ x ∈ p0, x.block < W.heap.size := by obtain ⟨m, hm⟩ := k0; exact DataW.trod_lt m _ _ _ hm
  obtain ⟨k0h, rfl⟩ := open_head (hval 0 27 v0 rfl rfl) h0
  clear hA0 hval0
  refine (walk k0h W  hC).mono fun e W' ⟨he, bel⟩ => ?_
  subst he
  exact ⟨_, rfl, _, _, _, [], _, [], hW', trodAll_mk1 (shut_bool Tryd.underlying4 _), (trodAll_cons_mk (Below.trod laidOut (by kernel_rfl) (of_decide_eq_true (by kernel_rfl)) k0 bel lt0) trodAll_mk0), rfl, bel.frame _, fun h => by cases h⟩

def wit : Array Value := #[.agg #[.int .u64 0, .int .i64 0, .int .i64 0, .int .i64 0, .int .i64 0, .int .i64 0, .int .i64 0, .int .i64 0, .int .u8 0, .int .u8 0, .int .u8 0, .int .u8 0, .int .u8 0, .int .u8 0, .int .u8 0, .int .u8 0, .int .u8 0, .int .u8 0, .int .u8 0, .int .u8 0, .int .u8 0, .int .u8 0, .int .u8 0, .int .u8 0]]
def dat {H : Type} : List (DataW H) := [.agg [.lit (.int .u64 0), .lit (.int .i64 0), .lit (.int .i64 0), .lit (.int .i64 0), .lit (.int .i64 0), .agg [.lit (.int .i64 0), .lit (.int .i64 0), .lit (.int .i64 0)], .agg (List.replicate 16 (.lit (.int .u8 0)))]]
def setTab : Obj → Obj
  | .cells _ t frozen => .cells (tabL.map fun z => Value.int .u32 z).toArray t frozen
  | o => o
theorem laid_met (os : Os) : laidMet Tryd.prog Rows.headEncodesRow.laid (({ World.holding Tryd.prog os ⟨#[], #[], []⟩ with heap := (World.holding Tryd.prog os ⟨#[], #[], []⟩).heap.modify 0 setTab } : World).forCall (fun _ _ => 0) ⟨#[], wit, []⟩).memory :=
  laidMet_of_run' 8 (by kernel_rfl) (by kernel_rfl)
theorem reads (os : Os) {H : Type} (enc : TypeId × Value → H) : ∃ places, DataW.whole enc Tryd.prog (({ World.holding Tryd.prog os ⟨#[], #[], []⟩ with heap := (World.holding Tryd.prog os ⟨#[], #[], []⟩).heap.modify 0 setTab } : World).forCall (fun _ _ => 0) ⟨#[], wit, []⟩).memory Tryd.f3.params.toList Rows.headEncodesSpec.vars false wit.toList 8 = some (dat, [], places) :=
  ⟨[], by kernel_rfl⟩

set_option maxRecDepth 100000 in
theorem lifted (os : Os) (started : os.Started) (H : Type) (enc : TypeId × Value → H) (F : Stop.Interp) :
    ReturnsInHanded {} Tryd.checked os 3 .any ((OpenSpec.ofChange Rows.headEncodesSpec).preRow enc Tryd.prog Tryd.f3 Rows.headEncodesRow.domain false Rows.headEncodesRow.laid) (((OpenSpec.ofChange Rows.headEncodesSpec).at F).post enc Tryd.prog Tryd.f3 false true false false) := by
  obtain ⟨places, hx⟩ := reads os enc
  refine returnsInHanded_of_row (C := Tryd.checked) (s := (OpenSpec.ofChange Rows.headEncodesSpec)) own started (by kernel_rfl) Tryd.func3
    (witness_row_at (enc := enc) (C := Tryd.checked) false ({ World.holding Tryd.prog os ⟨#[], #[], []⟩ with heap := (World.holding Tryd.prog os ⟨#[], #[], []⟩).heap.modify 0 setTab } : World) wit rfl (by kernel_rfl) (by kernel_rfl) (by kernel_rfl)
      (OpenSpec.preRow_of_cond 8 hx (by kernel_rfl) (fun k hk => by cases hk) (by kernel_rfl) (laid_met os))) ?_
  intro W base args ds gs before hval hW _ hcond hsz hL _ _
  exact contract H enc W base args ds gs before hval hW hL

theorem said : Rows.HeadEncodesSaid :=
  OpenClaim.holds_of_cond 3 Tryd.f3 rfl rfl rfl rfl rfl rfl rfl ⟨rfl, rfl, rfl, rfl, rfl⟩ rfl rfl rfl rfl rfl (by kernel_rfl) Tryd.func3 (by kernel_rfl)
    (of_decide_eq_true (by kernel_rfl)) (by unfold Func.isWrapper; first | (rw [if_pos (by decide +kernel)]; kernel_rfl) | (rw [if_neg (by decide +kernel)]; exact ⟨rfl, rfl⟩))
    (fun os started H enc _ F => by rw [OpenClaim.pre_eq_preRow]; exact lifted os started H enc F)

theorem plain (f : FuncId) (fn : Func) (hf : Tryd.pinned.checked.prog.funcNamed "casket/casketlaw11.HeadEncodes" = some f) (hfn : Tryd.pinned.checked.prog.funcs[f]? = some fn) :
    false = Tryd.pinned.checked.prog.looks [] ∧ ∀ (j : Nat) t, fn.params[j]? = some t → Tryd.pinned.checked.prog.wantsStandIn t = false := by
  obtain rfl : f = 3 := Option.some.inj ((show Tryd.prog.funcNamed "casket/casketlaw11.HeadEncodes" = some 3 by kernel_rfl).symm.trans hf) |>.symm
  obtain rfl : fn = Tryd.f3 := (Option.some.inj (Tryd.func3.symm.trans hfn)).symm
  refine ⟨by kernel_rfl, fun j t ht => ?_⟩
  rw [Tryd.params3] at ht
  have hm : t ∈ [27] := by simpa using Array.mem_of_getElem? ht
  have hall : ([27].all fun u => !Tryd.prog.wantsStandIn u) = true := by kernel_rfl
  exact (show Tryd.prog.wantsStandIn t = false by simpa using List.all_eq_true.1 hall t hm)

theorem card : Rows.HeadEncodesCardSaid :=
  Claim7.holds_tied_plain_at .later [] _ _ _ _ said (fun _ h => by cases h) (by kernel_rfl) (fun _ h => by cases h) headEncodes_row_tie rfl ⟨rfl, rfl⟩ (by kernel_rfl) rfl plain (by kernel_rfl)
end Go.Proofs.YtenlokmoijeehaaDoor.headEncodes
namespace Go.Proofs.YtenlokmoijeehaaDoor
theorem headEncodes_holds : Rows.HeadEncodesCardSaid := headEncodes.card
end Go.Proofs.YtenlokmoijeehaaDoor
