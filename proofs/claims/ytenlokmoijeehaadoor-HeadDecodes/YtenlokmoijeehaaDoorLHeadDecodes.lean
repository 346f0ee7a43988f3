/-
  For every slice of bytes, nil or not, the law HeadDecodes returns true, and its argument reads behind the call as it read before; the package-level table of constants is laid as the program text lays it. No other condition.
-/
import Derived.Test.YtenlokmoijeehaaDoorCards
import Derived.Test.YtenlokmoijeehaaDoorTie
import Derived.WalkKit
import Derived.ProofKit
import Derived.OpenShut
import Derived.ShutString
import Derived.ChangeOld
import Derived.Below
import Derived.Deep.DeepHandedRow
import Derived.Lib.LaidTab
import Derived.Test.YtenlokmoijeehaaDoorGw
import Derived.Test.YtenlokmoijeehaaDoorGu
namespace Go.Proofs.YtenlokmoijeehaaDoor.headDecodes
open Go.ChangeShapes Go.WideShapes Go.ChangeAt Go.RowKit
set_option linter.unusedVariables false

theorem own : ownKnob Tryd.prog.godebug = none := by kernel_rfl
theorem laidOut : laidOutB Tryd.prog = true := by kernel_rfl
theorem gTab : Tryd.prog.globalNamed "casket/sha.constants" = some 0 := by kernel_rfl
theorem gTabType : (Tryd.prog.globals[0]?).map (·.type) = some 95 := by kernel_rfl
theorem cellsG : Tryd.prog.cellsOf 95 = 64 := by kernel_rfl
theorem cellsE : Tryd.prog.cellsOf 79 = 1 := by kernel_rfl
def tabL : List Int := [1116352408, 1899447441, 3049323471, 3921009573, 961987163, 1508970993, 2453635748, 2870763221, 3624381080, 310598401, 607225278, 1426881987, 1925078388, 2162078206, 2614888103, 3248222580, 3835390401, 4022224774, 264347078, 604807628, 770255983, 1249150122, 1555081692, 1996064986, 2554220882, 2821834349, 2952996808, 3210313671, 3336571891, 3584528711, 113926993, 338241895, 666307205, 773529912, 1294757372, 1396182291, 1695183700, 1986661051, 2177026350, 2456956037, 2730485921, 2820302411, 3259730800, 3345764771, 3516065817, 3600352804, 4094571909, 275423344, 430227734, 506948616, 659060556, 883997877, 958139571, 1322822218, 1537002063, 1747873779, 1955562222, 2024104815, 2227730452, 2361852424, 2428436474, 2756734187, 3204031479, 3329325298]
theorem table {W : World} (h : laidMetH Tryd.prog Rows.headDecodesRow.laid W) : Lib.TabIs Tryd.prog W "casket/sha.constants" .u32 tabL :=
  Lib.tabIs_of_head (rest := []) gTab gTabType Tryd.underlying95 Tryd.underlying79 cellsE cellsG h
theorem tab_kT : ∀ j, j < 64 → tabL.getD j 0 = ((kT j).toNat : Int) := by decide +kernel
theorem tabC {W : World} (h : laidMetH Tryd.prog Rows.headDecodesRow.laid W) (h0 : 0 < W.heap.size) : TabC W :=
  ⟨fun j hj => by
    rw [← tab_kT j hj]
    exact (table h).cell gTab j hj, h0⟩

open Go.BigFrame
theorem barg_bv2 {v : Value} {W : World} (h : BArg v W) : ∃ l b, BV v l b W ∧ l ≤ 140737488351232 := by
  rcases h with rfl | ⟨a, l, cap, b, rfl, h1, h2, h3⟩
  · exact ⟨0, fun _ => 0#8, .inl ⟨rfl, rfl⟩, by decide⟩
  · exact ⟨l, b, .inr ⟨a, cap, rfl, h1, h2⟩, h3⟩
set_option maxRecDepth 20000 in
set_option maxHeartbeats 2000000 in
theorem walk_core (v0 : Value) (l : Nat) (b : Nat → BitVec 8) (H : Hd) (E : Int) (w : World) (hC : Hid (TabC w)) (hB : Hid (BV v0 l b w)) (hl : l ≤ 140737488351232)
    (k : Hid (∀ v X, BV v l b X → TabC X → Calls Tryd.prog 16 #[v] X fun e w' => e = .returned (.tuple #[.agg (row 24 (hdv H)).toArray, .int .i64 E]) ∧ Ext X w'))
    (r : Hid (∀ v X, BV v l b X → Calls Tryd.prog 17 #[v] X fun e w' => e = .returned (.tuple #[.agg (row 24 (hdv H)).toArray, .int .i64 E]) ∧ Ext X w'))
    (hD : Hid (E = 0 → l = 512 ∧ okH H ∧ ∀ j, j < 512 → hbF H j = b j)) :
    Calls Tryd.prog 4 #[v0] w fun e w' => e = .returned (.bool true) ∧ Below w.heap.size w w' := by
  obtain ⟨oa, cp, rfl⟩ := hB.out.form
  have O1 := hideit (own_empty w w.heap.size 5 (yv b) (Nat.le_refl _))
  have hE1 := hideit ((Below.refl w.heap.size w).alloc (Nat.le_refl _) (.cells #[] 5))
  go_enter Tryd.func4, Tryd.ntmps4
  go_upto_region 1 with (fail)
  refine wp_region_lit ?_
  refine wpList_to rfl (.slice (some ⟨w.heap.size, 0, none⟩) 0 0) (w.alloc (.cells #[] 5)) (by simp [go_sem]) ?_
  simp only [Act.put, List.setIfInBounds_toArray, List.set_cons_zero, List.set_cons_succ]
  refine wpList_run rfl (.slice oa l cp) (by simp [go_sem]) ?_
  simp only [Act.put, List.setIfInBounds_toArray, List.set_cons_zero, List.set_cons_succ]
  refine wpList_growV (n := 0) (base := w.heap.size) elem22 rfl (.tmp 9) (.tmp 10) rfl rfl O1.out (.slice oa l cp) l b (yv b) rfl (hB.out.ext hE1.out) (fun j hj => absurd hj (by omega)) (fun j hj => by rw [Nat.zero_add]) (by omega) (Below.size hE1.out) ?_
  intro vo w1 hO hg
  have hX : Ext w w1 := Below.trans hE1.out (below_grown (Below.size hE1.out) hg fun k hk => (O1.out.lt k hk).1)
  have V1 : Hid (BV vo l b w1) := by rw [Nat.zero_add] at hO; exact hO.bv
  have B1 := hideit (hB.out.ext hX)
  have C1 := hideit (hC.out.ext hX)
  replace hE1 := hideit hX
  clear O1 hO hg hX hB hC
  obtain ⟨ob, cb, rfl⟩ := V1.out.form
  simp only [Act.put, List.setIfInBounds_toArray, List.set_cons_zero, List.set_cons_succ]
  go_upto_region 2 with (fail)
  refine wp_region_lit ?_
  refine wpList_run rfl (.slice ob l cb) (by simp [go_sem]) ?_
  simp only [Act.put, List.setIfInBounds_toArray, List.set_cons_zero, List.set_cons_succ]
  refine wpList_call rfl (by simp [go_sem]; exact ⟨rfl, rfl⟩) ?_
  refine (k.out _ w1 V1.out C1.out).mono ?_
  rintro e w2 ⟨rfl, hX⟩
  refine ⟨_, rfl, ?_⟩
  simp only [Act.put, List.setIfInBounds_toArray, List.set_cons_zero, List.set_cons_succ]
  have V2 := hideit (V1.out.ext hX)
  have B2 := hideit (B1.out.ext hX)
  have C2 := hideit (C1.out.ext hX)
  have hE2 := hideit (Ext.trans hE1.out hX)
  clear hE1 hX V1 B1 C1
  refine wpList_run rfl (.tuple #[.agg (row 24 (hdv H)).toArray, .int .i64 E]) (by simp [go_sem]) ?_
  simp only [Act.put, List.setIfInBounds_toArray, List.set_cons_zero, List.set_cons_succ]
  refine wpList_run rfl (.agg (row 24 (hdv H)).toArray) (by simp [go_sem]) ?_
  simp only [Act.put, List.setIfInBounds_toArray, List.set_cons_zero, List.set_cons_succ]
  refine wpList_run rfl (.int .i64 E) (by simp [go_sem]) ?_
  simp only [Act.put, List.setIfInBounds_toArray, List.set_cons_zero, List.set_cons_succ]
  obtain ⟨M1, M2, M3⟩ := made27 w2 H
  replace M1 := hideit M1
  have X3 := hideit M2
  clear M2
  refine wpList_to rfl (.pointer (some ⟨w2.heap.size, 0, none⟩)) (w2.alloc (.cells (row 24 (hdv zH)).toArray 27)) (exec_alloc 27 _ rfl (zeroH w2)) ?_
  simp only [Act.put, List.setIfInBounds_toArray, List.set_cons_zero, List.set_cons_succ]
  refine wpList_store_mid rfl 27 (.tmp 4) (.tmp 15) rfl w2.heap.size 0 (row 24 (hdv H)).toArray rfl rfl (by rw [row_size]; exact M1.out.there) (by rw [row_size]; exact infoH) (row_one fun j _ => hdv_one _ j) ?_
  rw [show (row 24 (hdv H)).toArray.toList = row 24 (hdv H) from rfl]
  have V3 := hideit (V2.out.ext M3)
  have B3 := hideit (B2.out.ext M3)
  have C3 := hideit (C2.out.ext M3)
  have hE3 := hideit (Ext.trans hE2.out M3)
  clear hE2 M3 V2 B2 C2
  generalize (w2.alloc (.cells (row 24 (hdv zH)).toArray 27)).setCells w2.heap.size 0 (row 24 (hdv H)) = w3 at *
  generalize w2.heap.size = x at *
  clear M1
  simp only [Act.put]
  go_upto_region 3 with (fail)
  refine wp_region_lit ?_
  refine wpList_run rfl (.slice oa l cp) (by simp [go_sem]) ?_
  simp only [Act.put, List.setIfInBounds_toArray, List.set_cons_zero, List.set_cons_succ]
  refine wpList_call rfl (by simp [go_sem]; exact ⟨rfl, rfl⟩) ?_
  refine (r.out _ w3 B3.out).mono ?_
  rintro e w4 ⟨rfl, hX⟩
  refine ⟨_, rfl, ?_⟩
  simp only [Act.put, List.setIfInBounds_toArray, List.set_cons_zero, List.set_cons_succ]
  have X4 := hideit (X3.out.carry hX)
  have V4 := hideit (V3.out.ext hX)
  have B4 := hideit (B3.out.ext hX)
  have C4 := hideit (C3.out.ext hX)
  have hE4 := hideit (Ext.trans hE3.out hX)
  clear hE3 hX X3 V3 B3 C3
  refine wpList_run rfl (.tuple #[.agg (row 24 (hdv H)).toArray, .int .i64 E]) (by simp [go_sem]) ?_
  simp only [Act.put, List.setIfInBounds_toArray, List.set_cons_zero, List.set_cons_succ]
  refine wpList_run rfl (.agg (row 24 (hdv H)).toArray) (by simp [go_sem]) ?_
  simp only [Act.put, List.setIfInBounds_toArray, List.set_cons_zero, List.set_cons_succ]
  refine wpList_run rfl (.int .i64 E) (by simp [go_sem]) ?_
  simp only [Act.put, List.setIfInBounds_toArray, List.set_cons_zero, List.set_cons_succ]
  obtain ⟨M1, M2, M3⟩ := made27 w4 H
  replace M1 := hideit M1
  have Y5 := hideit M2
  clear M2
  refine wpList_to rfl (.pointer (some ⟨w4.heap.size, 0, none⟩)) (w4.alloc (.cells (row 24 (hdv zH)).toArray 27)) (exec_alloc 27 _ rfl (zeroH w4)) ?_
  simp only [Act.put, List.setIfInBounds_toArray, List.set_cons_zero, List.set_cons_succ]
  refine wpList_store_mid rfl 27 (.tmp 6) (.tmp 20) rfl w4.heap.size 0 (row 24 (hdv H)).toArray rfl rfl (by rw [row_size]; exact M1.out.there) (by rw [row_size]; exact infoH) (row_one fun j _ => hdv_one _ j) ?_
  rw [show (row 24 (hdv H)).toArray.toList = row 24 (hdv H) from rfl]
  have X5 := hideit (X4.out.carry M3)
  have V5 := hideit (V4.out.ext M3)
  have B5 := hideit (B4.out.ext M3)
  have C5 := hideit (C4.out.ext M3)
  have hE5 := hideit (Ext.trans hE4.out M3)
  clear hE4 M3 X4 V4 B4 C4
  generalize (w4.alloc (.cells (row 24 (hdv zH)).toArray 27)).setCells w4.heap.size 0 (row 24 (hdv H)) = w5 at *
  generalize w4.heap.size = y at *
  clear M1
  simp only [Act.put]
  go_upto_region 4 with (fail)
  refine wp_region_lit ?_
  refine wpList_call rfl (by simp [go_sem]; exact ⟨rfl, rfl⟩) ?_
  refine (lives_any w5 C5).mono ?_
  rintro e w6 ⟨rfl, hX⟩
  refine ⟨_, rfl, ?_⟩
  simp only [Act.put, List.setIfInBounds_toArray, List.set_cons_zero, List.set_cons_succ]
  have X6 := hideit (X5.out.carry hX)
  have Y6 := hideit (Y5.out.carry hX)
  have V6 := hideit (V5.out.ext hX)
  have B6 := hideit (B5.out.ext hX)
  have C6 := hideit (C5.out.ext hX)
  have hE6 := hideit (Ext.trans hE5.out hX)
  clear hE5 hX X5 Y5 V5 B5 C5
  have hc1 := convV _ l b w6 V6.out
  have hc2 := convV _ l b w6 B6.out
  obtain ⟨s1, hs1⟩ : ∃ s1, s1 = bstr l (fun j => ((b j).toNat : Int)) := ⟨_, rfl⟩
  rw [← hs1] at hc1 hc2
  refine wpList_run rfl (.bool false) (by simp [go_sem]) ?_
  simp only [Act.put, List.setIfInBounds_toArray, List.set_cons_zero, List.set_cons_succ]
  refine wpList_run rfl (.bool false) (by simp [go_sem]) ?_
  simp only [Act.put, List.setIfInBounds_toArray, List.set_cons_zero, List.set_cons_succ]
  refine wpList_runW rfl (.agg (row 24 (hdv H)).toArray) (exec_loadR 27 (.tmp 4) rfl x 0 24 _ rfl X6.out.range Tryd.underlying27 rfl infoH) ?_
  simp only [Act.put, List.setIfInBounds_toArray, List.set_cons_zero, List.set_cons_succ]
  refine wpList_runW rfl (.agg (row 24 (hdv H)).toArray) (exec_loadR 27 (.tmp 6) rfl y 0 24 _ rfl Y6.out.range Tryd.underlying27 rfl infoH) ?_
  simp only [Act.put, List.setIfInBounds_toArray, List.set_cons_zero, List.set_cons_succ]
  refine wpList_runW rfl (.bool false) (exec_cmp .neq 27 27 (.tmp 25) (.tmp 26) rfl _ _ rfl rfl (by kernel_rfl) false (neqH H _)) ?_
  simp only [Act.put, List.setIfInBounds_toArray, List.set_cons_zero, List.set_cons_succ]
  refine wpList_run rfl (.bool false) (by simp [go_sem]) ?_
  simp only [Act.put, List.setIfInBounds_toArray, List.set_cons_zero, List.set_cons_succ]
  refine wpList_run rfl (.bool false) (by simp [go_sem]) ?_
  simp only [Act.put, List.setIfInBounds_toArray, List.set_cons_zero, List.set_cons_succ]
  refine wpList_runW rfl (.int .i64 E) (by simp [go_sem]) ?_
  simp only [Act.put, List.setIfInBounds_toArray, List.set_cons_zero, List.set_cons_succ]
  refine wpList_runW rfl (.int .i64 E) (by simp [go_sem]) ?_
  simp only [Act.put, List.setIfInBounds_toArray, List.set_cons_zero, List.set_cons_succ]
  refine wpList_runW rfl (.bool false) (by simp [go_sem]) ?_
  simp only [Act.put, List.setIfInBounds_toArray, List.set_cons_zero, List.set_cons_succ]
  refine wpList_run rfl (.bool false) (by simp [go_sem]) ?_
  simp only [Act.put, List.setIfInBounds_toArray, List.set_cons_zero, List.set_cons_succ]
  refine wpList_run rfl (.bool false) (by simp [go_sem]) ?_
  simp only [Act.put, List.setIfInBounds_toArray, List.set_cons_zero, List.set_cons_succ]
  refine wpList_runW rfl (.slice ob l cb) (by simp [go_sem]) ?_
  simp only [Act.put, List.setIfInBounds_toArray, List.set_cons_zero, List.set_cons_succ]
  refine wpList_runW rfl (.string s1) (by simp [go_sem, hc1]) ?_
  simp only [Act.put, List.setIfInBounds_toArray, List.set_cons_zero, List.set_cons_succ]
  refine wpList_runW rfl (.slice oa l cp) (by simp [go_sem]) ?_
  simp only [Act.put, List.setIfInBounds_toArray, List.set_cons_zero, List.set_cons_succ]
  refine wpList_runW rfl (.string s1) (by simp [go_sem, hc2]) ?_
  simp only [Act.put, List.setIfInBounds_toArray, List.set_cons_zero, List.set_cons_succ]
  refine wpList_runW rfl (.bool false) (by simp [go_sem]) ?_
  simp only [Act.put, List.setIfInBounds_toArray, List.set_cons_zero, List.set_cons_succ]
  refine wpList_run rfl (.bool false) (by simp [go_sem]) ?_
  simp only [Act.put, List.setIfInBounds_toArray, List.set_cons_zero, List.set_cons_succ]
  clear hc1 hc2 V6 Y6 k r
  go_upto_region 6 with (fail)
  by_cases hE : E = 0
  · subst hE
    obtain ⟨hl, hk, hb⟩ := hD.out rfl
    subst hl
    have hs : Hid (s1 = bstr 512 (fun j => ((hbF H j).toNat : Int))) := hideit (hs1.trans (bstr_congr fun j hj => by rw [hb j hj]))
    have ke := hideit (enc_ok H w6 hk C6.out)
    have hq : Hid (s1 = bstr 512 (fun j => ((b j).toNat : Int))) := hideit hs1
    clear hs1 hb hk hD
    go_upto_region 8 with (fail)
    refine wp_region_lit ?_
    refine wpList_run rfl (.agg (row 24 (hdv H)).toArray) (exec_loadR 27 (.tmp 4) rfl x 0 24 _ rfl X6.out.range Tryd.underlying27 rfl infoH) ?_
    simp only [Act.put, List.setIfInBounds_toArray, List.set_cons_zero, List.set_cons_succ]
    refine wpList_call rfl (by simp [go_sem]; exact ⟨rfl, rfl⟩) ?_
    refine (ke.out).mono ?_
    rintro e w7 ⟨g, rfl, hg7, hR7, hX⟩
    refine ⟨_, rfl, ?_⟩
    simp only [Act.put, List.setIfInBounds_toArray, List.set_cons_zero, List.set_cons_succ]
    have hc1 := convV (.slice (some ⟨g, 0, none⟩) 512 512) 512 _ w7 (hR7.bv 512 (Nat.le_refl _))
    rw [← hs.out] at hc1
    have hc2 := convV _ 512 b w7 (B6.out.ext hX)
    rw [← hq.out] at hc2
    have hE9 := hideit (Ext.trans hE6.out hX)
    clear ke hs hq hX hR7 hg7 B6 X6 hE6 C6
    go_upto_region 9 with (fail)
    refine wp_region_lit ?_
    refine wpList_run rfl (.int .i64 0) (by simp [go_sem]) ?_
    simp only [Act.put, List.setIfInBounds_toArray, List.set_cons_zero, List.set_cons_succ]
    refine wpList_run rfl (.bool true) (by simp [go_sem]) ?_
    simp only [Act.put, List.setIfInBounds_toArray, List.set_cons_zero, List.set_cons_succ]
    refine wpList_run rfl (.bool true) (by simp [go_sem]) ?_
    simp only [Act.put, List.setIfInBounds_toArray, List.set_cons_zero, List.set_cons_succ]
    refine wpList_runW rfl (.slice (some ⟨g, 0, none⟩) 512 512) (by simp [go_sem]) ?_
    simp only [Act.put, List.setIfInBounds_toArray, List.set_cons_zero, List.set_cons_succ]
    refine wpList_runW rfl (.string s1) (by simp [go_sem, hc1]) ?_
    simp only [Act.put, List.setIfInBounds_toArray, List.set_cons_zero, List.set_cons_succ]
    refine wpList_runW rfl (.slice oa 512 cp) (by simp [go_sem]) ?_
    simp only [Act.put, List.setIfInBounds_toArray, List.set_cons_zero, List.set_cons_succ]
    refine wpList_runW rfl (.string s1) (by simp [go_sem, hc2]) ?_
    simp only [Act.put, List.setIfInBounds_toArray, List.set_cons_zero, List.set_cons_succ]
    refine wpList_runW rfl (.bool true) (by simp [go_sem]) ?_
    simp only [Act.put, List.setIfInBounds_toArray, List.set_cons_zero, List.set_cons_succ]
    refine wpList_run rfl (.bool true) (by simp [go_sem]) ?_
    simp only [Act.put, List.setIfInBounds_toArray, List.set_cons_zero, List.set_cons_succ]
    clear hc1 hc2
    go_wp2
    go_ret
    exact ⟨rfl, hE9.out⟩
  · clear hs1 hD B6 C6 X6
    go_wp2
    go_ret
    exact ⟨rfl, hE6.out⟩
theorem walk (v0 : Value) (w : World) (B0 : BArg v0 w) (hC : TabC w) : Calls Tryd.prog 4 #[v0] w fun e w' => e = .returned (.bool true) ∧ Below w.heap.size w w' := by
  obtain ⟨l, b, h0, hl⟩ := barg_bv2 B0
  by_cases hi : isH l b
  · exact walk_core v0 l b (ofB b) 0 w hC h0 hl (fun v X hv hc => dec_yes v l b X hv hc hi) (fun v X hv => rdec_yes v l b X hv hi) (fun _ => ⟨hi.1, hi.2.2.2.2, hb_of l b hi⟩)
  · exact walk_core v0 l b zH 110 w hC h0 hl (fun v X hv hc => dec_not v l b X hv hc hi) (fun v X hv => rdec_not v l b X hv hi) (fun h => absurd h (by decide))

theorem contract (H : Type) (enc : TypeId × Value → H) (W : World) (base : Nat) (args : Array Value) (ds gs : List (DataW H)) (before : List MemPlace)
    (hval0 : ∀ (j : Nat) t v, Tryd.f4.params[j]? = some t → args[j]? = some v → Value.okWide Tryd.prog W .any base t v)
    (hW : DataW.Whole enc Tryd.prog Tryd.f4.params.toList Rows.headDecodesSpec.vars false W args.toList ds gs before) (hL : laidMetH Tryd.prog Rows.headDecodesRow.laid W) (hsz0 : (DataW.weightsEach Tryd.prog (Tryd.f4.params.toList ++ []) (ds ++ gs)).all (· ≤ reachBytes) = true) :
    Calls Tryd.prog 4 args W fun e W' => ∃ v, e = .returned v ∧ Rows.headDecodesSpec.post enc Tryd.prog Tryd.f4 false true false false W args v W' := by
  have hval := hval0
  have hsz := hsz0
  have hW' := hW
  obtain ⟨p, q, hA0, hV, rfl, hfz, hnd⟩ := hW
  have hA : DataW.TrodAll enc Tryd.prog W 0 (fun _ => true) true Tryd.f4.params.toList args.toList ds p := hA0
  rw [Tryd.params4] at hA hval hsz
  obtain ⟨v0, vs0, d0, ds0, p0, q0, hargs, rfl, rfl, h0, r0⟩ := trodAll_cons hA
  obtain ⟨rfl, rfl, rfl⟩ := trodAll_nil r0
  obtain rfl : args = #[v0] := by cases args; simp_all
  obtain ⟨rfl, rfl⟩ := trodVars_none hV
  have h0s : 0 < W.heap.size := by
    have hc := (table hL).cell gTab 0 (by decide)
    rcases Nat.lt_or_ge 0 W.heap.size with h | h
    · exact h
    · exfalso
      have : W.heap[0]? = none := Array.getElem?_eq_none h
      simp [World.cell?, this] at hc
  have hC : TabC W := tabC hL h0s
  have k0 := h0
  have lt0 : ∀ x ∈ p0, x.block < W.heap.size := by obtain ⟨m, hm⟩ := k0; exact DataW.trod_lt m _ _ _ hm
  have B0 := barg (hval 0 28 v0 rfl rfl) h0 hsz 0 rfl rfl
  clear hA0 hval0
  refine (walk v0 W B0 hC).mono fun e W' ⟨he, bel⟩ => ?_
  subst he
  exact ⟨_, rfl, _, _, _, [], _, [], hW', trodAll_mk1 (shut_bool Tryd.underlying4 _), (trodAll_cons_mk (Below.trod laidOut (by kernel_rfl) (of_decide_eq_true (by kernel_rfl)) k0 bel lt0) trodAll_mk0), rfl, bel.frame _, fun h => by cases h⟩

def wit : Array Value := #[.slice none 0 0]
def dat {H : Type} : List (DataW H) := [.nil]
def setTab : Obj → Obj
  | .cells _ t frozen => .cells (tabL.map fun z => Value.int .u32 z).toArray t frozen
  | o => o
theorem laid_met (os : Os) : laidMet Tryd.prog Rows.headDecodesRow.laid (({ World.holding Tryd.prog os ⟨#[], #[], []⟩ with heap := (World.holding Tryd.prog os ⟨#[], #[], []⟩).heap.modify 0 setTab } : World).forCall (fun _ _ => 0) ⟨#[], wit, []⟩).memory :=
  laidMet_of_run' 8 (by kernel_rfl) (by kernel_rfl)
theorem reads (os : Os) {H : Type} (enc : TypeId × Value → H) : ∃ places, DataW.whole enc Tryd.prog (({ World.holding Tryd.prog os ⟨#[], #[], []⟩ with heap := (World.holding Tryd.prog os ⟨#[], #[], []⟩).heap.modify 0 setTab } : World).forCall (fun _ _ => 0) ⟨#[], wit, []⟩).memory Tryd.f4.params.toList Rows.headDecodesSpec.vars false wit.toList 8 = some (dat, [], places) :=
  ⟨[], by kernel_rfl⟩

set_option maxRecDepth 100000 in
theorem lifted (os : Os) (started : os.Started) (H : Type) (enc : TypeId × Value → H) (F : Stop.Interp) :
    ReturnsInHanded {} Tryd.checked os 4 .any ((OpenSpec.ofChange Rows.headDecodesSpec).preRow enc Tryd.prog Tryd.f4 Rows.headDecodesRow.domain false Rows.headDecodesRow.laid) (((OpenSpec.ofChange Rows.headDecodesSpec).at F).post enc Tryd.prog Tryd.f4 false true false false) := by
  obtain ⟨places, hx⟩ := reads os enc
  refine returnsInHanded_of_row (C := Tryd.checked) (s := (OpenSpec.ofChange Rows.headDecodesSpec)) own started (by kernel_rfl) Tryd.func4
    (witness_row_at (enc := enc) (C := Tryd.checked) false ({ World.holding Tryd.prog os ⟨#[], #[], []⟩ with heap := (World.holding Tryd.prog os ⟨#[], #[], []⟩).heap.modify 0 setTab } : World) wit rfl (by kernel_rfl) (by kernel_rfl) (by kernel_rfl)
      (OpenSpec.preRow_of_cond 8 hx (by kernel_rfl) (fun k hk => by cases hk) (by kernel_rfl) (laid_met os))) ?_
  intro W base args ds gs before hval hW _ hcond hsz hL _ _
  exact contract H enc W base args ds gs before hval hW hL hsz

theorem said : Rows.HeadDecodesSaid :=
  OpenClaim.holds_of_cond 4 Tryd.f4 rfl rfl rfl rfl rfl rfl rfl ⟨rfl, rfl, rfl, rfl, rfl⟩ rfl rfl rfl rfl rfl (by kernel_rfl) Tryd.func4 (by kernel_rfl)
    (of_decide_eq_true (by kernel_rfl)) (by unfold Func.isWrapper; first | (rw [if_pos (by decide +kernel)]; kernel_rfl) | (rw [if_neg (by decide +kernel)]; exact ⟨rfl, rfl⟩))
    (fun os started H enc _ F => by rw [OpenClaim.pre_eq_preRow]; exact lifted os started H enc F)

theorem plain (f : FuncId) (fn : Func) (hf : Tryd.pinned.checked.prog.funcNamed "casket/casketlaw11.HeadDecodes" = some f) (hfn : Tryd.pinned.checked.prog.funcs[f]? = some fn) :
    false = Tryd.pinned.checked.prog.looks [] ∧ ∀ (j : Nat) t, fn.params[j]? = some t → Tryd.pinned.checked.prog.wantsStandIn t = false := by
  obtain rfl : f = 4 := Option.some.inj ((show Tryd.prog.funcNamed "casket/casketlaw11.HeadDecodes" = some 4 by kernel_rfl).symm.trans hf) |>.symm
  obtain rfl : fn = Tryd.f4 := (Option.some.inj (Tryd.func4.symm.trans hfn)).symm
  refine ⟨by kernel_rfl, fun j t ht => ?_⟩
  rw [Tryd.params4] at ht
  have hm : t ∈ [28] := by simpa using Array.mem_of_getElem? ht
  have hall : ([28].all fun u => !Tryd.prog.wantsStandIn u) = true := by kernel_rfl
  exact (show Tryd.prog.wantsStandIn t = false by simpa using List.all_eq_true.1 hall t hm)

theorem card : Rows.HeadDecodesCardSaid :=
  Claim7.holds_tied_plain_at .later [] _ _ _ _ said (fun _ h => by cases h) (by kernel_rfl) (fun _ h => by cases h) headDecodes_row_tie rfl ⟨rfl, rfl⟩ (by kernel_rfl) rfl plain (by kernel_rfl)
end Go.Proofs.YtenlokmoijeehaaDoor.headDecodes
namespace Go.Proofs.YtenlokmoijeehaaDoor
theorem headDecodes_holds : Rows.HeadDecodesCardSaid := headDecodes.card
end Go.Proofs.YtenlokmoijeehaaDoor
