/-
  The path of each leaf in the tree that Build makes is right by Check, and its root is that of the tree; lists that no tree has are refused: whatever the leaves and the place.
-/
import Derived.Test.YtapmheocllicnaaDoorCards
import Derived.Test.YtapmheocllicnaaDoorTie
import Derived.WalkKit
import Derived.ProofKit
import Derived.OpenShut
import Derived.ShutString
import Derived.ChangeOld
import Derived.Below
import Derived.Deep.DeepHandedRow
import Derived.Lib.LaidTab
import Derived.Test.YtapmheocllicnaaDoorLiv
import Derived.Test.YtapmheocllicnaaDoorPok
import Derived.Test.YtapmheocllicnaaDoorOpL
namespace Go.Proofs.YtapmheocllicnaaDoor.treePaths
open Go.ChangeShapes Go.WideShapes Go.ChangeAt Go.RowKit
set_option linter.unusedVariables false

theorem own : ownKnob Tryd.prog.godebug = none := by kernel_rfl
theorem laidOut : laidOutB Tryd.prog = true := by kernel_rfl
theorem gTab : Tryd.prog.globalNamed "casket/sha.constants" = some 0 := by kernel_rfl
theorem gTabType : (Tryd.prog.globals[0]?).map (·.type) = some 77 := by kernel_rfl
theorem cellsG : Tryd.prog.cellsOf 77 = 64 := by kernel_rfl
theorem cellsE : Tryd.prog.cellsOf 67 = 1 := by kernel_rfl
def tabL : List Int := [1116352408, 1899447441, 3049323471, 3921009573, 961987163, 1508970993, 2453635748, 2870763221, 3624381080, 310598401, 607225278, 1426881987, 1925078388, 2162078206, 2614888103, 3248222580, 3835390401, 4022224774, 264347078, 604807628, 770255983, 1249150122, 1555081692, 1996064986, 2554220882, 2821834349, 2952996808, 3210313671, 3336571891, 3584528711, 113926993, 338241895, 666307205, 773529912, 1294757372, 1396182291, 1695183700, 1986661051, 2177026350, 2456956037, 2730485921, 2820302411, 3259730800, 3345764771, 3516065817, 3600352804, 4094571909, 275423344, 430227734, 506948616, 659060556, 883997877, 958139571, 1322822218, 1537002063, 1747873779, 1955562222, 2024104815, 2227730452, 2361852424, 2428436474, 2756734187, 3204031479, 3329325298]
theorem table {W : World} (h : laidMetH Tryd.prog Rows.treePathsRow.laid W) : Lib.TabIs Tryd.prog W "casket/sha.constants" .u32 tabL :=
  Lib.tabIs_of_head (rest := []) gTab gTabType Tryd.underlying77 Tryd.underlying67 cellsE cellsG h
theorem tab_kT : ∀ j, j < 64 → tabL.getD j 0 = ((kT j).toNat : Int) := by decide +kernel
theorem tabC {W : World} (h : laidMetH Tryd.prog Rows.treePathsRow.laid W) (h0 : 0 < W.heap.size) : TabC W :=
  ⟨fun j hj => by
    rw [← tab_kT j hj]
    exact (table h).cell gTab j hj, h0⟩

open Go.BigFrame
set_option maxRecDepth 20000 in
set_option maxHeartbeats 8000000 in
theorem walk_no (v : Value) (n : Nat) (d : Nat → Nat → BitVec 8) (a : Int) (w : World) (hL : LV v n d w) (hn : n < 1 ∨ 4096 < n) (hn9 : n ≤ 9223372036854775807) (hC : TabC w) : Calls Tryd.prog 4 #[v, .int .i64 a] w fun e w' => e = .returned (.bool true) ∧ Below w.heap.size w w' := by
  obtain ⟨ov, cap, rfl⟩ := hL.form
  have kb := hideit (build_no n hn _ d w hL)
  have hz := zero24
  replace hC := hideit hC
  clear hL
  go_enter Tryd.func4, Tryd.ntmps4
  go_upto_region 1 with (fail)
  refine wp_region_lit ?_
  refine wpList_run rfl (.slice ov n cap) (by simp [go_sem]) ?_
  simp only [Act.put, List.setIfInBounds_toArray, List.set_cons_zero, List.set_cons_succ]
  refine wpList_call rfl (by simp [go_sem]) ((kb.out).mono ?_)
  rintro e w2 ⟨rfl, hX2⟩
  refine ⟨_, rfl, ?_⟩
  simp only [Act.put, List.setIfInBounds_toArray, List.set_cons_zero, List.set_cons_succ]
  refine wpList_run rfl (.tuple #[.slice none 0 0, .agg (row 32 (yv fun _ => 0#8)).toArray, .int .i64 1]) (by simp [go_sem]) ?_
  simp only [Act.put, List.setIfInBounds_toArray, List.set_cons_zero, List.set_cons_succ]
  refine wpList_run rfl (.slice none 0 0) (by simp [go_sem]) ?_
  simp only [Act.put, List.setIfInBounds_toArray, List.set_cons_zero, List.set_cons_succ]
  refine wpList_run rfl (.agg (row 32 (yv fun _ => 0#8)).toArray) (by simp [go_sem]) ?_
  simp only [Act.put, List.setIfInBounds_toArray, List.set_cons_zero, List.set_cons_succ]
  refine wpList_run rfl (.int .i64 1) (by simp [go_sem]) ?_
  simp only [Act.put, List.setIfInBounds_toArray, List.set_cons_zero, List.set_cons_succ]
  have hX3 : Ext w2 (w2.alloc (.cells (row 32 (yv fun _ => 0#8)).toArray 25)) := (Below.refl _ _).alloc (Nat.le_refl _) _
  have C3 := RowAt.new w2 32 (yv fun _ => 0#8) 25
  have E3 := hideit (Ext.trans hX2 (below_setCells (w := w2) w2.heap.size (Nat.le_refl _) (row 32 (yv fun _ => 0#8)) 0 _ hX3))
  refine wpList_to rfl (.pointer (some ⟨w2.heap.size, 0, none⟩)) (w2.alloc (.cells (row 32 (yv fun _ => 0#8)).toArray 25)) (by simp [go_sem, hz]) ?_
  simp only [Act.put, List.setIfInBounds_toArray, List.set_cons_zero, List.set_cons_succ]
  refine wpList_run rfl (.slice none 0 0) (by simp [go_sem]) ?_
  simp only [Act.put, List.setIfInBounds_toArray, List.set_cons_zero, List.set_cons_succ]
  refine wpList_store_mid rfl 25 (.tmp 6) (.tmp 17) rfl _ 0 (row 32 (yv fun _ => 0#8)).toArray rfl rfl (by rw [row_size]; exact C3.there) (by rw [row_size]; exact info24) (row_one fun _ _ => rfl) ?_
  rw [show (row 32 (yv fun _ => 0#8)).toArray.toList = row 32 (yv fun _ => 0#8) from rfl]
  generalize (w2.alloc (.cells (row 32 (yv fun _ => 0#8)).toArray 25)).setCells w2.heap.size 0 (row 32 (yv fun _ => 0#8)) = w3 at *
  clear hX2 hX3 C3 kb
  simp only [Act.put]
  have kl := hideit (lives_any w3 (hC.out.ext E3.out))
  clear hC
  go_upto_region 4 with (go_at_call 11; refine kl.out.mono ?_; rintro e w4 ⟨rfl, hX4⟩; have E4 := hideit (Ext.trans E3.out hX4); clear E3 hX4)
  clear kl
  by_cases h1 : n < 1
  · have i1 : (n : Int) < 1 := by omega
    replace hn := hideit hn
    go_wp2
    go_ret
    exact ⟨rfl, E4.out⟩
  · have i1 : ¬ (n : Int) < 1 := by omega
    have i2 : (4096 : Int) < (n : Int) := by omega
    replace hn := hideit hn
    go_wp2
    go_ret
    exact ⟨rfl, E4.out⟩
set_option maxRecDepth 20000 in
set_option maxHeartbeats 8000000 in
theorem walk_in (v : Value) (n : Nat) (d : Nat → Nat → BitVec 8) (b : Int) (w : World) (hL : LV v n d w) (h1 : 1 ≤ n) (h2 : n ≤ 4096) (hC : TabC w) : Calls Tryd.prog 4 #[v, .int .i64 b] w fun e w' => e = .returned (.bool true) ∧ Below w.heap.size w w' := by
  obtain ⟨a, cap, rfl, hla⟩ : ∃ a cap, v = .slice (some a) n cap ∧ LieAt a (n * 32) (lfV d) w := by
    rcases hL with ⟨_, h⟩ | ⟨a, cap, h, _, hl⟩
    · omega
    · exact ⟨a, cap, h, hl⟩
  have kb := build_any n h1 h2 _ d w hL hC
  obtain ⟨N, hN⟩ : ∃ N, N = lvN n := ⟨_, rfl⟩
  have hN3 := lvN_pos n
  rw [← hN] at kb hN3
  obtain ⟨RT, hRT⟩ : ∃ RT, RT = rootF n (digB n d N 0) := ⟨_, rfl⟩
  rw [← hRT] at kb
  replace kb := hideit kb
  replace hRT := hideit hRT
  replace hN := hideit hN
  replace hla := hideit hla
  have hz := zero24
  replace hC := hideit hC
  clear hL
  go_enter Tryd.func4, Tryd.ntmps4
  go_upto_region 1 with (fail)
  refine wp_region_lit ?_
  refine wpList_run rfl (.slice (some a) n cap) (by simp [go_sem]) ?_
  simp only [Act.put, List.setIfInBounds_toArray, List.set_cons_zero, List.set_cons_succ]
  refine wpList_call rfl (by simp [go_sem]) ((kb.out).mono ?_)
  rintro e w2 ⟨lv, Bs, rfl, hO2, hl2, hX2⟩
  refine ⟨_, rfl, ?_⟩
  simp only [Act.put, List.setIfInBounds_toArray, List.set_cons_zero, List.set_cons_succ]
  obtain ⟨vb, vcap, rfl, -, -, -, hv2⟩ := hO2.lies (by omega)
  refine wpList_run rfl (.tuple #[.slice (some ⟨vb, 0, none⟩) N vcap, .agg (row 32 (yv RT)).toArray, .int .i64 0]) (by simp [go_sem]) ?_
  simp only [Act.put, List.setIfInBounds_toArray, List.set_cons_zero, List.set_cons_succ]
  refine wpList_run rfl (.slice (some ⟨vb, 0, none⟩) N vcap) (by simp [go_sem]) ?_
  simp only [Act.put, List.setIfInBounds_toArray, List.set_cons_zero, List.set_cons_succ]
  refine wpList_run rfl (.agg (row 32 (yv RT)).toArray) (by simp [go_sem]) ?_
  simp only [Act.put, List.setIfInBounds_toArray, List.set_cons_zero, List.set_cons_succ]
  refine wpList_run rfl (.int .i64 0) (by simp [go_sem]) ?_
  simp only [Act.put, List.setIfInBounds_toArray, List.set_cons_zero, List.set_cons_succ]
  have hX3 : Ext w2 (w2.alloc (.cells (row 32 (yv fun _ => 0#8)).toArray 25)) := (Below.refl _ _).alloc (Nat.le_refl _) _
  have C3 := RowAt.new w2 32 (yv fun _ => 0#8) 25
  have hY3 := below_setCells (w := w2) w2.heap.size (Nat.le_refl _) (row 32 (yv RT)) 0 _ hX3
  have Q3 := hideit (C3.cells (g' := yv RT))
  have R3 := hideit (hv2.carry hY3)
  have L3 := hideit (fun j hj => And.intro (hl2 j hj).1 ((hl2 j hj).2.carry hY3))
  have E3 := hideit (Ext.trans hX2 hY3)
  refine wpList_to rfl (.pointer (some ⟨w2.heap.size, 0, none⟩)) (w2.alloc (.cells (row 32 (yv fun _ => 0#8)).toArray 25)) (by simp [go_sem, hz]) ?_
  simp only [Act.put, List.setIfInBounds_toArray, List.set_cons_zero, List.set_cons_succ]
  refine wpList_run rfl (.slice (some ⟨vb, 0, none⟩) N vcap) (by simp [go_sem]) ?_
  simp only [Act.put, List.setIfInBounds_toArray, List.set_cons_zero, List.set_cons_succ]
  refine wpList_store_mid rfl 25 (.tmp 6) (.tmp 17) rfl _ 0 (row 32 (yv RT)).toArray rfl rfl (by rw [row_size]; exact C3.there) (by rw [row_size]; exact info24) (row_one fun _ _ => rfl) ?_
  rw [show (row 32 (yv RT)).toArray.toList = row 32 (yv RT) from rfl]
  generalize (w2.alloc (.cells (row 32 (yv fun _ => 0#8)).toArray 25)).setCells w2.heap.size 0 (row 32 (yv RT)) = w3 at *
  generalize w2.heap.size = rb at *
  clear hX2 hX3 C3 kb hY3 hO2 hl2 hv2
  simp only [Act.put]
  have kl := hideit (lives_any w3 (hC.out.ext E3.out))
  go_upto_region 4 with (go_at_call 11; refine kl.out.mono ?_; rintro e w4 ⟨rfl, hX4⟩; have E4 := hideit (Ext.trans E3.out hX4); have Q4 := hideit (Q3.out.carry hX4); have R4 := hideit (R3.out.carry hX4); have L4 := hideit (fun j hj => And.intro (L3.out j hj).1 ((L3.out j hj).2.carry hX4)); clear E3 Q3 R3 L3 hX4)
  clear kl
  have i1 : ¬ (n : Int) < 1 := by omega
  have i2 : ¬ (4096 : Int) < (n : Int) := by omega
  have n0 : ¬ n = 0 := by omega
  have t1 := Int.tmod_lt_of_pos b (show (0 : Int) < (n : Int) by omega)
  have t2 := Int.lt_tmod_of_pos b (show (0 : Int) < (n : Int) by omega)
  obtain ⟨r, hr⟩ : ∃ r, r = Int.tmod b (n : Int) := ⟨_, rfl⟩
  rw [← hr] at t1 t2
  replace hr := hideit hr
  go_upto_region 9 with (fail)
  refine wp_region_lit ?_
  refine wpList_run rfl (.int .i64 b) (by simp [go_sem]) ?_
  simp only [Act.put, List.setIfInBounds_toArray, List.set_cons_zero, List.set_cons_succ]
  refine wpList_run rfl (.int .i64 (n : Int)) (by simp [go_sem]) ?_
  simp only [Act.put, List.setIfInBounds_toArray, List.set_cons_zero, List.set_cons_succ]
  refine wpList_run rfl (.int .i64 r) (by simp [go_sem, n0, hr.out]) ?_
  simp only [Act.put, List.setIfInBounds_toArray, List.set_cons_zero, List.set_cons_succ]
  by_cases hneg : r < 0
  · obtain ⟨x, hx'⟩ : ∃ x : Nat, (x : Int) = r + (n : Int) := ⟨(r + n).toNat, by omega⟩
    have hx : x < n := by omega
    have x1 : (x : Int) < (n : Int) := by omega
    have hw : IntKind.i64.wrap (r + (n : Int)) = (x : Int) := by rw [IntKind.wrap_i64]; omega
    replace hw := hideit hw
    clear hx' t1 t2
    go_upto_region 11 with (fail)
    refine wp_region_lit ?_
    refine wpList_run rfl (.int .i64 r) (by simp [go_sem]) ?_
    simp only [Act.put, List.setIfInBounds_toArray, List.set_cons_zero, List.set_cons_succ]
    refine wpList_run rfl (.int .i64 (n : Int)) (by simp [go_sem]) ?_
    simp only [Act.put, List.setIfInBounds_toArray, List.set_cons_zero, List.set_cons_succ]
    refine wpList_run rfl (.int .i64 (x : Int)) (by simp [go_sem, hw.out]) ?_
    simp only [Act.put, List.setIfInBounds_toArray, List.set_cons_zero, List.set_cons_succ]
    clear hw hneg hr
    have kp := hideit (tpath_any n x N vb vcap h1 h2 hN.out hx Bs d w4 R4.out (fun j hj => (L4.out j hj).2))
    go_upto_region 12 with (fail)
    refine wp_region_lit ?_
    refine wpList_run rfl (.slice (some ⟨vb, 0, none⟩) N vcap) (by simp [go_sem]) ?_
    simp only [Act.put, List.setIfInBounds_toArray, List.set_cons_zero, List.set_cons_succ]
    refine wpList_run rfl (.int .i64 (x : Int)) (by simp [go_sem]) ?_
    simp only [Act.put, List.setIfInBounds_toArray, List.set_cons_zero, List.set_cons_succ]
    refine wpList_call rfl (by simp [go_sem]) ((kp.out).mono ?_)
    rintro e w5 ⟨pv, rfl, hO5, hX5⟩
    refine ⟨_, rfl, ?_⟩
    simp only [Act.put, List.setIfInBounds_toArray, List.set_cons_zero, List.set_cons_succ]
    have L5 := hideit (fun j hj => ((L4.out j hj).2.carry hX5))
    have Q5 := hideit (Q4.out.carry hX5)
    have E5 := hideit (Ext.trans E4.out hX5)
    have P5 := hideit (tpath_parts (d := d) hO5 (by omega) L5.out hx)
    obtain ⟨po, pc, rfl⟩ := P5.out.form
    have kr := troot_ok n N h1 h2 hN.out (.slice po N pc) _ (fun _ => 512) (pbs n d x) w5 P5.out (fun _ _ => rfl) (hC.out.ext E5.out)
    rw [root_top n x N d h1 h2 hN.out hx, ← hRT.out] at kr
    replace kr := hideit kr
    clear kp hX5 hO5 L4 Q4 E4 L5
    go_upto_region 13 with (fail)
    refine wp_region_lit ?_
    refine wpList_run rfl (.int .i64 (n : Int)) (by simp [go_sem]) ?_
    simp only [Act.put, List.setIfInBounds_toArray, List.set_cons_zero, List.set_cons_succ]
    refine wpList_run rfl (.slice po N pc) (by simp [go_sem]) ?_
    simp only [Act.put, List.setIfInBounds_toArray, List.set_cons_zero, List.set_cons_succ]
    refine wpList_call rfl (by simp [go_sem]) ((kr.out).mono ?_)
    rintro e w6 ⟨rfl, hX6⟩
    refine ⟨_, rfl, ?_⟩
    simp only [Act.put, List.setIfInBounds_toArray, List.set_cons_zero, List.set_cons_succ]
    refine wpList_run rfl (.tuple #[.agg (row 32 (yv RT)).toArray, .int .i64 0]) (by simp [go_sem]) ?_
    simp only [Act.put, List.setIfInBounds_toArray, List.set_cons_zero, List.set_cons_succ]
    refine wpList_run rfl (.agg (row 32 (yv RT)).toArray) (by simp [go_sem]) ?_
    simp only [Act.put, List.setIfInBounds_toArray, List.set_cons_zero, List.set_cons_succ]
    refine wpList_run rfl (.int .i64 0) (by simp [go_sem]) ?_
    simp only [Act.put, List.setIfInBounds_toArray, List.set_cons_zero, List.set_cons_succ]
    have hX7 : Ext w6 (w6.alloc (.cells (row 32 (yv fun _ => 0#8)).toArray 25)) := (Below.refl _ _).alloc (Nat.le_refl _) _
    have C7 := RowAt.new w6 32 (yv fun _ => 0#8) 25
    have hY7 := Ext.trans hX6 (below_setCells (w := w6) w6.heap.size (Nat.le_refl _) (row 32 (yv RT)) 0 _ hX7)
    have C8 := hideit (C7.cells (g' := yv RT))
    have Q8 := hideit (Q5.out.carry hY7)
    have P8 := hideit (P5.out.ext hY7)
    have E8 := hideit (Ext.trans E5.out hY7)
    refine wpList_to rfl (.pointer (some ⟨w6.heap.size, 0, none⟩)) (w6.alloc (.cells (row 32 (yv fun _ => 0#8)).toArray 25)) (by simp [go_sem, hz]) ?_
    simp only [Act.put, List.setIfInBounds_toArray, List.set_cons_zero, List.set_cons_succ]
    refine wpList_store_mid rfl 25 (.tmp 11) (.tmp 48) rfl _ 0 (row 32 (yv RT)).toArray rfl rfl (by rw [row_size]; exact C7.there) (by rw [row_size]; exact info24) (row_one fun _ _ => rfl) ?_
    rw [show (row 32 (yv RT)).toArray.toList = row 32 (yv RT) from rfl]
    generalize (w6.alloc (.cells (row 32 (yv fun _ => 0#8)).toArray 25)).setCells w6.heap.size 0 (row 32 (yv RT)) = w8 at *
    generalize w6.heap.size = rc at *
    clear hX7 C7 hY7 hX6 Q5 P5 E5 kr
    simp only [Act.put]
    go_upto_region 14 with (fail)
    have hdr : Ext w8 w8.drew := (Ext.refl w8).draw
    have kc := check_go n x N h1 h2 hx (d x) RT _ _ (fun _ => 512) (pbs n d x) w8.drew (P8.out.ext hdr) (hC.out.ext (Ext.trans E8.out hdr)) hN.out (fun _ _ => rfl)
    have hright := path_right n x N d h1 h2 hN.out hx
    rw [← hRT.out] at hright
    refine wp_region_lad (fun X => Ext w8.drew X) [(false, 0), (false, 1), (false, 2), (false, 3), (false, 4), (false, 5), (false, 6), (false, 7), (true, 8), (false, 9), (false, 10), (false, 11), (false, 12), (false, 13), (false, 14), (false, 15), (false, 16), (false, 17), (false, 18), (false, 19)] (by kernel_rfl) (by kernel_rfl) (by decide +kernel) (by decide +kernel) (by decide +kernel) (by decide +kernel) (Ext.refl _) ?_
    refine wpX_f _ (.int .i64 (n : Int)) rfl rfl (fun X _ => by simp [go_sem]) ?_
    simp only [List.getElem_toArray, List.getElem_cons_zero, Act.put, List.setIfInBounds_toArray, List.set_cons_zero, List.set_cons_succ]
    refine wpX_f _ (.int .i64 (x : Int)) rfl rfl (fun X _ => by simp [go_sem]) ?_
    simp only [List.getElem_toArray, List.getElem_cons_zero, List.getElem_cons_succ, Act.put, List.setIfInBounds_toArray, List.set_cons_zero, List.set_cons_succ]
    refine wpX_f _ (.slice (some a) n cap) rfl rfl (fun X _ => by simp [go_sem]) ?_
    simp only [List.getElem_toArray, List.getElem_cons_zero, List.getElem_cons_succ, Act.put, List.setIfInBounds_toArray, List.set_cons_zero, List.set_cons_succ]
    refine wpX_f _ (.int .i64 (x : Int)) rfl rfl (fun X _ => by simp [go_sem]) ?_
    simp only [List.getElem_toArray, List.getElem_cons_zero, List.getElem_cons_succ, Act.put, List.setIfInBounds_toArray, List.set_cons_zero, List.set_cons_succ]
    refine wpX_f _ (.pointer (some (a.add (x * 32)))) rfl rfl (fun X _ => by simp [go_sem, x1]) ?_
    simp only [List.getElem_toArray, List.getElem_cons_zero, List.getElem_cons_succ, Act.put, List.setIfInBounds_toArray, List.set_cons_zero, List.set_cons_succ]
    refine wpX_f _ (.agg (row 32 (yv (d x))).toArray) rfl rfl (fun X hX => exec_loadL 25 (.tmp 54) rfl (a.add (x * 32)) 32 _ rfl (lie_leaf (hla.out.carry (Ext.trans E8.out (Ext.trans hdr hX))) x hx) Tryd.underlying25 rfl info24) ?_
    simp only [List.getElem_toArray, List.getElem_cons_zero, List.getElem_cons_succ, Act.put, List.setIfInBounds_toArray, List.set_cons_zero, List.set_cons_succ]
    refine wpX_f _ (.slice po N pc) rfl rfl (fun X _ => by simp [go_sem]) ?_
    simp only [List.getElem_toArray, List.getElem_cons_zero, List.getElem_cons_succ, Act.put, List.setIfInBounds_toArray, List.set_cons_zero, List.set_cons_succ]
    refine wpX_f _ (.agg (row 32 (yv RT)).toArray) rfl rfl (fun X hX => exec_loadR 25 (.tmp 6) rfl rb 0 32 _ rfl (Q8.out.carry (Ext.trans hdr hX)).range Tryd.underlying25 rfl info24) ?_
    simp only [List.getElem_toArray, List.getElem_cons_zero, List.getElem_cons_succ, Act.put, List.setIfInBounds_toArray, List.set_cons_zero, List.set_cons_succ]
    refine wpX_call _ rfl rfl (by simp [go_sem]) (kc.mono ?_)
    rintro e w9 ⟨z, rfl, hX9, hz9⟩
    obtain rfl : z = 0 := by
      rcases hz9 with ⟨h, _⟩ | ⟨_, h⟩
      · exact h
      · exact absurd hright h
    refine ⟨_, rfl, fun X => Ext w9 X, fun X hX => Ext.trans hX9 hX, Ext.refl _, ?_⟩
    simp only [List.getElem_toArray, List.getElem_cons_zero, List.getElem_cons_succ, Act.put, List.setIfInBounds_toArray, List.set_cons_zero, List.set_cons_succ]
    refine wpX_f _ (.bool true) rfl rfl (fun X _ => by simp [go_sem]) ?_
    simp only [List.getElem_toArray, List.getElem_cons_zero, List.getElem_cons_succ, Act.put, List.setIfInBounds_toArray, List.set_cons_zero, List.set_cons_succ]
    refine wpX_f _ (.bool true) rfl rfl (fun X _ => by simp [go_sem]) ?_
    simp only [List.getElem_toArray, List.getElem_cons_zero, List.getElem_cons_succ, Act.put, List.setIfInBounds_toArray, List.set_cons_zero, List.set_cons_succ]
    refine wpX_f _ (.int .i64 0) rfl rfl (fun X _ => by simp [go_sem]) ?_
    simp only [List.getElem_toArray, List.getElem_cons_zero, List.getElem_cons_succ, Act.put, List.setIfInBounds_toArray, List.set_cons_zero, List.set_cons_succ]
    refine wpX_f _ (.bool true) rfl rfl (fun X _ => by simp [go_sem]) ?_
    simp only [List.getElem_toArray, List.getElem_cons_zero, List.getElem_cons_succ, Act.put, List.setIfInBounds_toArray, List.set_cons_zero, List.set_cons_succ]
    refine wpX_f _ (.bool true) rfl rfl (fun X _ => by simp [go_sem]) ?_
    simp only [List.getElem_toArray, List.getElem_cons_zero, List.getElem_cons_succ, Act.put, List.setIfInBounds_toArray, List.set_cons_zero, List.set_cons_succ]
    refine wpX_f _ (.bool true) rfl rfl (fun X _ => by simp [go_sem]) ?_
    simp only [List.getElem_toArray, List.getElem_cons_zero, List.getElem_cons_succ, Act.put, List.setIfInBounds_toArray, List.set_cons_zero, List.set_cons_succ]
    refine wpX_f _ (.agg (row 32 (yv RT)).toArray) rfl rfl (fun X hX => exec_loadR 25 (.tmp 11) rfl rc 0 32 _ rfl (C8.out.carry (Ext.trans hdr (Ext.trans hX9 hX))).range Tryd.underlying25 rfl info24) ?_
    simp only [List.getElem_toArray, List.getElem_cons_zero, List.getElem_cons_succ, Act.put, List.setIfInBounds_toArray, List.set_cons_zero, List.set_cons_succ]
    refine wpX_f _ (.agg (row 32 (yv RT)).toArray) rfl rfl (fun X hX => exec_loadR 25 (.tmp 6) rfl rb 0 32 _ rfl (Q8.out.carry (Ext.trans hdr (Ext.trans hX9 hX))).range Tryd.underlying25 rfl info24) ?_
    simp only [List.getElem_toArray, List.getElem_cons_zero, List.getElem_cons_succ, Act.put, List.setIfInBounds_toArray, List.set_cons_zero, List.set_cons_succ]
    refine wpX_f _ (.bool true) rfl rfl (fun X hX => exec_cmp .eql 25 25 (.tmp 65) (.tmp 66) rfl _ _ rfl rfl (by kernel_rfl) true (eq24 _ X)) ?_
    simp only [List.getElem_toArray, List.getElem_cons_zero, List.getElem_cons_succ, Act.put, List.setIfInBounds_toArray, List.set_cons_zero, List.set_cons_succ]
    refine wpX_f _ (.bool true) rfl rfl (fun X _ => by simp [go_sem]) ?_
    simp only [List.getElem_toArray, List.getElem_cons_zero, List.getElem_cons_succ, Act.put, List.setIfInBounds_toArray, List.set_cons_zero, List.set_cons_succ]
    refine wpX_f _ (.bool true) rfl rfl (fun X _ => by simp [go_sem]) ?_
    simp only [List.getElem_toArray, List.getElem_cons_zero, List.getElem_cons_succ, Act.put, List.setIfInBounds_toArray, List.set_cons_zero, List.set_cons_succ]
    refine wpX_nil ?_
    have E9 := hideit (Ext.trans E8.out (Ext.trans hdr hX9))
    clear kc hright hX9 hdr C8 Q8 P8 E8
    go_wp2
    go_ret
    exact ⟨rfl, E9.out⟩
  · obtain ⟨x, rfl⟩ : ∃ x : Nat, r = (x : Int) := ⟨r.toNat, by omega⟩
    have hx : x < n := by omega
    have x1 : (x : Int) < (n : Int) := by omega
    clear t1 t2 hr
    have kp := hideit (tpath_any n x N vb vcap h1 h2 hN.out hx Bs d w4 R4.out (fun j hj => (L4.out j hj).2))
    go_upto_region 12 with (fail)
    refine wp_region_lit ?_
    refine wpList_run rfl (.slice (some ⟨vb, 0, none⟩) N vcap) (by simp [go_sem]) ?_
    simp only [Act.put, List.setIfInBounds_toArray, List.set_cons_zero, List.set_cons_succ]
    refine wpList_run rfl (.int .i64 (x : Int)) (by simp [go_sem]) ?_
    simp only [Act.put, List.setIfInBounds_toArray, List.set_cons_zero, List.set_cons_succ]
    refine wpList_call rfl (by simp [go_sem]) ((kp.out).mono ?_)
    rintro e w5 ⟨pv, rfl, hO5, hX5⟩
    refine ⟨_, rfl, ?_⟩
    simp only [Act.put, List.setIfInBounds_toArray, List.set_cons_zero, List.set_cons_succ]
    have L5 := hideit (fun j hj => ((L4.out j hj).2.carry hX5))
    have Q5 := hideit (Q4.out.carry hX5)
    have E5 := hideit (Ext.trans E4.out hX5)
    have P5 := hideit (tpath_parts (d := d) hO5 (by omega) L5.out hx)
    obtain ⟨po, pc, rfl⟩ := P5.out.form
    have kr := troot_ok n N h1 h2 hN.out (.slice po N pc) _ (fun _ => 512) (pbs n d x) w5 P5.out (fun _ _ => rfl) (hC.out.ext E5.out)
    rw [root_top n x N d h1 h2 hN.out hx, ← hRT.out] at kr
    replace kr := hideit kr
    clear kp hX5 hO5 L4 Q4 E4 L5
    go_upto_region 13 with (fail)
    refine wp_region_lit ?_
    refine wpList_run rfl (.int .i64 (n : Int)) (by simp [go_sem]) ?_
    simp only [Act.put, List.setIfInBounds_toArray, List.set_cons_zero, List.set_cons_succ]
    refine wpList_run rfl (.slice po N pc) (by simp [go_sem]) ?_
    simp only [Act.put, List.setIfInBounds_toArray, List.set_cons_zero, List.set_cons_succ]
    refine wpList_call rfl (by simp [go_sem]) ((kr.out).mono ?_)
    rintro e w6 ⟨rfl, hX6⟩
    refine ⟨_, rfl, ?_⟩
    simp only [Act.put, List.setIfInBounds_toArray, List.set_cons_zero, List.set_cons_succ]
    refine wpList_run rfl (.tuple #[.agg (row 32 (yv RT)).toArray, .int .i64 0]) (by simp [go_sem]) ?_
    simp only [Act.put, List.setIfInBounds_toArray, List.set_cons_zero, List.set_cons_succ]
    refine wpList_run rfl (.agg (row 32 (yv RT)).toArray) (by simp [go_sem]) ?_
    simp only [Act.put, List.setIfInBounds_toArray, List.set_cons_zero, List.set_cons_succ]
    refine wpList_run rfl (.int .i64 0) (by simp [go_sem]) ?_
    simp only [Act.put, List.setIfInBounds_toArray, List.set_cons_zero, List.set_cons_succ]
    have hX7 : Ext w6 (w6.alloc (.cells (row 32 (yv fun _ => 0#8)).toArray 25)) := (Below.refl _ _).alloc (Nat.le_refl _) _
    have C7 := RowAt.new w6 32 (yv fun _ => 0#8) 25
    have hY7 := Ext.trans hX6 (below_setCells (w := w6) w6.heap.size (Nat.le_refl _) (row 32 (yv RT)) 0 _ hX7)
    have C8 := hideit (C7.cells (g' := yv RT))
    have Q8 := hideit (Q5.out.carry hY7)
    have P8 := hideit (P5.out.ext hY7)
    have E8 := hideit (Ext.trans E5.out hY7)
    refine wpList_to rfl (.pointer (some ⟨w6.heap.size, 0, none⟩)) (w6.alloc (.cells (row 32 (yv fun _ => 0#8)).toArray 25)) (by simp [go_sem, hz]) ?_
    simp only [Act.put, List.setIfInBounds_toArray, List.set_cons_zero, List.set_cons_succ]
    refine wpList_store_mid rfl 25 (.tmp 11) (.tmp 48) rfl _ 0 (row 32 (yv RT)).toArray rfl rfl (by rw [row_size]; exact C7.there) (by rw [row_size]; exact info24) (row_one fun _ _ => rfl) ?_
    rw [show (row 32 (yv RT)).toArray.toList = row 32 (yv RT) from rfl]
    generalize (w6.alloc (.cells (row 32 (yv fun _ => 0#8)).toArray 25)).setCells w6.heap.size 0 (row 32 (yv RT)) = w8 at *
    generalize w6.heap.size = rc at *
    clear hX7 C7 hY7 hX6 Q5 P5 E5 kr
    simp only [Act.put]
    go_upto_region 14 with (fail)
    have hdr : Ext w8 w8.drew := (Ext.refl w8).draw
    have kc := check_go n x N h1 h2 hx (d x) RT _ _ (fun _ => 512) (pbs n d x) w8.drew (P8.out.ext hdr) (hC.out.ext (Ext.trans E8.out hdr)) hN.out (fun _ _ => rfl)
    have hright := path_right n x N d h1 h2 hN.out hx
    rw [← hRT.out] at hright
    refine wp_region_lad (fun X => Ext w8.drew X) [(false, 0), (false, 1), (false, 2), (false, 3), (false, 4), (false, 5), (false, 6), (false, 7), (true, 8), (false, 9), (false, 10), (false, 11), (false, 12), (false, 13), (false, 14), (false, 15), (false, 16), (false, 17), (false, 18), (false, 19)] (by kernel_rfl) (by kernel_rfl) (by decide +kernel) (by decide +kernel) (by decide +kernel) (by decide +kernel) (Ext.refl _) ?_
    refine wpX_f _ (.int .i64 (n : Int)) rfl rfl (fun X _ => by simp [go_sem]) ?_
    simp only [List.getElem_toArray, List.getElem_cons_zero, Act.put, List.setIfInBounds_toArray, List.set_cons_zero, List.set_cons_succ]
    refine wpX_f _ (.int .i64 (x : Int)) rfl rfl (fun X _ => by simp [go_sem]) ?_
    simp only [List.getElem_toArray, List.getElem_cons_zero, List.getElem_cons_succ, Act.put, List.setIfInBounds_toArray, List.set_cons_zero, List.set_cons_succ]
    refine wpX_f _ (.slice (some a) n cap) rfl rfl (fun X _ => by simp [go_sem]) ?_
    simp only [List.getElem_toArray, List.getElem_cons_zero, List.getElem_cons_succ, Act.put, List.setIfInBounds_toArray, List.set_cons_zero, List.set_cons_succ]
    refine wpX_f _ (.int .i64 (x : Int)) rfl rfl (fun X _ => by simp [go_sem]) ?_
    simp only [List.getElem_toArray, List.getElem_cons_zero, List.getElem_cons_succ, Act.put, List.setIfInBounds_toArray, List.set_cons_zero, List.set_cons_succ]
    refine wpX_f _ (.pointer (some (a.add (x * 32)))) rfl rfl (fun X _ => by simp [go_sem, x1]) ?_
    simp only [List.getElem_toArray, List.getElem_cons_zero, List.getElem_cons_succ, Act.put, List.setIfInBounds_toArray, List.set_cons_zero, List.set_cons_succ]
    refine wpX_f _ (.agg (row 32 (yv (d x))).toArray) rfl rfl (fun X hX => exec_loadL 25 (.tmp 54) rfl (a.add (x * 32)) 32 _ rfl (lie_leaf (hla.out.carry (Ext.trans E8.out (Ext.trans hdr hX))) x hx) Tryd.underlying25 rfl info24) ?_
    simp only [List.getElem_toArray, List.getElem_cons_zero, List.getElem_cons_succ, Act.put, List.setIfInBounds_toArray, List.set_cons_zero, List.set_cons_succ]
    refine wpX_f _ (.slice po N pc) rfl rfl (fun X _ => by simp [go_sem]) ?_
    simp only [List.getElem_toArray, List.getElem_cons_zero, List.getElem_cons_succ, Act.put, List.setIfInBounds_toArray, List.set_cons_zero, List.set_cons_succ]
    refine wpX_f _ (.agg (row 32 (yv RT)).toArray) rfl rfl (fun X hX => exec_loadR 25 (.tmp 6) rfl rb 0 32 _ rfl (Q8.out.carry (Ext.trans hdr hX)).range Tryd.underlying25 rfl info24) ?_
    simp only [List.getElem_toArray, List.getElem_cons_zero, List.getElem_cons_succ, Act.put, List.setIfInBounds_toArray, List.set_cons_zero, List.set_cons_succ]
    refine wpX_call _ rfl rfl (by simp [go_sem]) (kc.mono ?_)
    rintro e w9 ⟨z, rfl, hX9, hz9⟩
    obtain rfl : z = 0 := by
      rcases hz9 with ⟨h, _⟩ | ⟨_, h⟩
      · exact h
      · exact absurd hright h
    refine ⟨_, rfl, fun X => Ext w9 X, fun X hX => Ext.trans hX9 hX, Ext.refl _, ?_⟩
    simp only [List.getElem_toArray, List.getElem_cons_zero, List.getElem_cons_succ, Act.put, List.setIfInBounds_toArray, List.set_cons_zero, List.set_cons_succ]
    refine wpX_f _ (.bool true) rfl rfl (fun X _ => by simp [go_sem]) ?_
    simp only [List.getElem_toArray, List.getElem_cons_zero, List.getElem_cons_succ, Act.put, List.setIfInBounds_toArray, List.set_cons_zero, List.set_cons_succ]
    refine wpX_f _ (.bool true) rfl rfl (fun X _ => by simp [go_sem]) ?_
    simp only [List.getElem_toArray, List.getElem_cons_zero, List.getElem_cons_succ, Act.put, List.setIfInBounds_toArray, List.set_cons_zero, List.set_cons_succ]
    refine wpX_f _ (.int .i64 0) rfl rfl (fun X _ => by simp [go_sem]) ?_
    simp only [List.getElem_toArray, List.getElem_cons_zero, List.getElem_cons_succ, Act.put, List.setIfInBounds_toArray, List.set_cons_zero, List.set_cons_succ]
    refine wpX_f _ (.bool true) rfl rfl (fun X _ => by simp [go_sem]) ?_
    simp only [List.getElem_toArray, List.getElem_cons_zero, List.getElem_cons_succ, Act.put, List.setIfInBounds_toArray, List.set_cons_zero, List.set_cons_succ]
    refine wpX_f _ (.bool true) rfl rfl (fun X _ => by simp [go_sem]) ?_
    simp only [List.getElem_toArray, List.getElem_cons_zero, List.getElem_cons_succ, Act.put, List.setIfInBounds_toArray, List.set_cons_zero, List.set_cons_succ]
    refine wpX_f _ (.bool true) rfl rfl (fun X _ => by simp [go_sem]) ?_
    simp only [List.getElem_toArray, List.getElem_cons_zero, List.getElem_cons_succ, Act.put, List.setIfInBounds_toArray, List.set_cons_zero, List.set_cons_succ]
    refine wpX_f _ (.agg (row 32 (yv RT)).toArray) rfl rfl (fun X hX => exec_loadR 25 (.tmp 11) rfl rc 0 32 _ rfl (C8.out.carry (Ext.trans hdr (Ext.trans hX9 hX))).range Tryd.underlying25 rfl info24) ?_
    simp only [List.getElem_toArray, List.getElem_cons_zero, List.getElem_cons_succ, Act.put, List.setIfInBounds_toArray, List.set_cons_zero, List.set_cons_succ]
    refine wpX_f _ (.agg (row 32 (yv RT)).toArray) rfl rfl (fun X hX => exec_loadR 25 (.tmp 6) rfl rb 0 32 _ rfl (Q8.out.carry (Ext.trans hdr (Ext.trans hX9 hX))).range Tryd.underlying25 rfl info24) ?_
    simp only [List.getElem_toArray, List.getElem_cons_zero, List.getElem_cons_succ, Act.put, List.setIfInBounds_toArray, List.set_cons_zero, List.set_cons_succ]
    refine wpX_f _ (.bool true) rfl rfl (fun X hX => exec_cmp .eql 25 25 (.tmp 65) (.tmp 66) rfl _ _ rfl rfl (by kernel_rfl) true (eq24 _ X)) ?_
    simp only [List.getElem_toArray, List.getElem_cons_zero, List.getElem_cons_succ, Act.put, List.setIfInBounds_toArray, List.set_cons_zero, List.set_cons_succ]
    refine wpX_f _ (.bool true) rfl rfl (fun X _ => by simp [go_sem]) ?_
    simp only [List.getElem_toArray, List.getElem_cons_zero, List.getElem_cons_succ, Act.put, List.setIfInBounds_toArray, List.set_cons_zero, List.set_cons_succ]
    refine wpX_f _ (.bool true) rfl rfl (fun X _ => by simp [go_sem]) ?_
    simp only [List.getElem_toArray, List.getElem_cons_zero, List.getElem_cons_succ, Act.put, List.setIfInBounds_toArray, List.set_cons_zero, List.set_cons_succ]
    refine wpX_nil ?_
    have E9 := hideit (Ext.trans E8.out (Ext.trans hdr hX9))
    clear kc hright hX9 hdr C8 Q8 P8 E8
    go_wp2
    go_ret
    exact ⟨rfl, E9.out⟩
theorem walk (v : Value) (a : Int) (_ : (Lit.int .i64 a).wf = true) (w : World) (B : LArg v w) (hC : TabC w) : Calls Tryd.prog 4 #[v, .int .i64 a] w fun e w' => e = .returned (.bool true) ∧ Below w.heap.size w w' := by
  obtain ⟨n, d, hL, hn⟩ := B
  by_cases h : n < 1 ∨ 4096 < n
  · exact walk_no v n d a w hL h hn hC
  · exact walk_in v n d a w hL (by omega) (by omega) hC

theorem contract (H : Type) (enc : TypeId × Value → H) (W : World) (base : Nat) (args : Array Value) (ds gs : List (DataW H)) (before : List MemPlace)
    (hval0 : ∀ (j : Nat) t v, Tryd.f4.params[j]? = some t → args[j]? = some v → Value.okWide Tryd.prog W .any base t v)
    (hW : DataW.Whole enc Tryd.prog Tryd.f4.params.toList Rows.treePathsSpec.vars false W args.toList ds gs before) (hL : laidMetH Tryd.prog Rows.treePathsRow.laid W) :
    Calls Tryd.prog 4 args W fun e W' => ∃ v, e = .returned v ∧ Rows.treePathsSpec.post enc Tryd.prog Tryd.f4 false true false false W args v W' := by
  have hval := hval0
  have hW' := hW
  obtain ⟨p, q, hA0, hV, rfl, hfz, hnd⟩ := hW
  have hA : DataW.TrodAll enc Tryd.prog W 0 (fun _ => true) true Tryd.f4.params.toList args.toList ds p := hA0
  rw [Tryd.params4] at hA hval
  obtain ⟨v0, vs0, d0, ds0, p0, q0, hargs, rfl, rfl, h0, r0⟩ := trodAll_cons hA
  obtain ⟨v1, vs1, d1, ds1, p1, q1, rfl, rfl, rfl, h1, r1⟩ := trodAll_cons r0
  obtain ⟨rfl, rfl, rfl⟩ := trodAll_nil r1
  obtain rfl : args = #[v0, v1] := by cases args; simp_all
  obtain ⟨rfl, rfl⟩ := trodVars_none hV
  have h0s : 0 < W.heap.size := by
    have hc := (table hL).cell gTab 0 (by decide)
    rcases Nat.lt_or_ge 0 W.heap.size with h | h
    · exact h
    · exfalso
      have : W.heap[0]? = none := Array.getElem?_eq_none h
      simp [World.cell?, this] at hc
  have hC : TabC W := tabC hL h0s
  have k0 := h0
  have lt0 : ∀ x ∈ p0, x.block < W.heap.size := by obtain ⟨m, hm⟩ := k0; exact DataW.trod_lt m _ _ _ hm
  have k1 := h1
  have lt1 : ∀ x ∈ p1, x.block < W.heap.size := by obtain ⟨m, hm⟩ := k1; exact DataW.trod_lt m _ _ _ hm
  have B0 := larg (hval 0 22 v0 rfl rfl) h0
  obtain ⟨a1, rfl, rfl, rfl, w1⟩ := open_int Tryd.underlying3 (hval 1 3 v1 rfl rfl) h1
  clear hA0 hval0
  refine (walk v0 a1 w1 W B0 hC).mono fun e W' ⟨he, bel⟩ => ?_
  subst he
  exact ⟨_, rfl, _, _, _, [], _, [], hW', trodAll_mk1 (shut_bool Tryd.underlying4 _), (trodAll_cons_mk (Below.trod laidOut (by kernel_rfl) (of_decide_eq_true (by kernel_rfl)) k0 bel lt0) (trodAll_cons_mk (Below.trod laidOut (by kernel_rfl) (of_decide_eq_true (by kernel_rfl)) k1 bel lt1) trodAll_mk0)), rfl, bel.frame _, fun h => by cases h⟩

def wit : Array Value := #[.slice none 0 0, .int .i64 0]
def dat {H : Type} : List (DataW H) := [.nil, .lit (.int .i64 0)]
def setTab : Obj → Obj
  | .cells _ t frozen => .cells (tabL.map fun z => Value.int .u32 z).toArray t frozen
  | o => o
theorem laid_met (os : Os) : laidMet Tryd.prog Rows.treePathsRow.laid (({ World.holding Tryd.prog os ⟨#[], #[], []⟩ with heap := (World.holding Tryd.prog os ⟨#[], #[], []⟩).heap.modify 0 setTab } : World).forCall (fun _ _ => 0) ⟨#[], wit, []⟩).memory :=
  laidMet_of_run' 8 (by kernel_rfl) (by kernel_rfl)
theorem reads (os : Os) {H : Type} (enc : TypeId × Value → H) : ∃ places, DataW.whole enc Tryd.prog (({ World.holding Tryd.prog os ⟨#[], #[], []⟩ with heap := (World.holding Tryd.prog os ⟨#[], #[], []⟩).heap.modify 0 setTab } : World).forCall (fun _ _ => 0) ⟨#[], wit, []⟩).memory Tryd.f4.params.toList Rows.treePathsSpec.vars false wit.toList 8 = some (dat, [], places) :=
  ⟨[], by kernel_rfl⟩

set_option maxRecDepth 100000 in
theorem lifted (os : Os) (started : os.Started) (H : Type) (enc : TypeId × Value → H) (F : Stop.Interp) :
    ReturnsInHanded {} Tryd.checked os 4 .any ((OpenSpec.ofChange Rows.treePathsSpec).preRow enc Tryd.prog Tryd.f4 Rows.treePathsRow.domain false Rows.treePathsRow.laid) (((OpenSpec.ofChange Rows.treePathsSpec).at F).post enc Tryd.prog Tryd.f4 false true false false) := by
  obtain ⟨places, hx⟩ := reads os enc
  refine returnsInHanded_of_row (C := Tryd.checked) (s := (OpenSpec.ofChange Rows.treePathsSpec)) own started (by kernel_rfl) Tryd.func4
    (witness_row_at (enc := enc) (C := Tryd.checked) false ({ World.holding Tryd.prog os ⟨#[], #[], []⟩ with heap := (World.holding Tryd.prog os ⟨#[], #[], []⟩).heap.modify 0 setTab } : World) wit rfl (by kernel_rfl) (by kernel_rfl) (by kernel_rfl)
      (OpenSpec.preRow_of_cond 8 hx (by kernel_rfl) (fun k hk => by cases hk) (by kernel_rfl) (laid_met os))) ?_
  intro W base args ds gs before hval hW _ hcond hsz hL _ _
  exact contract H enc W base args ds gs before hval hW hL

theorem said : Rows.TreePathsSaid :=
  OpenClaim.holds_of_cond 4 Tryd.f4 rfl rfl rfl rfl rfl rfl rfl ⟨rfl, rfl, rfl, rfl, rfl⟩ rfl rfl rfl rfl rfl (by kernel_rfl) Tryd.func4 (by kernel_rfl)
    (of_decide_eq_true (by kernel_rfl)) (by unfold Func.isWrapper; first | (rw [if_pos (by decide +kernel)]; kernel_rfl) | (rw [if_neg (by decide +kernel)]; exact ⟨rfl, rfl⟩))
    (fun os started H enc _ F => by rw [OpenClaim.pre_eq_preRow]; exact lifted os started H enc F)

theorem plain (f : FuncId) (fn : Func) (hf : Tryd.pinned.checked.prog.funcNamed "casket/casketlaw16.TreePaths" = some f) (hfn : Tryd.pinned.checked.prog.funcs[f]? = some fn) :
    false = Tryd.pinned.checked.prog.looks [] ∧ ∀ (j : Nat) t, fn.params[j]? = some t → Tryd.pinned.checked.prog.wantsStandIn t = false := by
  obtain rfl : f = 4 := Option.some.inj ((show Tryd.prog.funcNamed "casket/casketlaw16.TreePaths" = some 4 by kernel_rfl).symm.trans hf) |>.symm
  obtain rfl : fn = Tryd.f4 := (Option.some.inj (Tryd.func4.symm.trans hfn)).symm
  refine ⟨by kernel_rfl, fun j t ht => ?_⟩
  rw [Tryd.params4] at ht
  have hm : t ∈ [22, 3] := by simpa using Array.mem_of_getElem? ht
  have hall : ([22, 3].all fun u => !Tryd.prog.wantsStandIn u) = true := by kernel_rfl
  exact (show Tryd.prog.wantsStandIn t = false by simpa using List.all_eq_true.1 hall t hm)

theorem card : Rows.TreePathsCardSaid :=
  Claim7.holds_tied_plain_at .later [] _ _ _ _ said (fun _ h => by cases h) (by kernel_rfl) (fun _ h => by cases h) treePaths_row_tie rfl ⟨rfl, rfl⟩ (by kernel_rfl) rfl plain (by kernel_rfl)
end Go.Proofs.YtapmheocllicnaaDoor.treePaths
namespace Go.Proofs.YtapmheocllicnaaDoor
theorem treePaths_holds : Rows.TreePathsCardSaid := treePaths.card
end Go.Proofs.YtapmheocllicnaaDoor
