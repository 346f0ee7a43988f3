/-
  A changed leaf changes no node of the tree but those of its path: whatever the leaves, the place and the leaf.
-/
import Derived.Test.YtienaaiaeinifaaDoorCards
import Derived.Test.YtienaaiaeinifaaDoorTie
import Derived.WalkKit
import Derived.ProofKit
import Derived.OpenShut
import Derived.ShutString
import Derived.ChangeOld
import Derived.Below
import Derived.Deep.DeepHandedRow
import Derived.Lib.LaidTab
import Derived.Test.YtienaaiaeinifaaDoorLiv
import Derived.Test.YtienaaiaeinifaaDoorPatM
import Derived.Test.YtienaaiaeinifaaDoorOpL
import Derived.Test.YtienaaiaeinifaaDoorOthM
import Derived.Test.YtienaaiaeinifaaDoorSst
namespace Go.Proofs.YtienaaiaeinifaaDoor.treeOthers
open Go.ChangeShapes Go.WideShapes Go.ChangeAt Go.RowKit
set_option linter.unusedVariables false

theorem own : ownKnob Tryd.prog.godebug = none := by kernel_rfl
theorem laidOut : laidOutB Tryd.prog = true := by kernel_rfl
theorem gTab : Tryd.prog.globalNamed "casket/sha.constants" = some 0 := by kernel_rfl
theorem gTabType : (Tryd.prog.globals[0]?).map (·.type) = some 77 := by kernel_rfl
theorem cellsG : Tryd.prog.cellsOf 77 = 64 := by kernel_rfl
theorem cellsE : Tryd.prog.cellsOf 67 = 1 := by kernel_rfl
def tabL : List Int := [1116352408, 1899447441, 3049323471, 3921009573, 961987163, 1508970993, 2453635748, 2870763221, 3624381080, 310598401, 607225278, 1426881987, 1925078388, 2162078206, 2614888103, 3248222580, 3835390401, 4022224774, 264347078, 604807628, 770255983, 1249150122, 1555081692, 1996064986, 2554220882, 2821834349, 2952996808, 3210313671, 3336571891, 3584528711, 113926993, 338241895, 666307205, 773529912, 1294757372, 1396182291, 1695183700, 1986661051, 2177026350, 2456956037, 2730485921, 2820302411, 3259730800, 3345764771, 3516065817, 3600352804, 4094571909, 275423344, 430227734, 506948616, 659060556, 883997877, 958139571, 1322822218, 1537002063, 1747873779, 1955562222, 2024104815, 2227730452, 2361852424, 2428436474, 2756734187, 3204031479, 3329325298]
theorem table {W : World} (h : laidMetH Tryd.prog Rows.treeOthersRow.laid W) : Lib.TabIs Tryd.prog W "casket/sha.constants" .u32 tabL :=
  Lib.tabIs_of_head (rest := []) gTab gTabType Tryd.underlying77 Tryd.underlying67 cellsE cellsG h
theorem tab_kT : ∀ j, j < 64 → tabL.getD j 0 = ((kT j).toNat : Int) := by decide +kernel
theorem tabC {W : World} (h : laidMetH Tryd.prog Rows.treeOthersRow.laid W) (h0 : 0 < W.heap.size) : TabC W :=
  ⟨fun j hj => by
    rw [← tab_kT j hj]
    exact (table h).cell gTab j hj, h0⟩

open Go.BigFrame
set_option maxRecDepth 20000 in
set_option maxHeartbeats 8000000 in
theorem walk_no (v : Value) (n : Nat) (d : Nat → Nat → BitVec 8) (b : Int) (lf : Nat → BitVec 8) (w : World) (hL : LV v n d w) (hn : n < 1 ∨ 4096 < n) (hn9 : n ≤ 9223372036854775807) (hC : TabC w) : Calls Tryd.prog 6 #[v, .int .i64 b, .agg (row 32 (yv lf)).toArray] w fun e w' => e = .returned (.bool true) ∧ Below w.heap.size w w' := by
  obtain ⟨ov, cap, rfl⟩ := hL.form
  have H0 := hideit (RowAt.new w 32 (yv lf) 25)
  have hE0 : Ext w (w.alloc (.cells (row 32 (yv lf)).toArray 25)) := (Below.refl _ _).alloc (Nat.le_refl _) _
  have kl := hideit (lives_any _ (hC.ext hE0))
  replace hE0 := hideit hE0
  clear hL H0 hC
  go_enter Tryd.func6, Tryd.ntmps6
  go_upto_region 1 with (fail)
  generalize w.alloc (.cells (row 32 (yv lf)).toArray 25) = w1 at *
  go_upto_region 3 with (go_at_call 11; refine kl.out.mono ?_; rintro e w4 ⟨rfl, hX4⟩; have E4 := hideit (Ext.trans hE0.out hX4); clear hX4)
  clear kl
  by_cases h1 : n < 1
  · have i1 : (n : Int) < 1 := by omega
    replace hn := hideit hn
    go_wp2
    go_ret
    exact ⟨rfl, E4.out⟩
  · have i1 : ¬ (n : Int) < 1 := by omega
    have i2 : (4096 : Int) < (n : Int) := by omega
    replace hn := hideit hn
    go_wp2
    go_ret
    exact ⟨rfl, E4.out⟩
set_option maxRecDepth 20000 in
set_option maxHeartbeats 16000000 in
theorem walk_in (v : Value) (n : Nat) (d : Nat → Nat → BitVec 8) (b : Int) (lf : Nat → BitVec 8) (w : World) (hL : LV v n d w) (h1 : 1 ≤ n) (h2 : n ≤ 4096) (hC : TabC w) : Calls Tryd.prog 6 #[v, .int .i64 b, .agg (row 32 (yv lf)).toArray] w fun e w' => e = .returned (.bool true) ∧ Below w.heap.size w w' := by
  obtain ⟨a, cap, rfl, hla⟩ : ∃ a cap, v = .slice (some a) n cap ∧ LieAt a (n * 32) (lfV d) w := by
    rcases hL with ⟨_, h⟩ | ⟨a, cap, h, _, hl⟩
    · omega
    · exact ⟨a, cap, h, hl⟩
  have H0 := hideit (RowAt.new w 32 (yv lf) 25)
  have hE0 : Ext w (w.alloc (.cells (row 32 (yv lf)).toArray 25)) := (Below.refl _ _).alloc (Nat.le_refl _) _
  have kl := hideit (lives_any _ (hC.ext hE0))
  replace hE0 := hideit hE0
  obtain ⟨N, hN⟩ : ∃ N, N = lvN n := ⟨_, rfl⟩
  have hN3 := lvN_pos n
  rw [← hN] at hN3
  replace hN := hideit hN
  replace hla := hideit hla
  have hz := zero24
  replace hC := hideit hC
  replace hL := hideit hL
  go_enter Tryd.func6, Tryd.ntmps6
  go_upto_region 1 with (fail)
  generalize w.alloc (.cells (row 32 (yv lf)).toArray 25) = w1 at *
  go_upto_region 3 with (go_at_call 11; refine kl.out.mono ?_; rintro e w3 ⟨rfl, hX4⟩; have E := hideit (Ext.trans hE0.out hX4); have L := hideit (H0.out.carry hX4); clear hX4 H0 hE0)
  clear kl
  have i1 : ¬ (n : Int) < 1 := by omega
  have i2 : ¬ (4096 : Int) < (n : Int) := by omega
  have n0 : ¬ n = 0 := by omega
  have t1 := Int.tmod_lt_of_pos b (show (0 : Int) < (n : Int) by omega)
  have t2 := Int.lt_tmod_of_pos b (show (0 : Int) < (n : Int) by omega)
  obtain ⟨r, hr⟩ : ∃ r, r = Int.tmod b (n : Int) := ⟨_, rfl⟩
  rw [← hr] at t1 t2
  replace hr := hideit hr
  go_upto_region 6 with (fail)
  refine wp_region_lit ?_
  refine wpList_run rfl (.int .i64 b) (by simp [go_sem]) ?_
  simp only [Act.put, List.setIfInBounds_toArray, List.set_cons_zero, List.set_cons_succ]
  refine wpList_run rfl (.int .i64 (n : Int)) (by simp [go_sem]) ?_
  simp only [Act.put, List.setIfInBounds_toArray, List.set_cons_zero, List.set_cons_succ]
  refine wpList_run rfl (.int .i64 r) (by simp [go_sem, n0, hr.out]) ?_
  simp only [Act.put, List.setIfInBounds_toArray, List.set_cons_zero, List.set_cons_succ]
  by_cases hneg : r < 0
  · obtain ⟨x, hx'⟩ : ∃ x : Nat, (x : Int) = r + (n : Int) := ⟨(r + n).toNat, by omega⟩
    have hx : x < n := by omega
    have x1 : (x : Int) < (n : Int) := by omega
    have hw : IntKind.i64.wrap (r + (n : Int)) = (x : Int) := by rw [IntKind.wrap_i64]; omega
    replace hw := hideit hw
    clear hx' t1 t2
    go_upto_region 8 with (fail)
    refine wp_region_lit ?_
    refine wpList_run rfl (.int .i64 r) (by simp [go_sem]) ?_
    simp only [Act.put, List.setIfInBounds_toArray, List.set_cons_zero, List.set_cons_succ]
    refine wpList_run rfl (.int .i64 (n : Int)) (by simp [go_sem]) ?_
    simp only [Act.put, List.setIfInBounds_toArray, List.set_cons_zero, List.set_cons_succ]
    refine wpList_run rfl (.int .i64 (x : Int)) (by simp [go_sem, hw.out]) ?_
    simp only [Act.put, List.setIfInBounds_toArray, List.set_cons_zero, List.set_cons_succ]
    clear hw hneg hr
    go_upto_region 9 with (fail)
    have hX4 : Ext w3 (w3.alloc (.cells #[] 25)) := (Below.refl _ _).alloc (Nat.le_refl _) _
    have hO4 := ownK_empty w3 32 w3.heap.size 25 (lfV d) (Nat.le_refl _)
    refine wp_region_lit ?_
    refine wpList_to rfl (.slice (some ⟨w3.heap.size, 0, none⟩) 0 0) (w3.alloc (.cells #[] 25)) (by simp [go_sem]) ?_
    simp only [Act.put, List.setIfInBounds_toArray, List.set_cons_zero, List.set_cons_succ]
    refine wpList_run rfl (.slice (some a) n cap) (by simp [go_sem]) ?_
    simp only [Act.put, List.setIfInBounds_toArray, List.set_cons_zero, List.set_cons_succ]
    refine wpList_growK (n := 0) (base := w3.heap.size) elem22K (by decide) rfl (.tmp 36) (.tmp 37) rfl rfl hO4 a n cap (lfV d) (lfV d) rfl (hla.out.carry (Ext.trans E.out hX4)) (fun _ _ => rfl) (fun j hj => rfl) (fun j hj => by rw [Nat.zero_mul, Nat.zero_add]) (by omega) (by omega) (Below.size hX4) ?_
    intro v9 w5 hO9 hg9
    rw [Nat.zero_add] at hO9
    have hX9 : Ext w3 w5 := Below.trans hX4 (below_grown (Below.size hX4) hg9 fun k hk => by cases hk; exact Nat.le_refl _)
    obtain ⟨db, dc, rfl, hdb, hdc, -, hD9⟩ := hO9.lies (by omega)
    have L9 := hideit (L.out.carry hX9)
    simp only [Act.put, List.setIfInBounds_toArray, List.set_cons_zero, List.set_cons_succ]
    clear hX4 hO4 hg9 hO9
    have hY9 : Ext w3 (w5.setCells db (x * 32) (row 32 (yv lf))) := below_setCells (w := w3) db hdb (row 32 (yv lf)) (x * 32) _ hX9
    have hth := hD9.thereSub (x * 32) 32 (by omega)
    have DD := hideit (row_change (leaf := lf) hD9 hx)
    replace hY9 := hideit hY9
    replace hth := hideit hth
    clear hX9 hD9
    go_upto_region 10 with (fail)
    refine wp_region_lit ?_
    refine wpList_run rfl (.slice (some ⟨db, 0, none⟩) n dc) (by simp [go_sem]) ?_
    simp only [Act.put, List.setIfInBounds_toArray, List.set_cons_zero, List.set_cons_succ]
    refine wpList_run rfl (.int .i64 (x : Int)) (by simp [go_sem]) ?_
    simp only [Act.put, List.setIfInBounds_toArray, List.set_cons_zero, List.set_cons_succ]
    refine wpList_run rfl (.agg (row 32 (yv lf)).toArray) (exec_loadR 25 (.tmp 5) rfl w.heap.size 0 32 _ rfl L9.out.range Tryd.underlying25 rfl info24) ?_
    simp only [Act.put, List.setIfInBounds_toArray, List.set_cons_zero, List.set_cons_succ]
    refine wpList_run rfl (.pointer (some ⟨db, x * 32, none⟩)) (by simp [go_sem, x1, add0]) ?_
    simp only [Act.put, List.setIfInBounds_toArray, List.set_cons_zero, List.set_cons_succ]
    refine wpList_store_mid rfl 25 (.tmp 42) (.tmp 41) rfl _ (x * 32) (row 32 (yv lf)).toArray rfl rfl (by rw [row_size]; exact hth.out) (by rw [row_size]; exact info24) (row_one fun _ _ => rfl) ?_
    rw [show (row 32 (yv lf)).toArray.toList = row 32 (yv lf) from rfl]
    replace E := hideit (Ext.trans E.out hY9.out)
    generalize w5.setCells db (x * 32) (row 32 (yv lf)) = w6 at *
    clear hY9 hth L9 L
    simp only [Act.put]
    have kb1 := build_any n h1 h2 _ d w6 (hL.out.ext E.out) (hC.out.ext E.out)
    obtain ⟨RT1, hRT1⟩ : ∃ RT, RT = rootF n (digB n d (lvN n) 0) := ⟨_, rfl⟩
    rw [← hRT1, ← hN.out] at kb1
    clear hRT1
    replace kb1 := hideit kb1
    go_upto_region 11 with (fail)
    refine wp_region_lit ?_
    refine wpList_run rfl (.slice (some a) n cap) (by simp [go_sem]) ?_
    simp only [Act.put, List.setIfInBounds_toArray, List.set_cons_zero, List.set_cons_succ]
    refine wpList_call rfl (by simp [go_sem]) ((kb1.out).mono ?_)
    rintro e w7 ⟨lv, Bs, rfl, hO7, hl7, hX7⟩
    refine ⟨_, rfl, ?_⟩
    simp only [Act.put, List.setIfInBounds_toArray, List.set_cons_zero, List.set_cons_succ]
    obtain ⟨vb, vcap, rfl, -, -, -, hv7⟩ := hO7.lies (by omega)
    replace E := hideit (Ext.trans E.out hX7)
    replace DD := hideit (DD.out.carry hX7)
    have R1 := hideit hv7
    have L1 : Hid (∀ j, j < N → LevAt (Bs j) (lc n j) (nodeB n d j) w7) := fun j hj => (hl7 j hj).2
    clear hO7 hl7 hX7 hv7 kb1
    refine wpList_run rfl (.tuple #[.slice (some ⟨vb, 0, none⟩) N vcap, .agg (row 32 (yv RT1)).toArray, .int .i64 0]) (by simp [go_sem]) ?_
    simp only [Act.put, List.setIfInBounds_toArray, List.set_cons_zero, List.set_cons_succ]
    refine wpList_run rfl (.slice (some ⟨vb, 0, none⟩) N vcap) (by simp [go_sem]) ?_
    simp only [Act.put, List.setIfInBounds_toArray, List.set_cons_zero, List.set_cons_succ]
    refine wpList_run rfl (.agg (row 32 (yv RT1)).toArray) (by simp [go_sem]) ?_
    simp only [Act.put, List.setIfInBounds_toArray, List.set_cons_zero, List.set_cons_succ]
    refine wpList_run rfl (.int .i64 0) (by simp [go_sem]) ?_
    simp only [Act.put, List.setIfInBounds_toArray, List.set_cons_zero, List.set_cons_succ]
    have hXa : Ext w7 (w7.alloc (.cells (row 32 (yv fun _ => 0#8)).toArray 25)) := (Below.refl _ _).alloc (Nat.le_refl _) _
    have Ca := RowAt.new w7 32 (yv fun _ => 0#8) 25
    have hYa := below_setCells (w := w7) w7.heap.size (Nat.le_refl _) (row 32 (yv RT1)) 0 _ hXa
    have Q1 := hideit (Ca.cells (g' := yv RT1))
    replace E := hideit (Ext.trans E.out hYa)
    replace DD := hideit (DD.out.carry hYa)
    replace R1 := hideit (R1.out.carry hYa)
    replace L1 := hideit (fun j hj => (L1.out j hj).carry hYa)
    refine wpList_to rfl (.pointer (some ⟨w7.heap.size, 0, none⟩)) (w7.alloc (.cells (row 32 (yv fun _ => 0#8)).toArray 25)) (by simp [go_sem, hz]) ?_
    simp only [Act.put, List.setIfInBounds_toArray, List.set_cons_zero, List.set_cons_succ]
    refine wpList_run rfl (.slice (some ⟨vb, 0, none⟩) N vcap) (by simp [go_sem]) ?_
    simp only [Act.put, List.setIfInBounds_toArray, List.set_cons_zero, List.set_cons_succ]
    refine wpList_store_mid rfl 25 (.tmp 11) (.tmp 47) rfl _ 0 (row 32 (yv RT1)).toArray rfl rfl (by rw [row_size]; exact Ca.there) (by rw [row_size]; exact info24) (row_one fun _ _ => rfl) ?_
    rw [show (row 32 (yv RT1)).toArray.toList = row 32 (yv RT1) from rfl]
    generalize (w7.alloc (.cells (row 32 (yv fun _ => 0#8)).toArray 25)).setCells w7.heap.size 0 (row 32 (yv RT1)) = w8 at *
    generalize w7.heap.size = ra at *
    clear hXa Ca hYa
    simp only [Act.put]
    have kb2 := build_any n h1 h2 (.slice (some ⟨db, 0, none⟩) n dc) (dch d x lf) w8 (.inr ⟨_, dc, rfl, hdc, DD.out.lie _ (Nat.le_refl _)⟩) (hC.out.ext E.out)
    obtain ⟨RT2, hRT2⟩ : ∃ RT, RT = rootF n (digB n (dch d x lf) (lvN n) 0) := ⟨_, rfl⟩
    rw [← hRT2, ← hN.out] at kb2
    clear hRT2
    replace kb2 := hideit kb2
    go_upto_region 12 with (fail)
    refine wp_region_lit ?_
    refine wpList_run rfl (.slice (some ⟨db, 0, none⟩) n dc) (by simp [go_sem]) ?_
    simp only [Act.put, List.setIfInBounds_toArray, List.set_cons_zero, List.set_cons_succ]
    refine wpList_call rfl (by simp [go_sem]) ((kb2.out).mono ?_)
    rintro e w9 ⟨lv2, Bs2, rfl, hO10, hl10, hX10⟩
    refine ⟨_, rfl, ?_⟩
    simp only [Act.put, List.setIfInBounds_toArray, List.set_cons_zero, List.set_cons_succ]
    obtain ⟨vb2, vcap2, rfl, -, -, -, hv10⟩ := hO10.lies (by omega)
    replace E := hideit (Ext.trans E.out hX10)
    replace R1 := hideit (R1.out.carry hX10)
    replace L1 := hideit (fun j hj => (L1.out j hj).carry hX10)
    have R2 := hideit hv10
    have L2 : Hid (∀ j, j < N → LevAt (Bs2 j) (lc n j) (nodeB n (dch d x lf) j) w9) := fun j hj => (hl10 j hj).2
    clear kb2 DD hO10 hl10 hX10 hv10 Q1
    refine wpList_run rfl (.tuple #[.slice (some ⟨vb2, 0, none⟩) N vcap2, .agg (row 32 (yv RT2)).toArray, .int .i64 0]) (by simp [go_sem]) ?_
    simp only [Act.put, List.setIfInBounds_toArray, List.set_cons_zero, List.set_cons_succ]
    refine wpList_run rfl (.slice (some ⟨vb2, 0, none⟩) N vcap2) (by simp [go_sem]) ?_
    simp only [Act.put, List.setIfInBounds_toArray, List.set_cons_zero, List.set_cons_succ]
    refine wpList_run rfl (.agg (row 32 (yv RT2)).toArray) (by simp [go_sem]) ?_
    simp only [Act.put, List.setIfInBounds_toArray, List.set_cons_zero, List.set_cons_succ]
    refine wpList_run rfl (.int .i64 0) (by simp [go_sem]) ?_
    simp only [Act.put, List.setIfInBounds_toArray, List.set_cons_zero, List.set_cons_succ]
    have hXa : Ext w9 (w9.alloc (.cells (row 32 (yv fun _ => 0#8)).toArray 25)) := (Below.refl _ _).alloc (Nat.le_refl _) _
    have Ca := RowAt.new w9 32 (yv fun _ => 0#8) 25
    have hYa := below_setCells (w := w9) w9.heap.size (Nat.le_refl _) (row 32 (yv RT2)) 0 _ hXa
    have Q2 := hideit (Ca.cells (g' := yv RT2))
    replace E := hideit (Ext.trans E.out hYa)
    replace R1 := hideit (R1.out.carry hYa)
    replace L1 := hideit (fun j hj => (L1.out j hj).carry hYa)
    replace R2 := hideit (R2.out.carry hYa)
    replace L2 := hideit (fun j hj => (L2.out j hj).carry hYa)
    refine wpList_to rfl (.pointer (some ⟨w9.heap.size, 0, none⟩)) (w9.alloc (.cells (row 32 (yv fun _ => 0#8)).toArray 25)) (by simp [go_sem, hz]) ?_
    simp only [Act.put, List.setIfInBounds_toArray, List.set_cons_zero, List.set_cons_succ]
    refine wpList_run rfl (.slice (some ⟨vb2, 0, none⟩) N vcap2) (by simp [go_sem]) ?_
    simp only [Act.put, List.setIfInBounds_toArray, List.set_cons_zero, List.set_cons_succ]
    refine wpList_store_mid rfl 25 (.tmp 14) (.tmp 53) rfl _ 0 (row 32 (yv RT2)).toArray rfl rfl (by rw [row_size]; exact Ca.there) (by rw [row_size]; exact info24) (row_one fun _ _ => rfl) ?_
    rw [show (row 32 (yv RT2)).toArray.toList = row 32 (yv RT2) from rfl]
    generalize (w9.alloc (.cells (row 32 (yv fun _ => 0#8)).toArray 25)).setCells w9.heap.size 0 (row 32 (yv RT2)) = w10 at *
    generalize w9.heap.size = rs at *
    clear hXa Ca hYa
    simp only [Act.put]
    clear Q2
    have N0 : ¬ N = 0 := by omega
    have hup := hideit (up_lt n x hx)
    have hlv := bld_lv n h1 h2
    rw [← hN.out] at hlv
    replace hlv := hideit hlv
    go_wp2
    go_loopw [8, 16] (fun xv iv X => ∃ j q : Nat, j ≤ N ∧ iv = .int .i64 (j : Int) ∧ xv = .int .i64 (q : Int) ∧ q = x / 16 ^ j ∧ Ext w10 X) (fun _ iv _ => N - (intOf iv).toNat)
    case atStart => exact ⟨0, x, Nat.zero_le _, rfl, rfl, by simp, Ext.refl _⟩
    case round =>
      obtain ⟨j, q, hj, rfl, rfl, hq, hE⟩ := hrel
      replace hE := hideit hE
      by_cases hlt : j < N
      · have j0 : (0 : Int) ≤ (j : Int) := by omega
        have j1 : (j : Int) < (N : Int) := by omega
        have hq4 : q ≤ 4096 := by rw [hq]; have := Nat.div_le_self x (16 ^ j); omega
        obtain ⟨p, hp⟩ : ∃ p, p = q / 16 := ⟨_, rfl⟩
        have hp2 : p = x / 16 ^ (j + 1) := by rw [hp, hq, Nat.pow_succ, ← Nat.div_div_eq_div_mul]
        obtain ⟨c, hc⟩ : ∃ c, c = lc n j := ⟨_, rfl⟩
        have g2 := (hlv.out j hlt).2.1
        rw [← hc] at g2
        have eq : Int.tdiv (q : Int) 16 = (p : Int) := by rw [hp, Int.tdiv_eq_ediv_of_nonneg (by omega)]; omega
        have ew : IntKind.i64.wrap (p : Int) = (p : Int) := by rw [IntKind.wrap_i64]; omega
        replace hp := hideit hp
        replace hp2 := hideit hp2
        replace hq := hideit hq
        replace hc := hideit hc
        replace eq := hideit eq
        replace ew := hideit ew
        go_upto_region 18 with (fail)
        refine wp_region_lit ?_
        refine wpList_run rfl (.int .i64 (q : Int)) (by simp [go_sem]) ?_
        simp only [Act.put, List.setIfInBounds_toArray, List.set_cons_zero, List.set_cons_succ]
        refine wpList_run rfl (.int .i64 (p : Int)) (by simp [go_sem, eq.out, ew.out]) ?_
        simp only [Act.put, List.setIfInBounds_toArray, List.set_cons_zero, List.set_cons_succ]
        go_upto_region 19 with (fail)
        have hED := hideit (Ext.trans hE.out (Ext.refl wr).draw)
        refine wp_region_lad (fun X => Ext w10 X) [(false, 0), (false, 1), (false, 2), (false, 3), (false, 4), (false, 5), (false, 6), (false, 7), (false, 8), (false, 9), (false, 10)] (by kernel_rfl) (by kernel_rfl) (by decide +kernel) (by decide +kernel) (by decide +kernel) (by decide +kernel) hED.out ?_
        refine wpX_f _ (.slice (some ⟨vb, 0, none⟩) N vcap) rfl rfl (fun X _ => by simp [go_sem]) ?_
        simp only [List.getElem_toArray, List.getElem_cons_zero, Act.put, List.setIfInBounds_toArray, List.set_cons_zero, List.set_cons_succ]
        refine wpX_f _ (.int .i64 (j : Int)) rfl rfl (fun X _ => by simp [go_sem]) ?_
        simp only [List.getElem_toArray, List.getElem_cons_zero, List.getElem_cons_succ, Act.put, List.setIfInBounds_toArray, List.set_cons_zero, List.set_cons_succ]
        refine wpX_f _ (.pointer (some ⟨vb, j, none⟩)) rfl rfl (fun X _ => by simp [go_sem, j1]) ?_
        simp only [List.getElem_toArray, List.getElem_cons_zero, List.getElem_cons_succ, Act.put, List.setIfInBounds_toArray, List.set_cons_zero, List.set_cons_succ]
        refine wpX_f _ (.slice (some ⟨Bs j, 0, none⟩) c c) rfl rfl (fun X hX => by have e := (R1.out.carry hX).1 j hlt; rw [show lvV n Bs j = .slice (some ⟨Bs j, 0, none⟩) c c by rw [hc.out]; rfl] at e; simp [go_sem, e]) ?_
        simp only [List.getElem_toArray, List.getElem_cons_zero, List.getElem_cons_succ, Act.put, List.setIfInBounds_toArray, List.set_cons_zero, List.set_cons_succ]
        refine wpX_f _ (.int .i64 (c : Int)) rfl rfl (fun X _ => by simp [go_sem]) ?_
        simp only [List.getElem_toArray, List.getElem_cons_zero, List.getElem_cons_succ, Act.put, List.setIfInBounds_toArray, List.set_cons_zero, List.set_cons_succ]
        refine wpX_f _ (.slice (some ⟨vb2, 0, none⟩) N vcap2) rfl rfl (fun X _ => by simp [go_sem]) ?_
        simp only [List.getElem_toArray, List.getElem_cons_zero, List.getElem_cons_succ, Act.put, List.setIfInBounds_toArray, List.set_cons_zero, List.set_cons_succ]
        refine wpX_f _ (.int .i64 (j : Int)) rfl rfl (fun X _ => by simp [go_sem]) ?_
        simp only [List.getElem_toArray, List.getElem_cons_zero, List.getElem_cons_succ, Act.put, List.setIfInBounds_toArray, List.set_cons_zero, List.set_cons_succ]
        refine wpX_f _ (.pointer (some ⟨vb2, j, none⟩)) rfl rfl (fun X _ => by simp [go_sem, j1]) ?_
        simp only [List.getElem_toArray, List.getElem_cons_zero, List.getElem_cons_succ, Act.put, List.setIfInBounds_toArray, List.set_cons_zero, List.set_cons_succ]
        refine wpX_f _ (.slice (some ⟨Bs2 j, 0, none⟩) c c) rfl rfl (fun X hX => by have e := (R2.out.carry hX).1 j hlt; rw [show lvV n Bs2 j = .slice (some ⟨Bs2 j, 0, none⟩) c c by rw [hc.out]; rfl] at e; simp [go_sem, e]) ?_
        simp only [List.getElem_toArray, List.getElem_cons_zero, List.getElem_cons_succ, Act.put, List.setIfInBounds_toArray, List.set_cons_zero, List.set_cons_succ]
        refine wpX_f _ (.int .i64 (c : Int)) rfl rfl (fun X _ => by simp [go_sem]) ?_
        simp only [List.getElem_toArray, List.getElem_cons_zero, List.getElem_cons_succ, Act.put, List.setIfInBounds_toArray, List.set_cons_zero, List.set_cons_succ]
        refine wpX_f _ (.bool false) rfl rfl (fun X _ => by simp [go_sem]) ?_
        simp only [List.getElem_toArray, List.getElem_cons_zero, List.getElem_cons_succ, Act.put, List.setIfInBounds_toArray, List.set_cons_zero, List.set_cons_succ]
        refine wpX_nil ?_
        go_wp2
        go_loopw [17] (fun mv X => ∃ m : Nat, m ≤ c ∧ mv = .int .i64 (m : Int) ∧ Ext w10 X) (fun mv _ => c - (intOf mv).toNat)
        case atStart => exact ⟨0, Nat.zero_le _, rfl, hED.out⟩
        case round =>
          clear hE hED
          obtain ⟨m, hm, rfl, hE⟩ := hrel
          have e1 := (R1.out.carry hE).1 j hlt
          rw [show lvV n Bs j = .slice (some ⟨Bs j, 0, none⟩) c c by rw [hc.out]; rfl] at e1
          replace hE := hideit hE
          by_cases hml : m < c
          · have m0 : (0 : Int) ≤ (m : Int) := by omega
            have m1 : (m : Int) < (c : Int) := by omega
            have hED := hideit (Ext.trans hE.out (Ext.refl wr).draw)
            go_upto_region 24 with (fail)
            clear e1
            by_cases hmp : m = p
            · refine wp_region_lad (fun X => Ext w10 X) [(false, 0), (false, 1), (false, 2), (false, 3), (false, 4), (false, 5), (false, 6), (false, 7), (false, 8), (false, 9), (false, 10), (false, 11), (false, 12), (false, 13), (false, 14), (false, 15), (false, 16), (false, 17), (false, 18), (false, 19), (false, 20), (false, 21)] (by kernel_rfl) (by kernel_rfl) (by decide +kernel) (by decide +kernel) (by decide +kernel) (by decide +kernel) hED.out ?_
              refine wpX_f _ (.int .i64 (m : Int)) rfl rfl (fun X _ => by simp [go_sem]) ?_
              simp only [List.getElem_toArray, List.getElem_cons_zero, Act.put, List.setIfInBounds_toArray, List.set_cons_zero, List.set_cons_succ]
              refine wpX_f _ (.int .i64 (p : Int)) rfl rfl (fun X _ => by simp [go_sem]) ?_
              simp only [List.getElem_toArray, List.getElem_cons_zero, List.getElem_cons_succ, Act.put, List.setIfInBounds_toArray, List.set_cons_zero, List.set_cons_succ]
              refine wpX_f _ (.bool false) rfl rfl (fun X _ => by simp [go_sem, hmp]) ?_
              simp only [List.getElem_toArray, List.getElem_cons_zero, List.getElem_cons_succ, Act.put, List.setIfInBounds_toArray, List.set_cons_zero, List.set_cons_succ]
              refine wpX_f _ (.bool false) rfl rfl (fun X _ => by simp [go_sem]) ?_
              simp only [List.getElem_toArray, List.getElem_cons_zero, List.getElem_cons_succ, Act.put, List.setIfInBounds_toArray, List.set_cons_zero, List.set_cons_succ]
              refine wpX_fskip _ rfl rfl ?_
              simp only [List.getElem_toArray, List.getElem_cons_zero, List.getElem_cons_succ, Act.put, List.setIfInBounds_toArray, List.set_cons_zero, List.set_cons_succ]
              refine wpX_fskip _ rfl rfl ?_
              simp only [List.getElem_toArray, List.getElem_cons_zero, List.getElem_cons_succ, Act.put, List.setIfInBounds_toArray, List.set_cons_zero, List.set_cons_succ]
              refine wpX_fskip _ rfl rfl ?_
              simp only [List.getElem_toArray, List.getElem_cons_zero, List.getElem_cons_succ, Act.put, List.setIfInBounds_toArray, List.set_cons_zero, List.set_cons_succ]
              refine wpX_fskip _ rfl rfl ?_
              simp only [List.getElem_toArray, List.getElem_cons_zero, List.getElem_cons_succ, Act.put, List.setIfInBounds_toArray, List.set_cons_zero, List.set_cons_succ]
              refine wpX_fskip _ rfl rfl ?_
              simp only [List.getElem_toArray, List.getElem_cons_zero, List.getElem_cons_succ, Act.put, List.setIfInBounds_toArray, List.set_cons_zero, List.set_cons_succ]
              refine wpX_fskip _ rfl rfl ?_
              simp only [List.getElem_toArray, List.getElem_cons_zero, List.getElem_cons_succ, Act.put, List.setIfInBounds_toArray, List.set_cons_zero, List.set_cons_succ]
              refine wpX_fskip _ rfl rfl ?_
              simp only [List.getElem_toArray, List.getElem_cons_zero, List.getElem_cons_succ, Act.put, List.setIfInBounds_toArray, List.set_cons_zero, List.set_cons_succ]
              refine wpX_fskip _ rfl rfl ?_
              simp only [List.getElem_toArray, List.getElem_cons_zero, List.getElem_cons_succ, Act.put, List.setIfInBounds_toArray, List.set_cons_zero, List.set_cons_succ]
              refine wpX_fskip _ rfl rfl ?_
              simp only [List.getElem_toArray, List.getElem_cons_zero, List.getElem_cons_succ, Act.put, List.setIfInBounds_toArray, List.set_cons_zero, List.set_cons_succ]
              refine wpX_fskip _ rfl rfl ?_
              simp only [List.getElem_toArray, List.getElem_cons_zero, List.getElem_cons_succ, Act.put, List.setIfInBounds_toArray, List.set_cons_zero, List.set_cons_succ]
              refine wpX_fskip _ rfl rfl ?_
              simp only [List.getElem_toArray, List.getElem_cons_zero, List.getElem_cons_succ, Act.put, List.setIfInBounds_toArray, List.set_cons_zero, List.set_cons_succ]
              refine wpX_fskip _ rfl rfl ?_
              simp only [List.getElem_toArray, List.getElem_cons_zero, List.getElem_cons_succ, Act.put, List.setIfInBounds_toArray, List.set_cons_zero, List.set_cons_succ]
              refine wpX_fskip _ rfl rfl ?_
              simp only [List.getElem_toArray, List.getElem_cons_zero, List.getElem_cons_succ, Act.put, List.setIfInBounds_toArray, List.set_cons_zero, List.set_cons_succ]
              refine wpX_fskip _ rfl rfl ?_
              simp only [List.getElem_toArray, List.getElem_cons_zero, List.getElem_cons_succ, Act.put, List.setIfInBounds_toArray, List.set_cons_zero, List.set_cons_succ]
              refine wpX_fskip _ rfl rfl ?_
              simp only [List.getElem_toArray, List.getElem_cons_zero, List.getElem_cons_succ, Act.put, List.setIfInBounds_toArray, List.set_cons_zero, List.set_cons_succ]
              refine wpX_fskip _ rfl rfl ?_
              simp only [List.getElem_toArray, List.getElem_cons_zero, List.getElem_cons_succ, Act.put, List.setIfInBounds_toArray, List.set_cons_zero, List.set_cons_succ]
              refine wpX_fskip _ rfl rfl ?_
              simp only [List.getElem_toArray, List.getElem_cons_zero, List.getElem_cons_succ, Act.put, List.setIfInBounds_toArray, List.set_cons_zero, List.set_cons_succ]
              refine wpX_f _ (.bool false) rfl rfl (fun X _ => by simp [go_sem]) ?_
              simp only [List.getElem_toArray, List.getElem_cons_zero, List.getElem_cons_succ, Act.put, List.setIfInBounds_toArray, List.set_cons_zero, List.set_cons_succ]
              refine wpX_nil ?_
              go_wp2
              exact ⟨⟨m + 1, by omega, by go_num, hED.out⟩, by simp [intOf]; omega⟩
            · obtain ⟨s1, hs1⟩ : ∃ s1, s1 = bstr 512 (fun t => ((nodeB n d j m t).toNat : Int)) := ⟨_, rfl⟩
              have hs2 : s1 = bstr 512 (fun t => ((nodeB n (dch d x lf) j m t).toNat : Int)) := by
                rw [hs1]
                exact bstr_congr fun t ht => by rw [node_other n d x lf j m t (by rw [← hp2.out]; exact hmp) ht]
              have ca : ∀ X, Ext w10 X → (convert 23 9 (.slice (some ⟨Bs j + 1 + m, 0, none⟩) 512 512)).run Tryd.prog X = .ok (.string s1) X := fun X hX => by
                rw [hs1]
                exact convV _ _ _ X ((((L1.out j hlt).carry hX).each m (by rw [← hc.out]; exact hml)).bv 512 (Nat.le_refl _))
              have cb : ∀ X, Ext w10 X → (convert 23 9 (.slice (some ⟨Bs2 j + 1 + m, 0, none⟩) 512 512)).run Tryd.prog X = .ok (.string s1) X := fun X hX => by
                rw [hs2]
                exact convV _ _ _ X ((((L2.out j hlt).carry hX).each m (by rw [← hc.out]; exact hml)).bv 512 (Nat.le_refl _))
              clear hs1 hs2
              have hmi : ¬ (m : Int) = (p : Int) := by omega
              refine wp_region_lad (fun X => Ext w10 X) [(false, 0), (false, 1), (false, 2), (false, 3), (false, 4), (false, 5), (false, 6), (false, 7), (false, 8), (false, 9), (false, 10), (false, 11), (false, 12), (false, 13), (false, 14), (false, 15), (false, 16), (false, 17), (false, 18), (false, 19), (false, 20), (false, 21)] (by kernel_rfl) (by kernel_rfl) (by decide +kernel) (by decide +kernel) (by decide +kernel) (by decide +kernel) hED.out ?_
              refine wpX_f _ (.int .i64 (m : Int)) rfl rfl (fun X _ => by simp [go_sem]) ?_
              simp only [List.getElem_toArray, List.getElem_cons_zero, Act.put, List.setIfInBounds_toArray, List.set_cons_zero, List.set_cons_succ]
              refine wpX_f _ (.int .i64 (p : Int)) rfl rfl (fun X _ => by simp [go_sem]) ?_
              simp only [List.getElem_toArray, List.getElem_cons_zero, List.getElem_cons_succ, Act.put, List.setIfInBounds_toArray, List.set_cons_zero, List.set_cons_succ]
              refine wpX_f _ (.bool true) rfl rfl (fun X _ => by simp [go_sem, hmi]) ?_
              simp only [List.getElem_toArray, List.getElem_cons_zero, List.getElem_cons_succ, Act.put, List.setIfInBounds_toArray, List.set_cons_zero, List.set_cons_succ]
              refine wpX_f _ (.bool true) rfl rfl (fun X _ => by simp [go_sem]) ?_
              simp only [List.getElem_toArray, List.getElem_cons_zero, List.getElem_cons_succ, Act.put, List.setIfInBounds_toArray, List.set_cons_zero, List.set_cons_succ]
              refine wpX_f _ (.slice (some ⟨vb, 0, none⟩) N vcap) rfl rfl (fun X _ => by simp [go_sem]) ?_
              simp only [List.getElem_toArray, List.getElem_cons_zero, List.getElem_cons_succ, Act.put, List.setIfInBounds_toArray, List.set_cons_zero, List.set_cons_succ]
              refine wpX_f _ (.int .i64 (j : Int)) rfl rfl (fun X _ => by simp [go_sem]) ?_
              simp only [List.getElem_toArray, List.getElem_cons_zero, List.getElem_cons_succ, Act.put, List.setIfInBounds_toArray, List.set_cons_zero, List.set_cons_succ]
              refine wpX_f _ (.pointer (some ⟨vb, j, none⟩)) rfl rfl (fun X _ => by simp [go_sem, j1]) ?_
              simp only [List.getElem_toArray, List.getElem_cons_zero, List.getElem_cons_succ, Act.put, List.setIfInBounds_toArray, List.set_cons_zero, List.set_cons_succ]
              refine wpX_f _ (.slice (some ⟨Bs j, 0, none⟩) c c) rfl rfl (fun X hX => by have e := (R1.out.carry hX).1 j hlt; rw [show lvV n Bs j = .slice (some ⟨Bs j, 0, none⟩) c c by rw [hc.out]; rfl] at e; simp [go_sem, e]) ?_
              simp only [List.getElem_toArray, List.getElem_cons_zero, List.getElem_cons_succ, Act.put, List.setIfInBounds_toArray, List.set_cons_zero, List.set_cons_succ]
              refine wpX_f _ (.int .i64 (m : Int)) rfl rfl (fun X _ => by simp [go_sem]) ?_
              simp only [List.getElem_toArray, List.getElem_cons_zero, List.getElem_cons_succ, Act.put, List.setIfInBounds_toArray, List.set_cons_zero, List.set_cons_succ]
              refine wpX_f _ (.pointer (some ⟨Bs j, m, none⟩)) rfl rfl (fun X _ => by simp [go_sem, m1]) ?_
              simp only [List.getElem_toArray, List.getElem_cons_zero, List.getElem_cons_succ, Act.put, List.setIfInBounds_toArray, List.set_cons_zero, List.set_cons_succ]
              refine wpX_f _ (.slice (some ⟨Bs j + 1 + m, 0, none⟩) 512 512) rfl rfl (fun X hX => by have e := ((L1.out j hlt).carry hX).list.1 m (by rw [← hc.out]; exact hml); rw [show ndV (Bs j) m = .slice (some ⟨Bs j + 1 + m, 0, none⟩) 512 512 from rfl] at e; simp [go_sem, e]) ?_
              simp only [List.getElem_toArray, List.getElem_cons_zero, List.getElem_cons_succ, Act.put, List.setIfInBounds_toArray, List.set_cons_zero, List.set_cons_succ]
              refine wpX_f _ (.string s1) rfl rfl (fun X hX => by have e := ca X hX; simp [go_sem, e]) ?_
              simp only [List.getElem_toArray, List.getElem_cons_zero, List.getElem_cons_succ, Act.put, List.setIfInBounds_toArray, List.set_cons_zero, List.set_cons_succ]
              refine wpX_f _ (.slice (some ⟨vb2, 0, none⟩) N vcap2) rfl rfl (fun X _ => by simp [go_sem]) ?_
              simp only [List.getElem_toArray, List.getElem_cons_zero, List.getElem_cons_succ, Act.put, List.setIfInBounds_toArray, List.set_cons_zero, List.set_cons_succ]
              refine wpX_f _ (.int .i64 (j : Int)) rfl rfl (fun X _ => by simp [go_sem]) ?_
              simp only [List.getElem_toArray, List.getElem_cons_zero, List.getElem_cons_succ, Act.put, List.setIfInBounds_toArray, List.set_cons_zero, List.set_cons_succ]
              refine wpX_f _ (.pointer (some ⟨vb2, j, none⟩)) rfl rfl (fun X _ => by simp [go_sem, j1]) ?_
              simp only [List.getElem_toArray, List.getElem_cons_zero, List.getElem_cons_succ, Act.put, List.setIfInBounds_toArray, List.set_cons_zero, List.set_cons_succ]
              refine wpX_f _ (.slice (some ⟨Bs2 j, 0, none⟩) c c) rfl rfl (fun X hX => by have e := (R2.out.carry hX).1 j hlt; rw [show lvV n Bs2 j = .slice (some ⟨Bs2 j, 0, none⟩) c c by rw [hc.out]; rfl] at e; simp [go_sem, e]) ?_
              simp only [List.getElem_toArray, List.getElem_cons_zero, List.getElem_cons_succ, Act.put, List.setIfInBounds_toArray, List.set_cons_zero, List.set_cons_succ]
              refine wpX_f _ (.int .i64 (m : Int)) rfl rfl (fun X _ => by simp [go_sem]) ?_
              simp only [List.getElem_toArray, List.getElem_cons_zero, List.getElem_cons_succ, Act.put, List.setIfInBounds_toArray, List.set_cons_zero, List.set_cons_succ]
              refine wpX_f _ (.pointer (some ⟨Bs2 j, m, none⟩)) rfl rfl (fun X _ => by simp [go_sem, m1]) ?_
              simp only [List.getElem_toArray, List.getElem_cons_zero, List.getElem_cons_succ, Act.put, List.setIfInBounds_toArray, List.set_cons_zero, List.set_cons_succ]
              refine wpX_f _ (.slice (some ⟨Bs2 j + 1 + m, 0, none⟩) 512 512) rfl rfl (fun X hX => by have e := ((L2.out j hlt).carry hX).list.1 m (by rw [← hc.out]; exact hml); rw [show ndV (Bs2 j) m = .slice (some ⟨Bs2 j + 1 + m, 0, none⟩) 512 512 from rfl] at e; simp [go_sem, e]) ?_
              simp only [List.getElem_toArray, List.getElem_cons_zero, List.getElem_cons_succ, Act.put, List.setIfInBounds_toArray, List.set_cons_zero, List.set_cons_succ]
              refine wpX_f _ (.string s1) rfl rfl (fun X hX => by have e := cb X hX; simp [go_sem, e]) ?_
              simp only [List.getElem_toArray, List.getElem_cons_zero, List.getElem_cons_succ, Act.put, List.setIfInBounds_toArray, List.set_cons_zero, List.set_cons_succ]
              refine wpX_f _ (.bool false) rfl rfl (fun X _ => by simp [go_sem]) ?_
              simp only [List.getElem_toArray, List.getElem_cons_zero, List.getElem_cons_succ, Act.put, List.setIfInBounds_toArray, List.set_cons_zero, List.set_cons_succ]
              refine wpX_f _ (.bool false) rfl rfl (fun X _ => by simp [go_sem]) ?_
              simp only [List.getElem_toArray, List.getElem_cons_zero, List.getElem_cons_succ, Act.put, List.setIfInBounds_toArray, List.set_cons_zero, List.set_cons_succ]
              clear ca cb
              refine wpX_nil ?_
              go_wp2
              exact ⟨⟨m + 1, by omega, by go_num, hED.out⟩, by simp [intOf]; omega⟩
          · obtain rfl : m = c := by omega
            have m1 : ¬ (m : Int) < (m : Int) := by omega
            go_wp2
            exact ⟨⟨j + 1, p, by omega, by go_num, rfl, hp2.out, hE.out⟩, by simp [intOf]; omega⟩
      · obtain rfl : j = N := by omega
        have j1 : ¬ (j : Int) < (j : Int) := by omega
        replace hq := hideit hq
        go_wp2
        go_ret
        exact ⟨rfl, Ext.trans E.out hE.out⟩
  · obtain ⟨x, rfl⟩ : ∃ x : Nat, r = (x : Int) := ⟨r.toNat, by omega⟩
    have hx : x < n := by omega
    have x1 : (x : Int) < (n : Int) := by omega
    clear t1 t2 hr
    go_upto_region 9 with (fail)
    have hX4 : Ext w3 (w3.alloc (.cells #[] 25)) := (Below.refl _ _).alloc (Nat.le_refl _) _
    have hO4 := ownK_empty w3 32 w3.heap.size 25 (lfV d) (Nat.le_refl _)
    refine wp_region_lit ?_
    refine wpList_to rfl (.slice (some ⟨w3.heap.size, 0, none⟩) 0 0) (w3.alloc (.cells #[] 25)) (by simp [go_sem]) ?_
    simp only [Act.put, List.setIfInBounds_toArray, List.set_cons_zero, List.set_cons_succ]
    refine wpList_run rfl (.slice (some a) n cap) (by simp [go_sem]) ?_
    simp only [Act.put, List.setIfInBounds_toArray, List.set_cons_zero, List.set_cons_succ]
    refine wpList_growK (n := 0) (base := w3.heap.size) elem22K (by decide) rfl (.tmp 36) (.tmp 37) rfl rfl hO4 a n cap (lfV d) (lfV d) rfl (hla.out.carry (Ext.trans E.out hX4)) (fun _ _ => rfl) (fun j hj => rfl) (fun j hj => by rw [Nat.zero_mul, Nat.zero_add]) (by omega) (by omega) (Below.size hX4) ?_
    intro v9 w5 hO9 hg9
    rw [Nat.zero_add] at hO9
    have hX9 : Ext w3 w5 := Below.trans hX4 (below_grown (Below.size hX4) hg9 fun k hk => by cases hk; exact Nat.le_refl _)
    obtain ⟨db, dc, rfl, hdb, hdc, -, hD9⟩ := hO9.lies (by omega)
    have L9 := hideit (L.out.carry hX9)
    simp only [Act.put, List.setIfInBounds_toArray, List.set_cons_zero, List.set_cons_succ]
    clear hX4 hO4 hg9 hO9
    have hY9 : Ext w3 (w5.setCells db (x * 32) (row 32 (yv lf))) := below_setCells (w := w3) db hdb (row 32 (yv lf)) (x * 32) _ hX9
    have hth := hD9.thereSub (x * 32) 32 (by omega)
    have DD := hideit (row_change (leaf := lf) hD9 hx)
    replace hY9 := hideit hY9
    replace hth := hideit hth
    clear hX9 hD9
    go_upto_region 10 with (fail)
    refine wp_region_lit ?_
    refine wpList_run rfl (.slice (some ⟨db, 0, none⟩) n dc) (by simp [go_sem]) ?_
    simp only [Act.put, List.setIfInBounds_toArray, List.set_cons_zero, List.set_cons_succ]
    refine wpList_run rfl (.int .i64 (x : Int)) (by simp [go_sem]) ?_
    simp only [Act.put, List.setIfInBounds_toArray, List.set_cons_zero, List.set_cons_succ]
    refine wpList_run rfl (.agg (row 32 (yv lf)).toArray) (exec_loadR 25 (.tmp 5) rfl w.heap.size 0 32 _ rfl L9.out.range Tryd.underlying25 rfl info24) ?_
    simp only [Act.put, List.setIfInBounds_toArray, List.set_cons_zero, List.set_cons_succ]
    refine wpList_run rfl (.pointer (some ⟨db, x * 32, none⟩)) (by simp [go_sem, x1, add0]) ?_
    simp only [Act.put, List.setIfInBounds_toArray, List.set_cons_zero, List.set_cons_succ]
    refine wpList_store_mid rfl 25 (.tmp 42) (.tmp 41) rfl _ (x * 32) (row 32 (yv lf)).toArray rfl rfl (by rw [row_size]; exact hth.out) (by rw [row_size]; exact info24) (row_one fun _ _ => rfl) ?_
    rw [show (row 32 (yv lf)).toArray.toList = row 32 (yv lf) from rfl]
    replace E := hideit (Ext.trans E.out hY9.out)
    generalize w5.setCells db (x * 32) (row 32 (yv lf)) = w6 at *
    clear hY9 hth L9 L
    simp only [Act.put]
    have kb1 := build_any n h1 h2 _ d w6 (hL.out.ext E.out) (hC.out.ext E.out)
    obtain ⟨RT1, hRT1⟩ : ∃ RT, RT = rootF n (digB n d (lvN n) 0) := ⟨_, rfl⟩
    rw [← hRT1, ← hN.out] at kb1
    clear hRT1
    replace kb1 := hideit kb1
    go_upto_region 11 with (fail)
    refine wp_region_lit ?_
    refine wpList_run rfl (.slice (some a) n cap) (by simp [go_sem]) ?_
    simp only [Act.put, List.setIfInBounds_toArray, List.set_cons_zero, List.set_cons_succ]
    refine wpList_call rfl (by simp [go_sem]) ((kb1.out).mono ?_)
    rintro e w7 ⟨lv, Bs, rfl, hO7, hl7, hX7⟩
    refine ⟨_, rfl, ?_⟩
    simp only [Act.put, List.setIfInBounds_toArray, List.set_cons_zero, List.set_cons_succ]
    obtain ⟨vb, vcap, rfl, -, -, -, hv7⟩ := hO7.lies (by omega)
    replace E := hideit (Ext.trans E.out hX7)
    replace DD := hideit (DD.out.carry hX7)
    have R1 := hideit hv7
    have L1 : Hid (∀ j, j < N → LevAt (Bs j) (lc n j) (nodeB n d j) w7) := fun j hj => (hl7 j hj).2
    clear hO7 hl7 hX7 hv7 kb1
    refine wpList_run rfl (.tuple #[.slice (some ⟨vb, 0, none⟩) N vcap, .agg (row 32 (yv RT1)).toArray, .int .i64 0]) (by simp [go_sem]) ?_
    simp only [Act.put, List.setIfInBounds_toArray, List.set_cons_zero, List.set_cons_succ]
    refine wpList_run rfl (.slice (some ⟨vb, 0, none⟩) N vcap) (by simp [go_sem]) ?_
    simp only [Act.put, List.setIfInBounds_toArray, List.set_cons_zero, List.set_cons_succ]
    refine wpList_run rfl (.agg (row 32 (yv RT1)).toArray) (by simp [go_sem]) ?_
    simp only [Act.put, List.setIfInBounds_toArray, List.set_cons_zero, List.set_cons_succ]
    refine wpList_run rfl (.int .i64 0) (by simp [go_sem]) ?_
    simp only [Act.put, List.setIfInBounds_toArray, List.set_cons_zero, List.set_cons_succ]
    have hXa : Ext w7 (w7.alloc (.cells (row 32 (yv fun _ => 0#8)).toArray 25)) := (Below.refl _ _).alloc (Nat.le_refl _) _
    have Ca := RowAt.new w7 32 (yv fun _ => 0#8) 25
    have hYa := below_setCells (w := w7) w7.heap.size (Nat.le_refl _) (row 32 (yv RT1)) 0 _ hXa
    have Q1 := hideit (Ca.cells (g' := yv RT1))
    replace E := hideit (Ext.trans E.out hYa)
    replace DD := hideit (DD.out.carry hYa)
    replace R1 := hideit (R1.out.carry hYa)
    replace L1 := hideit (fun j hj => (L1.out j hj).carry hYa)
    refine wpList_to rfl (.pointer (some ⟨w7.heap.size, 0, none⟩)) (w7.alloc (.cells (row 32 (yv fun _ => 0#8)).toArray 25)) (by simp [go_sem, hz]) ?_
    simp only [Act.put, List.setIfInBounds_toArray, List.set_cons_zero, List.set_cons_succ]
    refine wpList_run rfl (.slice (some ⟨vb, 0, none⟩) N vcap) (by simp [go_sem]) ?_
    simp only [Act.put, List.setIfInBounds_toArray, List.set_cons_zero, List.set_cons_succ]
    refine wpList_store_mid rfl 25 (.tmp 11) (.tmp 47) rfl _ 0 (row 32 (yv RT1)).toArray rfl rfl (by rw [row_size]; exact Ca.there) (by rw [row_size]; exact info24) (row_one fun _ _ => rfl) ?_
    rw [show (row 32 (yv RT1)).toArray.toList = row 32 (yv RT1) from rfl]
    generalize (w7.alloc (.cells (row 32 (yv fun _ => 0#8)).toArray 25)).setCells w7.heap.size 0 (row 32 (yv RT1)) = w8 at *
    generalize w7.heap.size = ra at *
    clear hXa Ca hYa
    simp only [Act.put]
    have kb2 := build_any n h1 h2 (.slice (some ⟨db, 0, none⟩) n dc) (dch d x lf) w8 (.inr ⟨_, dc, rfl, hdc, DD.out.lie _ (Nat.le_refl _)⟩) (hC.out.ext E.out)
    obtain ⟨RT2, hRT2⟩ : ∃ RT, RT = rootF n (digB n (dch d x lf) (lvN n) 0) := ⟨_, rfl⟩
    rw [← hRT2, ← hN.out] at kb2
    clear hRT2
    replace kb2 := hideit kb2
    go_upto_region 12 with (fail)
    refine wp_region_lit ?_
    refine wpList_run rfl (.slice (some ⟨db, 0, none⟩) n dc) (by simp [go_sem]) ?_
    simp only [Act.put, List.setIfInBounds_toArray, List.set_cons_zero, List.set_cons_succ]
    refine wpList_call rfl (by simp [go_sem]) ((kb2.out).mono ?_)
    rintro e w9 ⟨lv2, Bs2, rfl, hO10, hl10, hX10⟩
    refine ⟨_, rfl, ?_⟩
    simp only [Act.put, List.setIfInBounds_toArray, List.set_cons_zero, List.set_cons_succ]
    obtain ⟨vb2, vcap2, rfl, -, -, -, hv10⟩ := hO10.lies (by omega)
    replace E := hideit (Ext.trans E.out hX10)
    replace R1 := hideit (R1.out.carry hX10)
    replace L1 := hideit (fun j hj => (L1.out j hj).carry hX10)
    have R2 := hideit hv10
    have L2 : Hid (∀ j, j < N → LevAt (Bs2 j) (lc n j) (nodeB n (dch d x lf) j) w9) := fun j hj => (hl10 j hj).2
    clear kb2 DD hO10 hl10 hX10 hv10 Q1
    refine wpList_run rfl (.tuple #[.slice (some ⟨vb2, 0, none⟩) N vcap2, .agg (row 32 (yv RT2)).toArray, .int .i64 0]) (by simp [go_sem]) ?_
    simp only [Act.put, List.setIfInBounds_toArray, List.set_cons_zero, List.set_cons_succ]
    refine wpList_run rfl (.slice (some ⟨vb2, 0, none⟩) N vcap2) (by simp [go_sem]) ?_
    simp only [Act.put, List.setIfInBounds_toArray, List.set_cons_zero, List.set_cons_succ]
    refine wpList_run rfl (.agg (row 32 (yv RT2)).toArray) (by simp [go_sem]) ?_
    simp only [Act.put, List.setIfInBounds_toArray, List.set_cons_zero, List.set_cons_succ]
    refine wpList_run rfl (.int .i64 0) (by simp [go_sem]) ?_
    simp only [Act.put, List.setIfInBounds_toArray, List.set_cons_zero, List.set_cons_succ]
    have hXa : Ext w9 (w9.alloc (.cells (row 32 (yv fun _ => 0#8)).toArray 25)) := (Below.refl _ _).alloc (Nat.le_refl _) _
    have Ca := RowAt.new w9 32 (yv fun _ => 0#8) 25
    have hYa := below_setCells (w := w9) w9.heap.size (Nat.le_refl _) (row 32 (yv RT2)) 0 _ hXa
    have Q2 := hideit (Ca.cells (g' := yv RT2))
    replace E := hideit (Ext.trans E.out hYa)
    replace R1 := hideit (R1.out.carry hYa)
    replace L1 := hideit (fun j hj => (L1.out j hj).carry hYa)
    replace R2 := hideit (R2.out.carry hYa)
    replace L2 := hideit (fun j hj => (L2.out j hj).carry hYa)
    refine wpList_to rfl (.pointer (some ⟨w9.heap.size, 0, none⟩)) (w9.alloc (.cells (row 32 (yv fun _ => 0#8)).toArray 25)) (by simp [go_sem, hz]) ?_
    simp only [Act.put, List.setIfInBounds_toArray, List.set_cons_zero, List.set_cons_succ]
    refine wpList_run rfl (.slice (some ⟨vb2, 0, none⟩) N vcap2) (by simp [go_sem]) ?_
    simp only [Act.put, List.setIfInBounds_toArray, List.set_cons_zero, List.set_cons_succ]
    refine wpList_store_mid rfl 25 (.tmp 14) (.tmp 53) rfl _ 0 (row 32 (yv RT2)).toArray rfl rfl (by rw [row_size]; exact Ca.there) (by rw [row_size]; exact info24) (row_one fun _ _ => rfl) ?_
    rw [show (row 32 (yv RT2)).toArray.toList = row 32 (yv RT2) from rfl]
    generalize (w9.alloc (.cells (row 32 (yv fun _ => 0#8)).toArray 25)).setCells w9.heap.size 0 (row 32 (yv RT2)) = w10 at *
    generalize w9.heap.size = rs at *
    clear hXa Ca hYa
    simp only [Act.put]
    clear Q2
    have N0 : ¬ N = 0 := by omega
    have hup := hideit (up_lt n x hx)
    have hlv := bld_lv n h1 h2
    rw [← hN.out] at hlv
    replace hlv := hideit hlv
    go_wp2
    go_loopw [8, 16] (fun xv iv X => ∃ j q : Nat, j ≤ N ∧ iv = .int .i64 (j : Int) ∧ xv = .int .i64 (q : Int) ∧ q = x / 16 ^ j ∧ Ext w10 X) (fun _ iv _ => N - (intOf iv).toNat)
    case atStart => exact ⟨0, x, Nat.zero_le _, rfl, rfl, by simp, Ext.refl _⟩
    case round =>
      obtain ⟨j, q, hj, rfl, rfl, hq, hE⟩ := hrel
      replace hE := hideit hE
      by_cases hlt : j < N
      · have j0 : (0 : Int) ≤ (j : Int) := by omega
        have j1 : (j : Int) < (N : Int) := by omega
        have hq4 : q ≤ 4096 := by rw [hq]; have := Nat.div_le_self x (16 ^ j); omega
        obtain ⟨p, hp⟩ : ∃ p, p = q / 16 := ⟨_, rfl⟩
        have hp2 : p = x / 16 ^ (j + 1) := by rw [hp, hq, Nat.pow_succ, ← Nat.div_div_eq_div_mul]
        obtain ⟨c, hc⟩ : ∃ c, c = lc n j := ⟨_, rfl⟩
        have g2 := (hlv.out j hlt).2.1
        rw [← hc] at g2
        have eq : Int.tdiv (q : Int) 16 = (p : Int) := by rw [hp, Int.tdiv_eq_ediv_of_nonneg (by omega)]; omega
        have ew : IntKind.i64.wrap (p : Int) = (p : Int) := by rw [IntKind.wrap_i64]; omega
        replace hp := hideit hp
        replace hp2 := hideit hp2
        replace hq := hideit hq
        replace hc := hideit hc
        replace eq := hideit eq
        replace ew := hideit ew
        go_upto_region 18 with (fail)
        refine wp_region_lit ?_
        refine wpList_run rfl (.int .i64 (q : Int)) (by simp [go_sem]) ?_
        simp only [Act.put, List.setIfInBounds_toArray, List.set_cons_zero, List.set_cons_succ]
        refine wpList_run rfl (.int .i64 (p : Int)) (by simp [go_sem, eq.out, ew.out]) ?_
        simp only [Act.put, List.setIfInBounds_toArray, List.set_cons_zero, List.set_cons_succ]
        go_upto_region 19 with (fail)
        have hED := hideit (Ext.trans hE.out (Ext.refl wr).draw)
        refine wp_region_lad (fun X => Ext w10 X) [(false, 0), (false, 1), (false, 2), (false, 3), (false, 4), (false, 5), (false, 6), (false, 7), (false, 8), (false, 9), (false, 10)] (by kernel_rfl) (by kernel_rfl) (by decide +kernel) (by decide +kernel) (by decide +kernel) (by decide +kernel) hED.out ?_
        refine wpX_f _ (.slice (some ⟨vb, 0, none⟩) N vcap) rfl rfl (fun X _ => by simp [go_sem]) ?_
        simp only [List.getElem_toArray, List.getElem_cons_zero, Act.put, List.setIfInBounds_toArray, List.set_cons_zero, List.set_cons_succ]
        refine wpX_f _ (.int .i64 (j : Int)) rfl rfl (fun X _ => by simp [go_sem]) ?_
        simp only [List.getElem_toArray, List.getElem_cons_zero, List.getElem_cons_succ, Act.put, List.setIfInBounds_toArray, List.set_cons_zero, List.set_cons_succ]
        refine wpX_f _ (.pointer (some ⟨vb, j, none⟩)) rfl rfl (fun X _ => by simp [go_sem, j1]) ?_
        simp only [List.getElem_toArray, List.getElem_cons_zero, List.getElem_cons_succ, Act.put, List.setIfInBounds_toArray, List.set_cons_zero, List.set_cons_succ]
        refine wpX_f _ (.slice (some ⟨Bs j, 0, none⟩) c c) rfl rfl (fun X hX => by have e := (R1.out.carry hX).1 j hlt; rw [show lvV n Bs j = .slice (some ⟨Bs j, 0, none⟩) c c by rw [hc.out]; rfl] at e; simp [go_sem, e]) ?_
        simp only [List.getElem_toArray, List.getElem_cons_zero, List.getElem_cons_succ, Act.put, List.setIfInBounds_toArray, List.set_cons_zero, List.set_cons_succ]
        refine wpX_f _ (.int .i64 (c : Int)) rfl rfl (fun X _ => by simp [go_sem]) ?_
        simp only [List.getElem_toArray, List.getElem_cons_zero, List.getElem_cons_succ, Act.put, List.setIfInBounds_toArray, List.set_cons_zero, List.set_cons_succ]
        refine wpX_f _ (.slice (some ⟨vb2, 0, none⟩) N vcap2) rfl rfl (fun X _ => by simp [go_sem]) ?_
        simp only [List.getElem_toArray, List.getElem_cons_zero, List.getElem_cons_succ, Act.put, List.setIfInBounds_toArray, List.set_cons_zero, List.set_cons_succ]
        refine wpX_f _ (.int .i64 (j : Int)) rfl rfl (fun X _ => by simp [go_sem]) ?_
        simp only [List.getElem_toArray, List.getElem_cons_zero, List.getElem_cons_succ, Act.put, List.setIfInBounds_toArray, List.set_cons_zero, List.set_cons_succ]
        refine wpX_f _ (.pointer (some ⟨vb2, j, none⟩)) rfl rfl (fun X _ => by simp [go_sem, j1]) ?_
        simp only [List.getElem_toArray, List.getElem_cons_zero, List.getElem_cons_succ, Act.put, List.setIfInBounds_toArray, List.set_cons_zero, List.set_cons_succ]
        refine wpX_f _ (.slice (some ⟨Bs2 j, 0, none⟩) c c) rfl rfl (fun X hX => by have e := (R2.out.carry hX).1 j hlt; rw [show lvV n Bs2 j = .slice (some ⟨Bs2 j, 0, none⟩) c c by rw [hc.out]; rfl] at e; simp [go_sem, e]) ?_
        simp only [List.getElem_toArray, List.getElem_cons_zero, List.getElem_cons_succ, Act.put, List.setIfInBounds_toArray, List.set_cons_zero, List.set_cons_succ]
        refine wpX_f _ (.int .i64 (c : Int)) rfl rfl (fun X _ => by simp [go_sem]) ?_
        simp only [List.getElem_toArray, List.getElem_cons_zero, List.getElem_cons_succ, Act.put, List.setIfInBounds_toArray, List.set_cons_zero, List.set_cons_succ]
        refine wpX_f _ (.bool false) rfl rfl (fun X _ => by simp [go_sem]) ?_
        simp only [List.getElem_toArray, List.getElem_cons_zero, List.getElem_cons_succ, Act.put, List.setIfInBounds_toArray, List.set_cons_zero, List.set_cons_succ]
        refine wpX_nil ?_
        go_wp2
        go_loopw [17] (fun mv X => ∃ m : Nat, m ≤ c ∧ mv = .int .i64 (m : Int) ∧ Ext w10 X) (fun mv _ => c - (intOf mv).toNat)
        case atStart => exact ⟨0, Nat.zero_le _, rfl, hED.out⟩
        case round =>
          clear hE hED
          obtain ⟨m, hm, rfl, hE⟩ := hrel
          have e1 := (R1.out.carry hE).1 j hlt
          rw [show lvV n Bs j = .slice (some ⟨Bs j, 0, none⟩) c c by rw [hc.out]; rfl] at e1
          replace hE := hideit hE
          by_cases hml : m < c
          · have m0 : (0 : Int) ≤ (m : Int) := by omega
            have m1 : (m : Int) < (c : Int) := by omega
            have hED := hideit (Ext.trans hE.out (Ext.refl wr).draw)
            go_upto_region 24 with (fail)
            clear e1
            by_cases hmp : m = p
            · refine wp_region_lad (fun X => Ext w10 X) [(false, 0), (false, 1), (false, 2), (false, 3), (false, 4), (false, 5), (false, 6), (false, 7), (false, 8), (false, 9), (false, 10), (false, 11), (false, 12), (false, 13), (false, 14), (false, 15), (false, 16), (false, 17), (false, 18), (false, 19), (false, 20), (false, 21)] (by kernel_rfl) (by kernel_rfl) (by decide +kernel) (by decide +kernel) (by decide +kernel) (by decide +kernel) hED.out ?_
              refine wpX_f _ (.int .i64 (m : Int)) rfl rfl (fun X _ => by simp [go_sem]) ?_
              simp only [List.getElem_toArray, List.getElem_cons_zero, Act.put, List.setIfInBounds_toArray, List.set_cons_zero, List.set_cons_succ]
              refine wpX_f _ (.int .i64 (p : Int)) rfl rfl (fun X _ => by simp [go_sem]) ?_
              simp only [List.getElem_toArray, List.getElem_cons_zero, List.getElem_cons_succ, Act.put, List.setIfInBounds_toArray, List.set_cons_zero, List.set_cons_succ]
              refine wpX_f _ (.bool false) rfl rfl (fun X _ => by simp [go_sem, hmp]) ?_
              simp only [List.getElem_toArray, List.getElem_cons_zero, List.getElem_cons_succ, Act.put, List.setIfInBounds_toArray, List.set_cons_zero, List.set_cons_succ]
              refine wpX_f _ (.bool false) rfl rfl (fun X _ => by simp [go_sem]) ?_
              simp only [List.getElem_toArray, List.getElem_cons_zero, List.getElem_cons_succ, Act.put, List.setIfInBounds_toArray, List.set_cons_zero, List.set_cons_succ]
              refine wpX_fskip _ rfl rfl ?_
              simp only [List.getElem_toArray, List.getElem_cons_zero, List.getElem_cons_succ, Act.put, List.setIfInBounds_toArray, List.set_cons_zero, List.set_cons_succ]
              refine wpX_fskip _ rfl rfl ?_
              simp only [List.getElem_toArray, List.getElem_cons_zero, List.getElem_cons_succ, Act.put, List.setIfInBounds_toArray, List.set_cons_zero, List.set_cons_succ]
              refine wpX_fskip _ rfl rfl ?_
              simp only [List.getElem_toArray, List.getElem_cons_zero, List.getElem_cons_succ, Act.put, List.setIfInBounds_toArray, List.set_cons_zero, List.set_cons_succ]
              refine wpX_fskip _ rfl rfl ?_
              simp only [List.getElem_toArray, List.getElem_cons_zero, List.getElem_cons_succ, Act.put, List.setIfInBounds_toArray, List.set_cons_zero, List.set_cons_succ]
              refine wpX_fskip _ rfl rfl ?_
              simp only [List.getElem_toArray, List.getElem_cons_zero, List.getElem_cons_succ, Act.put, List.setIfInBounds_toArray, List.set_cons_zero, List.set_cons_succ]
              refine wpX_fskip _ rfl rfl ?_
              simp only [List.getElem_toArray, List.getElem_cons_zero, List.getElem_cons_succ, Act.put, List.setIfInBounds_toArray, List.set_cons_zero, List.set_cons_succ]
              refine wpX_fskip _ rfl rfl ?_
              simp only [List.getElem_toArray, List.getElem_cons_zero, List.getElem_cons_succ, Act.put, List.setIfInBounds_toArray, List.set_cons_zero, List.set_cons_succ]
              refine wpX_fskip _ rfl rfl ?_
              simp only [List.getElem_toArray, List.getElem_cons_zero, List.getElem_cons_succ, Act.put, List.setIfInBounds_toArray, List.set_cons_zero, List.set_cons_succ]
              refine wpX_fskip _ rfl rfl ?_
              simp only [List.getElem_toArray, List.getElem_cons_zero, List.getElem_cons_succ, Act.put, List.setIfInBounds_toArray, List.set_cons_zero, List.set_cons_succ]
              refine wpX_fskip _ rfl rfl ?_
              simp only [List.getElem_toArray, List.getElem_cons_zero, List.getElem_cons_succ, Act.put, List.setIfInBounds_toArray, List.set_cons_zero, List.set_cons_succ]
              refine wpX_fskip _ rfl rfl ?_
              simp only [List.getElem_toArray, List.getElem_cons_zero, List.getElem_cons_succ, Act.put, List.setIfInBounds_toArray, List.set_cons_zero, List.set_cons_succ]
              refine wpX_fskip _ rfl rfl ?_
              simp only [List.getElem_toArray, List.getElem_cons_zero, List.getElem_cons_succ, Act.put, List.setIfInBounds_toArray, List.set_cons_zero, List.set_cons_succ]
              refine wpX_fskip _ rfl rfl ?_
              simp only [List.getElem_toArray, List.getElem_cons_zero, List.getElem_cons_succ, Act.put, List.setIfInBounds_toArray, List.set_cons_zero, List.set_cons_succ]
              refine wpX_fskip _ rfl rfl ?_
              simp only [List.getElem_toArray, List.getElem_cons_zero, List.getElem_cons_succ, Act.put, List.setIfInBounds_toArray, List.set_cons_zero, List.set_cons_succ]
              refine wpX_fskip _ rfl rfl ?_
              simp only [List.getElem_toArray, List.getElem_cons_zero, List.getElem_cons_succ, Act.put, List.setIfInBounds_toArray, List.set_cons_zero, List.set_cons_succ]
              refine wpX_fskip _ rfl rfl ?_
              simp only [List.getElem_toArray, List.getElem_cons_zero, List.getElem_cons_succ, Act.put, List.setIfInBounds_toArray, List.set_cons_zero, List.set_cons_succ]
              refine wpX_fskip _ rfl rfl ?_
              simp only [List.getElem_toArray, List.getElem_cons_zero, List.getElem_cons_succ, Act.put, List.setIfInBounds_toArray, List.set_cons_zero, List.set_cons_succ]
              refine wpX_f _ (.bool false) rfl rfl (fun X _ => by simp [go_sem]) ?_
              simp only [List.getElem_toArray, List.getElem_cons_zero, List.getElem_cons_succ, Act.put, List.setIfInBounds_toArray, List.set_cons_zero, List.set_cons_succ]
              refine wpX_nil ?_
              go_wp2
              exact ⟨⟨m + 1, by omega, by go_num, hED.out⟩, by simp [intOf]; omega⟩
            · obtain ⟨s1, hs1⟩ : ∃ s1, s1 = bstr 512 (fun t => ((nodeB n d j m t).toNat : Int)) := ⟨_, rfl⟩
              have hs2 : s1 = bstr 512 (fun t => ((nodeB n (dch d x lf) j m t).toNat : Int)) := by
                rw [hs1]
                exact bstr_congr fun t ht => by rw [node_other n d x lf j m t (by rw [← hp2.out]; exact hmp) ht]
              have ca : ∀ X, Ext w10 X → (convert 23 9 (.slice (some ⟨Bs j + 1 + m, 0, none⟩) 512 512)).run Tryd.prog X = .ok (.string s1) X := fun X hX => by
                rw [hs1]
                exact convV _ _ _ X ((((L1.out j hlt).carry hX).each m (by rw [← hc.out]; exact hml)).bv 512 (Nat.le_refl _))
              have cb : ∀ X, Ext w10 X → (convert 23 9 (.slice (some ⟨Bs2 j + 1 + m, 0, none⟩) 512 512)).run Tryd.prog X = .ok (.string s1) X := fun X hX => by
                rw [hs2]
                exact convV _ _ _ X ((((L2.out j hlt).carry hX).each m (by rw [← hc.out]; exact hml)).bv 512 (Nat.le_refl _))
              clear hs1 hs2
              have hmi : ¬ (m : Int) = (p : Int) := by omega
              refine wp_region_lad (fun X => Ext w10 X) [(false, 0), (false, 1), (false, 2), (false, 3), (false, 4), (false, 5), (false, 6), (false, 7), (false, 8), (false, 9), (false, 10), (false, 11), (false, 12), (false, 13), (false, 14), (false, 15), (false, 16), (false, 17), (false, 18), (false, 19), (false, 20), (false, 21)] (by kernel_rfl) (by kernel_rfl) (by decide +kernel) (by decide +kernel) (by decide +kernel) (by decide +kernel) hED.out ?_
              refine wpX_f _ (.int .i64 (m : Int)) rfl rfl (fun X _ => by simp [go_sem]) ?_
              simp only [List.getElem_toArray, List.getElem_cons_zero, Act.put, List.setIfInBounds_toArray, List.set_cons_zero, List.set_cons_succ]
              refine wpX_f _ (.int .i64 (p : Int)) rfl rfl (fun X _ => by simp [go_sem]) ?_
              simp only [List.getElem_toArray, List.getElem_cons_zero, List.getElem_cons_succ, Act.put, List.setIfInBounds_toArray, List.set_cons_zero, List.set_cons_succ]
              refine wpX_f _ (.bool true) rfl rfl (fun X _ => by simp [go_sem, hmi]) ?_
              simp only [List.getElem_toArray, List.getElem_cons_zero, List.getElem_cons_succ, Act.put, List.setIfInBounds_toArray, List.set_cons_zero, List.set_cons_succ]
              refine wpX_f _ (.bool true) rfl rfl (fun X _ => by simp [go_sem]) ?_
              simp only [List.getElem_toArray, List.getElem_cons_zero, List.getElem_cons_succ, Act.put, List.setIfInBounds_toArray, List.set_cons_zero, List.set_cons_succ]
              refine wpX_f _ (.slice (some ⟨vb, 0, none⟩) N vcap) rfl rfl (fun X _ => by simp [go_sem]) ?_
              simp only [List.getElem_toArray, List.getElem_cons_zero, List.getElem_cons_succ, Act.put, List.setIfInBounds_toArray, List.set_cons_zero, List.set_cons_succ]
              refine wpX_f _ (.int .i64 (j : Int)) rfl rfl (fun X _ => by simp [go_sem]) ?_
              simp only [List.getElem_toArray, List.getElem_cons_zero, List.getElem_cons_succ, Act.put, List.setIfInBounds_toArray, List.set_cons_zero, List.set_cons_succ]
              refine wpX_f _ (.pointer (some ⟨vb, j, none⟩)) rfl rfl (fun X _ => by simp [go_sem, j1]) ?_
              simp only [List.getElem_toArray, List.getElem_cons_zero, List.getElem_cons_succ, Act.put, List.setIfInBounds_toArray, List.set_cons_zero, List.set_cons_succ]
              refine wpX_f _ (.slice (some ⟨Bs j, 0, none⟩) c c) rfl rfl (fun X hX => by have e := (R1.out.carry hX).1 j hlt; rw [show lvV n Bs j = .slice (some ⟨Bs j, 0, none⟩) c c by rw [hc.out]; rfl] at e; simp [go_sem, e]) ?_
              simp only [List.getElem_toArray, List.getElem_cons_zero, List.getElem_cons_succ, Act.put, List.setIfInBounds_toArray, List.set_cons_zero, List.set_cons_succ]
              refine wpX_f _ (.int .i64 (m : Int)) rfl rfl (fun X _ => by simp [go_sem]) ?_
              simp only [List.getElem_toArray, List.getElem_cons_zero, List.getElem_cons_succ, Act.put, List.setIfInBounds_toArray, List.set_cons_zero, List.set_cons_succ]
              refine wpX_f _ (.pointer (some ⟨Bs j, m, none⟩)) rfl rfl (fun X _ => by simp [go_sem, m1]) ?_
              simp only [List.getElem_toArray, List.getElem_cons_zero, List.getElem_cons_succ, Act.put, List.setIfInBounds_toArray, List.set_cons_zero, List.set_cons_succ]
              refine wpX_f _ (.slice (some ⟨Bs j + 1 + m, 0, none⟩) 512 512) rfl rfl (fun X hX => by have e := ((L1.out j hlt).carry hX).list.1 m (by rw [← hc.out]; exact hml); rw [show ndV (Bs j) m = .slice (some ⟨Bs j + 1 + m, 0, none⟩) 512 512 from rfl] at e; simp [go_sem, e]) ?_
              simp only [List.getElem_toArray, List.getElem_cons_zero, List.getElem_cons_succ, Act.put, List.setIfInBounds_toArray, List.set_cons_zero, List.set_cons_succ]
              refine wpX_f _ (.string s1) rfl rfl (fun X hX => by have e := ca X hX; simp [go_sem, e]) ?_
              simp only [List.getElem_toArray, List.getElem_cons_zero, List.getElem_cons_succ, Act.put, List.setIfInBounds_toArray, List.set_cons_zero, List.set_cons_succ]
              refine wpX_f _ (.slice (some ⟨vb2, 0, none⟩) N vcap2) rfl rfl (fun X _ => by simp [go_sem]) ?_
              simp only [List.getElem_toArray, List.getElem_cons_zero, List.getElem_cons_succ, Act.put, List.setIfInBounds_toArray, List.set_cons_zero, List.set_cons_succ]
              refine wpX_f _ (.int .i64 (j : Int)) rfl rfl (fun X _ => by simp [go_sem]) ?_
              simp only [List.getElem_toArray, List.getElem_cons_zero, List.getElem_cons_succ, Act.put, List.setIfInBounds_toArray, List.set_cons_zero, List.set_cons_succ]
              refine wpX_f _ (.pointer (some ⟨vb2, j, none⟩)) rfl rfl (fun X _ => by simp [go_sem, j1]) ?_
              simp only [List.getElem_toArray, List.getElem_cons_zero, List.getElem_cons_succ, Act.put, List.setIfInBounds_toArray, List.set_cons_zero, List.set_cons_succ]
              refine wpX_f _ (.slice (some ⟨Bs2 j, 0, none⟩) c c) rfl rfl (fun X hX => by have e := (R2.out.carry hX).1 j hlt; rw [show lvV n Bs2 j = .slice (some ⟨Bs2 j, 0, none⟩) c c by rw [hc.out]; rfl] at e; simp [go_sem, e]) ?_
              simp only [List.getElem_toArray, List.getElem_cons_zero, List.getElem_cons_succ, Act.put, List.setIfInBounds_toArray, List.set_cons_zero, List.set_cons_succ]
              refine wpX_f _ (.int .i64 (m : Int)) rfl rfl (fun X _ => by simp [go_sem]) ?_
              simp only [List.getElem_toArray, List.getElem_cons_zero, List.getElem_cons_succ, Act.put, List.setIfInBounds_toArray, List.set_cons_zero, List.set_cons_succ]
              refine wpX_f _ (.pointer (some ⟨Bs2 j, m, none⟩)) rfl rfl (fun X _ => by simp [go_sem, m1]) ?_
              simp only [List.getElem_toArray, List.getElem_cons_zero, List.getElem_cons_succ, Act.put, List.setIfInBounds_toArray, List.set_cons_zero, List.set_cons_succ]
              refine wpX_f _ (.slice (some ⟨Bs2 j + 1 + m, 0, none⟩) 512 512) rfl rfl (fun X hX => by have e := ((L2.out j hlt).carry hX).list.1 m (by rw [← hc.out]; exact hml); rw [show ndV (Bs2 j) m = .slice (some ⟨Bs2 j + 1 + m, 0, none⟩) 512 512 from rfl] at e; simp [go_sem, e]) ?_
              simp only [List.getElem_toArray, List.getElem_cons_zero, List.getElem_cons_succ, Act.put, List.setIfInBounds_toArray, List.set_cons_zero, List.set_cons_succ]
              refine wpX_f _ (.string s1) rfl rfl (fun X hX => by have e := cb X hX; simp [go_sem, e]) ?_
              simp only [List.getElem_toArray, List.getElem_cons_zero, List.getElem_cons_succ, Act.put, List.setIfInBounds_toArray, List.set_cons_zero, List.set_cons_succ]
              refine wpX_f _ (.bool false) rfl rfl (fun X _ => by simp [go_sem]) ?_
              simp only [List.getElem_toArray, List.getElem_cons_zero, List.getElem_cons_succ, Act.put, List.setIfInBounds_toArray, List.set_cons_zero, List.set_cons_succ]
              refine wpX_f _ (.bool false) rfl rfl (fun X _ => by simp [go_sem]) ?_
              simp only [List.getElem_toArray, List.getElem_cons_zero, List.getElem_cons_succ, Act.put, List.setIfInBounds_toArray, List.set_cons_zero, List.set_cons_succ]
              clear ca cb
              refine wpX_nil ?_
              go_wp2
              exact ⟨⟨m + 1, by omega, by go_num, hED.out⟩, by simp [intOf]; omega⟩
          · obtain rfl : m = c := by omega
            have m1 : ¬ (m : Int) < (m : Int) := by omega
            go_wp2
            exact ⟨⟨j + 1, p, by omega, by go_num, rfl, hp2.out, hE.out⟩, by simp [intOf]; omega⟩
      · obtain rfl : j = N := by omega
        have j1 : ¬ (j : Int) < (j : Int) := by omega
        replace hq := hideit hq
        go_wp2
        go_ret
        exact ⟨rfl, Ext.trans E.out hE.out⟩
theorem walk (v : Value) (a : Int) (_ : (Lit.int .i64 a).wf = true) (lf : Nat → BitVec 8) (w : World) (B : LArg v w) (hC : TabC w) : Calls Tryd.prog 6 #[v, .int .i64 a, .agg (row 32 (yv lf)).toArray] w fun e w' => e = .returned (.bool true) ∧ Below w.heap.size w w' := by
  obtain ⟨n, d, hL, hn⟩ := B
  by_cases h : n < 1 ∨ 4096 < n
  · exact walk_no v n d a lf w hL h hn hC
  · exact walk_in v n d a lf w hL (by omega) (by omega) hC

theorem contract (H : Type) (enc : TypeId × Value → H) (W : World) (base : Nat) (args : Array Value) (ds gs : List (DataW H)) (before : List MemPlace)
    (hval0 : ∀ (j : Nat) t v, Tryd.f6.params[j]? = some t → args[j]? = some v → Value.okWide Tryd.prog W .any base t v)
    (hW : DataW.Whole enc Tryd.prog Tryd.f6.params.toList Rows.treeOthersSpec.vars false W args.toList ds gs before) (hL : laidMetH Tryd.prog Rows.treeOthersRow.laid W) :
    Calls Tryd.prog 6 args W fun e W' => ∃ v, e = .returned v ∧ Rows.treeOthersSpec.post enc Tryd.prog Tryd.f6 false true false false W args v W' := by
  have hval := hval0
  have hW' := hW
  obtain ⟨p, q, hA0, hV, rfl, hfz, hnd⟩ := hW
  have hA : DataW.TrodAll enc Tryd.prog W 0 (fun _ => true) true Tryd.f6.params.toList args.toList ds p := hA0
  rw [Tryd.params6] at hA hval
  obtain ⟨v0, vs0, d0, ds0, p0, q0, hargs, rfl, rfl, h0, r0⟩ := trodAll_cons hA
  obtain ⟨v1, vs1, d1, ds1, p1, q1, rfl, rfl, rfl, h1, r1⟩ := trodAll_cons r0
  obtain ⟨v2, vs2, d2, ds2, p2, q2, rfl, rfl, rfl, h2, r2⟩ := trodAll_cons r1
  obtain ⟨rfl, rfl, rfl⟩ := trodAll_nil r2
  obtain rfl : args = #[v0, v1, v2] := by cases args; simp_all
  obtain ⟨rfl, rfl⟩ := trodVars_none hV
  have h0s : 0 < W.heap.size := by
    have hc := (table hL).cell gTab 0 (by decide)
    rcases Nat.lt_or_ge 0 W.heap.size with h | h
    · exact h
    · exfalso
      have : W.heap[0]? = none := Array.getElem?_eq_none h
      simp [World.cell?, this] at hc
  have hC : TabC W := tabC hL h0s
  have k0 := h0
  have lt0 : ∀ x ∈ p0, x.block < W.heap.size := by obtain ⟨m, hm⟩ := k0; exact DataW.trod_lt m _ _ _ hm
  have k1 := h1
  have lt1 : ∀ x ∈ p1, x.block < W.heap.size := by obtain ⟨m, hm⟩ := k1; exact DataW.trod_lt m _ _ _ hm
  have k2 := h2
  have lt2 : ∀ x ∈ p2, x.block < W.heap.size := by obtain ⟨m, hm⟩ := k2; exact DataW.trod_lt m _ _ _ hm
  have B0 := larg (hval 0 22 v0 rfl rfl) h0
  obtain ⟨a1, rfl, rfl, rfl, w1⟩ := open_int Tryd.underlying3 (hval 1 3 v1 rfl rfl) h1
  obtain ⟨a2, rfl⟩ := open_arru8_32 (hval 2 25 v2 rfl rfl) h2
  clear hA0 hval0
  refine (walk v0 a1 w1 a2 W B0 hC).mono fun e W' ⟨he, bel⟩ => ?_
  subst he
  exact ⟨_, rfl, _, _, _, [], _, [], hW', trodAll_mk1 (shut_bool Tryd.underlying4 _), (trodAll_cons_mk (Below.trod laidOut (by kernel_rfl) (of_decide_eq_true (by kernel_rfl)) k0 bel lt0) (trodAll_cons_mk (Below.trod laidOut (by kernel_rfl) (of_decide_eq_true (by kernel_rfl)) k1 bel lt1) (trodAll_cons_mk (Below.trod laidOut (by kernel_rfl) (of_decide_eq_true (by kernel_rfl)) k2 bel lt2) trodAll_mk0))), rfl, bel.frame _, fun h => by cases h⟩

def wit : Array Value := #[.slice none 0 0, .int .i64 0, .agg (List.replicate 32 (.int .u8 0)).toArray]
def dat {H : Type} : List (DataW H) := [.nil, .lit (.int .i64 0), .agg (List.replicate 32 (.lit (.int .u8 0)))]
def setTab : Obj → Obj
  | .cells _ t frozen => .cells (tabL.map fun z => Value.int .u32 z).toArray t frozen
  | o => o
theorem laid_met (os : Os) : laidMet Tryd.prog Rows.treeOthersRow.laid (({ World.holding Tryd.prog os ⟨#[], #[], []⟩ with heap := (World.holding Tryd.prog os ⟨#[], #[], []⟩).heap.modify 0 setTab } : World).forCall (fun _ _ => 0) ⟨#[], wit, []⟩).memory :=
  laidMet_of_run' 8 (by kernel_rfl) (by kernel_rfl)
theorem reads (os : Os) {H : Type} (enc : TypeId × Value → H) : ∃ places, DataW.whole enc Tryd.prog (({ World.holding Tryd.prog os ⟨#[], #[], []⟩ with heap := (World.holding Tryd.prog os ⟨#[], #[], []⟩).heap.modify 0 setTab } : World).forCall (fun _ _ => 0) ⟨#[], wit, []⟩).memory Tryd.f6.params.toList Rows.treeOthersSpec.vars false wit.toList 8 = some (dat, [], places) :=
  ⟨[], by kernel_rfl⟩

set_option maxRecDepth 100000 in
theorem lifted (os : Os) (started : os.Started) (H : Type) (enc : TypeId × Value → H) (F : Stop.Interp) :
    ReturnsInHanded {} Tryd.checked os 6 .any ((OpenSpec.ofChange Rows.treeOthersSpec).preRow enc Tryd.prog Tryd.f6 Rows.treeOthersRow.domain false Rows.treeOthersRow.laid) (((OpenSpec.ofChange Rows.treeOthersSpec).at F).post enc Tryd.prog Tryd.f6 false true false false) := by
  obtain ⟨places, hx⟩ := reads os enc
  refine returnsInHanded_of_row (C := Tryd.checked) (s := (OpenSpec.ofChange Rows.treeOthersSpec)) own started (by kernel_rfl) Tryd.func6
    (witness_row_at (enc := enc) (C := Tryd.checked) false ({ World.holding Tryd.prog os ⟨#[], #[], []⟩ with heap := (World.holding Tryd.prog os ⟨#[], #[], []⟩).heap.modify 0 setTab } : World) wit rfl (by kernel_rfl) (by kernel_rfl) (by kernel_rfl)
      (OpenSpec.preRow_of_cond 8 hx (by kernel_rfl) (fun k hk => by cases hk) (by kernel_rfl) (laid_met os))) ?_
  intro W base args ds gs before hval hW _ hcond hsz hL _ _
  exact contract H enc W base args ds gs before hval hW hL

theorem said : Rows.TreeOthersSaid :=
  OpenClaim.holds_of_cond 6 Tryd.f6 rfl rfl rfl rfl rfl rfl rfl ⟨rfl, rfl, rfl, rfl, rfl⟩ rfl rfl rfl rfl rfl (by kernel_rfl) Tryd.func6 (by kernel_rfl)
    (of_decide_eq_true (by kernel_rfl)) (by unfold Func.isWrapper; first | (rw [if_pos (by decide +kernel)]; kernel_rfl) | (rw [if_neg (by decide +kernel)]; exact ⟨rfl, rfl⟩))
    (fun os started H enc _ F => by rw [OpenClaim.pre_eq_preRow]; exact lifted os started H enc F)

theorem plain (f : FuncId) (fn : Func) (hf : Tryd.pinned.checked.prog.funcNamed "casket/casketlaw16.TreeOthers" = some f) (hfn : Tryd.pinned.checked.prog.funcs[f]? = some fn) :
    false = Tryd.pinned.checked.prog.looks [] ∧ ∀ (j : Nat) t, fn.params[j]? = some t → Tryd.pinned.checked.prog.wantsStandIn t = false := by
  obtain rfl : f = 6 := Option.some.inj ((show Tryd.prog.funcNamed "casket/casketlaw16.TreeOthers" = some 6 by kernel_rfl).symm.trans hf) |>.symm
  obtain rfl : fn = Tryd.f6 := (Option.some.inj (Tryd.func6.symm.trans hfn)).symm
  refine ⟨by kernel_rfl, fun j t ht => ?_⟩
  rw [Tryd.params6] at ht
  have hm : t ∈ [22, 3, 25] := by simpa using Array.mem_of_getElem? ht
  have hall : ([22, 3, 25].all fun u => !Tryd.prog.wantsStandIn u) = true := by kernel_rfl
  exact (show Tryd.prog.wantsStandIn t = false by simpa using List.all_eq_true.1 hall t hm)

theorem card : Rows.TreeOthersCardSaid :=
  Claim7.holds_tied_plain_at .later [] _ _ _ _ said (fun _ h => by cases h) (by kernel_rfl) (fun _ h => by cases h) treeOthers_row_tie rfl ⟨rfl, rfl⟩ (by kernel_rfl) rfl plain (by kernel_rfl)
end Go.Proofs.YtienaaiaeinifaaDoor.treeOthers
namespace Go.Proofs.YtienaaiaeinifaaDoor
theorem treeOthers_holds : Rows.TreeOthersCardSaid := treeOthers.card
end Go.Proofs.YtienaaiaeinifaaDoor
