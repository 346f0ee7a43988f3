/-
  Change of a leaf in the tree that Build makes tells the path and the root that Build makes of the changed leaves, and both leaves are right by their paths; the path stays as it was: whatever the leaves, the place and the leaf.
-/
import Derived.Test.YtapmheocllicnaaDoorCards
import Derived.Test.YtapmheocllicnaaDoorTie
import Derived.WalkKit
import Derived.ProofKit
import Derived.OpenShut
import Derived.ShutString
import Derived.ChangeOld
import Derived.Below
import Derived.Deep.DeepHandedRow
import Derived.Lib.LaidTab
import Derived.Test.YtapmheocllicnaaDoorLiv
import Derived.Test.YtapmheocllicnaaDoorPatM
import Derived.Test.YtapmheocllicnaaDoorOpL
import Derived.Test.YtapmheocllicnaaDoorCg1M
import Derived.Test.YtapmheocllicnaaDoorSst
namespace Go.Proofs.YtapmheocllicnaaDoor.treeChanges
open Go.ChangeShapes Go.WideShapes Go.ChangeAt Go.RowKit
set_option linter.unusedVariables false

theorem own : ownKnob Tryd.prog.godebug = none := by kernel_rfl
theorem laidOut : laidOutB Tryd.prog = true := by kernel_rfl
theorem gTab : Tryd.prog.globalNamed "casket/sha.constants" = some 0 := by kernel_rfl
theorem gTabType : (Tryd.prog.globals[0]?).map (·.type) = some 77 := by kernel_rfl
theorem cellsG : Tryd.prog.cellsOf 77 = 64 := by kernel_rfl
theorem cellsE : Tryd.prog.cellsOf 67 = 1 := by kernel_rfl
def tabL : List Int := [1116352408, 1899447441, 3049323471, 3921009573, 961987163, 1508970993, 2453635748, 2870763221, 3624381080, 310598401, 607225278, 1426881987, 1925078388, 2162078206, 2614888103, 3248222580, 3835390401, 4022224774, 264347078, 604807628, 770255983, 1249150122, 1555081692, 1996064986, 2554220882, 2821834349, 2952996808, 3210313671, 3336571891, 3584528711, 113926993, 338241895, 666307205, 773529912, 1294757372, 1396182291, 1695183700, 1986661051, 2177026350, 2456956037, 2730485921, 2820302411, 3259730800, 3345764771, 3516065817, 3600352804, 4094571909, 275423344, 430227734, 506948616, 659060556, 883997877, 958139571, 1322822218, 1537002063, 1747873779, 1955562222, 2024104815, 2227730452, 2361852424, 2428436474, 2756734187, 3204031479, 3329325298]
theorem table {W : World} (h : laidMetH Tryd.prog Rows.treeChangesRow.laid W) : Lib.TabIs Tryd.prog W "casket/sha.constants" .u32 tabL :=
  Lib.tabIs_of_head (rest := []) gTab gTabType Tryd.underlying77 Tryd.underlying67 cellsE cellsG h
theorem tab_kT : ∀ j, j < 64 → tabL.getD j 0 = ((kT j).toNat : Int) := by decide +kernel
theorem tabC {W : World} (h : laidMetH Tryd.prog Rows.treeChangesRow.laid W) (h0 : 0 < W.heap.size) : TabC W :=
  ⟨fun j hj => by
    rw [← tab_kT j hj]
    exact (table h).cell gTab j hj, h0⟩

open Go.BigFrame
set_option maxRecDepth 20000 in
set_option maxHeartbeats 8000000 in
theorem walk_no (v : Value) (n : Nat) (d : Nat → Nat → BitVec 8) (b : Int) (lf : Nat → BitVec 8) (w : World) (hL : LV v n d w) (hn : n < 1 ∨ 4096 < n) (hn9 : n ≤ 9223372036854775807) (hC : TabC w) : Calls Tryd.prog 6 #[v, .int .i64 b, .agg (row 32 (yv lf)).toArray] w fun e w' => e = .returned (.bool true) ∧ Below w.heap.size w w' := by
  obtain ⟨ov, cap, rfl⟩ := hL.form
  have H0 := hideit (RowAt.new w 32 (yv lf) 25)
  have hE0 : Ext w (w.alloc (.cells (row 32 (yv lf)).toArray 25)) := (Below.refl _ _).alloc (Nat.le_refl _) _
  have kb := hideit (build_no n hn _ d _ (hL.ext hE0))
  have hz := zero24
  replace hC := hideit (hC.ext hE0)
  replace hE0 := hideit hE0
  clear hL H0
  go_enter Tryd.func6, Tryd.ntmps6
  go_upto_region 1 with (fail)
  generalize w.alloc (.cells (row 32 (yv lf)).toArray 25) = w1 at *
  refine wp_region_lit ?_
  refine wpList_run rfl (.slice ov n cap) (by simp [go_sem]) ?_
  simp only [Act.put, List.setIfInBounds_toArray, List.set_cons_zero, List.set_cons_succ]
  refine wpList_call rfl (by simp [go_sem]) ((kb.out).mono ?_)
  rintro e w2 ⟨rfl, hX2⟩
  refine ⟨_, rfl, ?_⟩
  simp only [Act.put, List.setIfInBounds_toArray, List.set_cons_zero, List.set_cons_succ]
  refine wpList_run rfl (.tuple #[.slice none 0 0, .agg (row 32 (yv fun _ => 0#8)).toArray, .int .i64 1]) (by simp [go_sem]) ?_
  simp only [Act.put, List.setIfInBounds_toArray, List.set_cons_zero, List.set_cons_succ]
  refine wpList_run rfl (.slice none 0 0) (by simp [go_sem]) ?_
  simp only [Act.put, List.setIfInBounds_toArray, List.set_cons_zero, List.set_cons_succ]
  refine wpList_run rfl (.agg (row 32 (yv fun _ => 0#8)).toArray) (by simp [go_sem]) ?_
  simp only [Act.put, List.setIfInBounds_toArray, List.set_cons_zero, List.set_cons_succ]
  refine wpList_run rfl (.int .i64 1) (by simp [go_sem]) ?_
  simp only [Act.put, List.setIfInBounds_toArray, List.set_cons_zero, List.set_cons_succ]
  have hX3 : Ext w2 (w2.alloc (.cells (row 32 (yv fun _ => 0#8)).toArray 25)) := (Below.refl _ _).alloc (Nat.le_refl _) _
  have C3 := RowAt.new w2 32 (yv fun _ => 0#8) 25
  have hY3 := Ext.trans hX2 (below_setCells (w := w2) w2.heap.size (Nat.le_refl _) (row 32 (yv fun _ => 0#8)) 0 _ hX3)
  have E3 := hideit (Ext.trans hE0.out hY3)
  have hC3 := hideit (hC.out.ext hY3)
  refine wpList_to rfl (.pointer (some ⟨w2.heap.size, 0, none⟩)) (w2.alloc (.cells (row 32 (yv fun _ => 0#8)).toArray 25)) (by simp [go_sem, hz]) ?_
  simp only [Act.put, List.setIfInBounds_toArray, List.set_cons_zero, List.set_cons_succ]
  refine wpList_run rfl (.slice none 0 0) (by simp [go_sem]) ?_
  simp only [Act.put, List.setIfInBounds_toArray, List.set_cons_zero, List.set_cons_succ]
  refine wpList_store_mid rfl 25 (.tmp 8) (.tmp 24) rfl _ 0 (row 32 (yv fun _ => 0#8)).toArray rfl rfl (by rw [row_size]; exact C3.there) (by rw [row_size]; exact info24) (row_one fun _ _ => rfl) ?_
  rw [show (row 32 (yv fun _ => 0#8)).toArray.toList = row 32 (yv fun _ => 0#8) from rfl]
  generalize (w2.alloc (.cells (row 32 (yv fun _ => 0#8)).toArray 25)).setCells w2.heap.size 0 (row 32 (yv fun _ => 0#8)) = w3 at *
  clear hX2 hX3 C3 kb hC hE0 hY3
  simp only [Act.put]
  have kl := hideit (lives_any w3 hC3.out)
  go_upto_region 4 with (go_at_call 11; refine kl.out.mono ?_; rintro e w4 ⟨rfl, hX4⟩; have E4 := hideit (Ext.trans E3.out hX4); clear E3 hX4)
  clear kl hC3
  by_cases h1 : n < 1
  · have i1 : (n : Int) < 1 := by omega
    replace hn := hideit hn
    go_wp2
    go_ret
    exact ⟨rfl, E4.out⟩
  · have i1 : ¬ (n : Int) < 1 := by omega
    have i2 : (4096 : Int) < (n : Int) := by omega
    replace hn := hideit hn
    go_wp2
    go_ret
    exact ⟨rfl, E4.out⟩
set_option maxRecDepth 20000 in
set_option maxHeartbeats 16000000 in
theorem walk_in (v : Value) (n : Nat) (d : Nat → Nat → BitVec 8) (b : Int) (lf : Nat → BitVec 8) (w : World) (hL : LV v n d w) (h1 : 1 ≤ n) (h2 : n ≤ 4096) (hC : TabC w) : Calls Tryd.prog 6 #[v, .int .i64 b, .agg (row 32 (yv lf)).toArray] w fun e w' => e = .returned (.bool true) ∧ Below w.heap.size w w' := by
  obtain ⟨a, cap, rfl, hla⟩ : ∃ a cap, v = .slice (some a) n cap ∧ LieAt a (n * 32) (lfV d) w := by
    rcases hL with ⟨_, h⟩ | ⟨a, cap, h, _, hl⟩
    · omega
    · exact ⟨a, cap, h, hl⟩
  have H0 := hideit (RowAt.new w 32 (yv lf) 25)
  have hE0 : Ext w (w.alloc (.cells (row 32 (yv lf)).toArray 25)) := (Below.refl _ _).alloc (Nat.le_refl _) _
  have kb := build_any n h1 h2 _ d _ (hL.ext hE0) (hC.ext hE0)
  obtain ⟨N, hN⟩ : ∃ N, N = lvN n := ⟨_, rfl⟩
  have hN3 := lvN_pos n
  rw [← hN] at kb hN3
  obtain ⟨RT1, hRT1⟩ : ∃ RT, RT = rootF n (digB n d N 0) := ⟨_, rfl⟩
  rw [← hRT1] at kb
  replace kb := hideit kb
  replace hRT1 := hideit hRT1
  replace hN := hideit hN
  replace hla := hideit hla
  replace hE0 := hideit hE0
  have hz := zero24
  replace hC := hideit hC
  clear hL
  go_enter Tryd.func6, Tryd.ntmps6
  go_upto_region 1 with (fail)
  generalize w.alloc (.cells (row 32 (yv lf)).toArray 25) = w1 at *
  refine wp_region_lit ?_
  refine wpList_run rfl (.slice (some a) n cap) (by simp [go_sem]) ?_
  simp only [Act.put, List.setIfInBounds_toArray, List.set_cons_zero, List.set_cons_succ]
  refine wpList_call rfl (by simp [go_sem]) ((kb.out).mono ?_)
  rintro e w2 ⟨lv, Bs, rfl, hO2, hl2, hX2⟩
  refine ⟨_, rfl, ?_⟩
  simp only [Act.put, List.setIfInBounds_toArray, List.set_cons_zero, List.set_cons_succ]
  obtain ⟨vb, vcap, rfl, -, -, -, hv2⟩ := hO2.lies (by omega)
  have E := hideit (Ext.trans hE0.out hX2)
  have L := hideit (H0.out.carry hX2)
  have R1 := hideit hv2
  have L1 : Hid (∀ j, j < N → LevAt (Bs j) (lc n j) (nodeB n d j) w2) := fun j hj => (hl2 j hj).2
  clear hO2 hl2 hX2 hv2 kb H0 hE0
  refine wpList_run rfl (.tuple #[.slice (some ⟨vb, 0, none⟩) N vcap, .agg (row 32 (yv RT1)).toArray, .int .i64 0]) (by simp [go_sem]) ?_
  simp only [Act.put, List.setIfInBounds_toArray, List.set_cons_zero, List.set_cons_succ]
  refine wpList_run rfl (.slice (some ⟨vb, 0, none⟩) N vcap) (by simp [go_sem]) ?_
  simp only [Act.put, List.setIfInBounds_toArray, List.set_cons_zero, List.set_cons_succ]
  refine wpList_run rfl (.agg (row 32 (yv RT1)).toArray) (by simp [go_sem]) ?_
  simp only [Act.put, List.setIfInBounds_toArray, List.set_cons_zero, List.set_cons_succ]
  refine wpList_run rfl (.int .i64 0) (by simp [go_sem]) ?_
  simp only [Act.put, List.setIfInBounds_toArray, List.set_cons_zero, List.set_cons_succ]
  have hXa : Ext w2 (w2.alloc (.cells (row 32 (yv fun _ => 0#8)).toArray 25)) := (Below.refl _ _).alloc (Nat.le_refl _) _
  have Ca := RowAt.new w2 32 (yv fun _ => 0#8) 25
  have hYa := below_setCells (w := w2) w2.heap.size (Nat.le_refl _) (row 32 (yv RT1)) 0 _ hXa
  have Q1 := hideit (Ca.cells (g' := yv RT1))
  replace E := hideit (Ext.trans E.out hYa)
  replace L := hideit (L.out.carry hYa)
  replace R1 := hideit (R1.out.carry hYa)
  replace L1 := hideit (fun j hj => (L1.out j hj).carry hYa)
  refine wpList_to rfl (.pointer (some ⟨w2.heap.size, 0, none⟩)) (w2.alloc (.cells (row 32 (yv fun _ => 0#8)).toArray 25)) (by simp [go_sem, hz]) ?_
  simp only [Act.put, List.setIfInBounds_toArray, List.set_cons_zero, List.set_cons_succ]
  refine wpList_run rfl (.slice (some ⟨vb, 0, none⟩) N vcap) (by simp [go_sem]) ?_
  simp only [Act.put, List.setIfInBounds_toArray, List.set_cons_zero, List.set_cons_succ]
  refine wpList_store_mid rfl 25 (.tmp 8) (.tmp 24) rfl _ 0 (row 32 (yv RT1)).toArray rfl rfl (by rw [row_size]; exact Ca.there) (by rw [row_size]; exact info24) (row_one fun _ _ => rfl) ?_
  rw [show (row 32 (yv RT1)).toArray.toList = row 32 (yv RT1) from rfl]
  generalize (w2.alloc (.cells (row 32 (yv fun _ => 0#8)).toArray 25)).setCells w2.heap.size 0 (row 32 (yv RT1)) = w3 at *
  generalize w2.heap.size = rb at *
  clear hXa Ca hYa
  simp only [Act.put]
  have kl := hideit (lives_any w3 (hC.out.ext E.out))
  go_upto_region 4 with (go_at_call 11; refine kl.out.mono ?_; rintro e w4 ⟨rfl, hX4⟩; replace E := hideit (Ext.trans E.out hX4); replace L := hideit (L.out.carry hX4); replace Q1 := hideit (Q1.out.carry hX4); replace R1 := hideit (R1.out.carry hX4); replace L1 := hideit (fun j hj => (L1.out j hj).carry hX4); clear hX4)
  clear kl
  have i1 : ¬ (n : Int) < 1 := by omega
  have i2 : ¬ (4096 : Int) < (n : Int) := by omega
  have n0 : ¬ n = 0 := by omega
  have t1 := Int.tmod_lt_of_pos b (show (0 : Int) < (n : Int) by omega)
  have t2 := Int.lt_tmod_of_pos b (show (0 : Int) < (n : Int) by omega)
  obtain ⟨r, hr⟩ : ∃ r, r = Int.tmod b (n : Int) := ⟨_, rfl⟩
  rw [← hr] at t1 t2
  replace hr := hideit hr
  go_upto_region 7 with (fail)
  refine wp_region_lit ?_
  refine wpList_run rfl (.int .i64 b) (by simp [go_sem]) ?_
  simp only [Act.put, List.setIfInBounds_toArray, List.set_cons_zero, List.set_cons_succ]
  refine wpList_run rfl (.int .i64 (n : Int)) (by simp [go_sem]) ?_
  simp only [Act.put, List.setIfInBounds_toArray, List.set_cons_zero, List.set_cons_succ]
  refine wpList_run rfl (.int .i64 r) (by simp [go_sem, n0, hr.out]) ?_
  simp only [Act.put, List.setIfInBounds_toArray, List.set_cons_zero, List.set_cons_succ]
  by_cases hneg : r < 0
  · obtain ⟨x, hx'⟩ : ∃ x : Nat, (x : Int) = r + (n : Int) := ⟨(r + n).toNat, by omega⟩
    have hx : x < n := by omega
    have x1 : (x : Int) < (n : Int) := by omega
    have hw : IntKind.i64.wrap (r + (n : Int)) = (x : Int) := by rw [IntKind.wrap_i64]; omega
    replace hw := hideit hw
    obtain ⟨RT2, hRT2⟩ : ∃ RT, RT = rootF n (digB n (dch d x lf) N 0) := ⟨_, rfl⟩
    replace hRT2 := hideit hRT2
    clear hx' t1 t2
    go_upto_region 9 with (fail)
    refine wp_region_lit ?_
    refine wpList_run rfl (.int .i64 r) (by simp [go_sem]) ?_
    simp only [Act.put, List.setIfInBounds_toArray, List.set_cons_zero, List.set_cons_succ]
    refine wpList_run rfl (.int .i64 (n : Int)) (by simp [go_sem]) ?_
    simp only [Act.put, List.setIfInBounds_toArray, List.set_cons_zero, List.set_cons_succ]
    refine wpList_run rfl (.int .i64 (x : Int)) (by simp [go_sem, hw.out]) ?_
    simp only [Act.put, List.setIfInBounds_toArray, List.set_cons_zero, List.set_cons_succ]
    clear hw hneg hr
    have kp := hideit (tpath_any n x N vb vcap h1 h2 hN.out hx Bs d w4 R1.out L1.out)
    go_upto_region 10 with (fail)
    refine wp_region_lit ?_
    refine wpList_run rfl (.slice (some ⟨vb, 0, none⟩) N vcap) (by simp [go_sem]) ?_
    simp only [Act.put, List.setIfInBounds_toArray, List.set_cons_zero, List.set_cons_succ]
    refine wpList_run rfl (.int .i64 (x : Int)) (by simp [go_sem]) ?_
    simp only [Act.put, List.setIfInBounds_toArray, List.set_cons_zero, List.set_cons_succ]
    refine wpList_call rfl (by simp [go_sem]) ((kp.out).mono ?_)
    rintro e w5 ⟨pv, rfl, hO5, hX5⟩
    refine ⟨_, rfl, ?_⟩
    simp only [Act.put, List.setIfInBounds_toArray, List.set_cons_zero, List.set_cons_succ]
    replace E := hideit (Ext.trans E.out hX5)
    replace L := hideit (L.out.carry hX5)
    replace Q1 := hideit (Q1.out.carry hX5)
    replace R1 := hideit (R1.out.carry hX5)
    replace L1 := hideit (fun j hj => (L1.out j hj).carry hX5)
    have PP := hideit (tpath_parts (d := d) hO5 (by omega) L1.out hx)
    obtain ⟨po, pc, rfl⟩ := PP.out.form
    have kc := change_go n x N h1 h2 hx lf (.slice po N pc) _ (fun _ => 512) (pbs n d x) w5 PP.out (hC.out.ext E.out) hN.out (fun _ _ => rfl)
    obtain ⟨g1, g2⟩ := chg_ok n d x lf hx N
    have hroot : rootF n (gL lf x (pbs n d x) (List.range N)).2.1 = RT2 := by rw [g2, top_zero n x N h1 h2 hN.out hx, hRT2.out]
    have kd := hideit (kc.mono fun e w' h => chg_use d hx (by omega) g1 hroot h)
    clear kp hX5 hO5 g1 g2 hroot kc
    go_upto_region 11 with (fail)
    refine wp_region_lit ?_
    refine wpList_run rfl (.int .i64 (n : Int)) (by simp [go_sem]) ?_
    simp only [Act.put, List.setIfInBounds_toArray, List.set_cons_zero, List.set_cons_succ]
    refine wpList_run rfl (.int .i64 (x : Int)) (by simp [go_sem]) ?_
    simp only [Act.put, List.setIfInBounds_toArray, List.set_cons_zero, List.set_cons_succ]
    refine wpList_run rfl (.agg (row 32 (yv lf)).toArray) (exec_loadR 25 (.tmp 5) rfl w.heap.size 0 32 _ rfl L.out.range Tryd.underlying25 rfl info24) ?_
    simp only [Act.put, List.setIfInBounds_toArray, List.set_cons_zero, List.set_cons_succ]
    refine wpList_run rfl (.slice po N pc) (by simp [go_sem]) ?_
    simp only [Act.put, List.setIfInBounds_toArray, List.set_cons_zero, List.set_cons_succ]
    refine wpList_call rfl (by simp [go_sem]) ((kd.out).mono ?_)
    rintro e w6 ⟨cv, rfl, hC6, hX6⟩
    refine ⟨_, rfl, ?_⟩
    simp only [Act.put, List.setIfInBounds_toArray, List.set_cons_zero, List.set_cons_succ]
    replace E := hideit (Ext.trans E.out hX6)
    replace L := hideit (L.out.carry hX6)
    replace Q1 := hideit (Q1.out.carry hX6)
    replace R1 := hideit (R1.out.carry hX6)
    replace L1 := hideit (fun j hj => (L1.out j hj).carry hX6)
    replace PP := hideit (PP.out.ext hX6)
    have CC := hideit hC6
    obtain ⟨co, cc, rfl⟩ : ∃ co cc, cv = .slice co N cc := hC6.elim fun us h => h.form
    clear kd hC6 hX6
    refine wpList_run rfl (.tuple #[.slice co N cc, .agg (row 32 (yv RT2)).toArray, .int .i64 0]) (by simp [go_sem]) ?_
    simp only [Act.put, List.setIfInBounds_toArray, List.set_cons_zero, List.set_cons_succ]
    refine wpList_run rfl (.slice co N cc) (by simp [go_sem]) ?_
    simp only [Act.put, List.setIfInBounds_toArray, List.set_cons_zero, List.set_cons_succ]
    refine wpList_run rfl (.agg (row 32 (yv RT2)).toArray) (by simp [go_sem]) ?_
    simp only [Act.put, List.setIfInBounds_toArray, List.set_cons_zero, List.set_cons_succ]
    refine wpList_run rfl (.int .i64 0) (by simp [go_sem]) ?_
    simp only [Act.put, List.setIfInBounds_toArray, List.set_cons_zero, List.set_cons_succ]
    have hXa : Ext w6 (w6.alloc (.cells (row 32 (yv fun _ => 0#8)).toArray 25)) := (Below.refl _ _).alloc (Nat.le_refl _) _
    have Ca := RowAt.new w6 32 (yv fun _ => 0#8) 25
    have hYa := below_setCells (w := w6) w6.heap.size (Nat.le_refl _) (row 32 (yv RT2)) 0 _ hXa
    have Rr := hideit (Ca.cells (g' := yv RT2))
    replace E := hideit (Ext.trans E.out hYa)
    replace L := hideit (L.out.carry hYa)
    replace Q1 := hideit (Q1.out.carry hYa)
    replace R1 := hideit (R1.out.carry hYa)
    replace L1 := hideit (fun j hj => (L1.out j hj).carry hYa)
    replace PP := hideit (PP.out.ext hYa)
    replace CC := hideit (CC.out.elim fun us h => Exists.intro us (h.ext hYa))
    refine wpList_to rfl (.pointer (some ⟨w6.heap.size, 0, none⟩)) (w6.alloc (.cells (row 32 (yv fun _ => 0#8)).toArray 25)) (by simp [go_sem, hz]) ?_
    simp only [Act.put, List.setIfInBounds_toArray, List.set_cons_zero, List.set_cons_succ]
    refine wpList_run rfl (.slice co N cc) (by simp [go_sem]) ?_
    simp only [Act.put, List.setIfInBounds_toArray, List.set_cons_zero, List.set_cons_succ]
    refine wpList_store_mid rfl 25 (.tmp 14) (.tmp 64) rfl _ 0 (row 32 (yv RT2)).toArray rfl rfl (by rw [row_size]; exact Ca.there) (by rw [row_size]; exact info24) (row_one fun _ _ => rfl) ?_
    rw [show (row 32 (yv RT2)).toArray.toList = row 32 (yv RT2) from rfl]
    generalize (w6.alloc (.cells (row 32 (yv fun _ => 0#8)).toArray 25)).setCells w6.heap.size 0 (row 32 (yv RT2)) = w7 at *
    generalize w6.heap.size = rq at *
    clear hXa Ca hYa
    simp only [Act.put]
    go_upto_region 12 with (fail)
    have hX8 : Ext w7 (w7.alloc (.cells #[] 25)) := (Below.refl _ _).alloc (Nat.le_refl _) _
    have hO8 := ownK_empty w7 32 w7.heap.size 25 (lfV d) (Nat.le_refl _)
    refine wp_region_lit ?_
    refine wpList_to rfl (.slice (some ⟨w7.heap.size, 0, none⟩) 0 0) (w7.alloc (.cells #[] 25)) (by simp [go_sem]) ?_
    simp only [Act.put, List.setIfInBounds_toArray, List.set_cons_zero, List.set_cons_succ]
    refine wpList_run rfl (.slice (some a) n cap) (by simp [go_sem]) ?_
    simp only [Act.put, List.setIfInBounds_toArray, List.set_cons_zero, List.set_cons_succ]
    refine wpList_growK (n := 0) (base := w7.heap.size) elem22K (by decide) rfl (.tmp 66) (.tmp 67) rfl rfl hO8 a n cap (lfV d) (lfV d) rfl (hla.out.carry (Ext.trans E.out hX8)) (fun _ _ => rfl) (fun j hj => rfl) (fun j hj => by rw [Nat.zero_mul, Nat.zero_add]) (by omega) (by omega) (Below.size hX8) ?_
    intro v9 w9 hO9 hg9
    rw [Nat.zero_add] at hO9
    have hX9 : Ext w7 w9 := Below.trans hX8 (below_grown (Below.size hX8) hg9 fun k hk => by cases hk; exact Nat.le_refl _)
    obtain ⟨db, dc, rfl, hdb, hdc, -, hD9⟩ := hO9.lies (by omega)
    have L9 := hideit (L.out.carry hX9)
    simp only [Act.put, List.setIfInBounds_toArray, List.set_cons_zero, List.set_cons_succ]
    clear hX8 hO8 hg9 hO9
    have hY9 : Ext w7 (w9.setCells db (x * 32) (row 32 (yv lf))) := below_setCells (w := w7) db hdb (row 32 (yv lf)) (x * 32) _ hX9
    have hth := hD9.thereSub (x * 32) 32 (by omega)
    have DD := hideit (row_change (leaf := lf) hD9 hx)
    replace hY9 := hideit hY9
    replace hth := hideit hth
    clear hX9 hD9
    go_upto_region 13 with (fail)
    refine wp_region_lit ?_
    refine wpList_run rfl (.slice (some ⟨db, 0, none⟩) n dc) (by simp [go_sem]) ?_
    simp only [Act.put, List.setIfInBounds_toArray, List.set_cons_zero, List.set_cons_succ]
    refine wpList_run rfl (.int .i64 (x : Int)) (by simp [go_sem]) ?_
    simp only [Act.put, List.setIfInBounds_toArray, List.set_cons_zero, List.set_cons_succ]
    refine wpList_run rfl (.agg (row 32 (yv lf)).toArray) (exec_loadR 25 (.tmp 5) rfl w.heap.size 0 32 _ rfl L9.out.range Tryd.underlying25 rfl info24) ?_
    simp only [Act.put, List.setIfInBounds_toArray, List.set_cons_zero, List.set_cons_succ]
    refine wpList_run rfl (.pointer (some ⟨db, x * 32, none⟩)) (by simp [go_sem, x1, add0]) ?_
    simp only [Act.put, List.setIfInBounds_toArray, List.set_cons_zero, List.set_cons_succ]
    refine wpList_store_mid rfl 25 (.tmp 72) (.tmp 71) rfl _ (x * 32) (row 32 (yv lf)).toArray rfl rfl (by rw [row_size]; exact hth.out) (by rw [row_size]; exact info24) (row_one fun _ _ => rfl) ?_
    rw [show (row 32 (yv lf)).toArray.toList = row 32 (yv lf) from rfl]
    replace E := hideit (Ext.trans E.out hY9.out)
    replace L := hideit (L.out.carry hY9.out)
    replace Q1 := hideit (Q1.out.carry hY9.out)
    replace R1 := hideit (R1.out.carry hY9.out)
    replace L1 := hideit (fun j hj => (L1.out j hj).carry hY9.out)
    replace PP := hideit (PP.out.ext hY9.out)
    replace CC := hideit (CC.out.elim fun us h => Exists.intro us (h.ext hY9.out))
    replace Rr := hideit (Rr.out.carry hY9.out)
    generalize w9.setCells db (x * 32) (row 32 (yv lf)) = w9b at *
    clear hY9 hth L9
    simp only [Act.put]
    have kb2 := build_any n h1 h2 (.slice (some ⟨db, 0, none⟩) n dc) (dch d x lf) w9b (.inr ⟨_, dc, rfl, hdc, DD.out.lie _ (Nat.le_refl _)⟩) (hC.out.ext E.out)
    rw [← hN.out, ← hRT2.out] at kb2
    replace kb2 := hideit kb2
    go_upto_region 14 with (fail)
    refine wp_region_lit ?_
    refine wpList_run rfl (.slice (some ⟨db, 0, none⟩) n dc) (by simp [go_sem]) ?_
    simp only [Act.put, List.setIfInBounds_toArray, List.set_cons_zero, List.set_cons_succ]
    refine wpList_call rfl (by simp [go_sem]) ((kb2.out).mono ?_)
    rintro e w10 ⟨lv2, Bs2, rfl, hO10, hl10, hX10⟩
    refine ⟨_, rfl, ?_⟩
    simp only [Act.put, List.setIfInBounds_toArray, List.set_cons_zero, List.set_cons_succ]
    obtain ⟨vb2, vcap2, rfl, -, -, -, hv10⟩ := hO10.lies (by omega)
    replace E := hideit (Ext.trans E.out hX10)
    replace L := hideit (L.out.carry hX10)
    replace Q1 := hideit (Q1.out.carry hX10)
    replace PP := hideit (PP.out.ext hX10)
    replace CC := hideit (CC.out.elim fun us h => Exists.intro us (h.ext hX10))
    replace Rr := hideit (Rr.out.carry hX10)
    have R2 := hideit hv10
    have L2 : Hid (∀ j, j < N → LevAt (Bs2 j) (lc n j) (nodeB n (dch d x lf) j) w10) := fun j hj => (hl10 j hj).2
    clear kb2 DD hO10 hl10 hX10 hv10 R1 L1
    refine wpList_run rfl (.tuple #[.slice (some ⟨vb2, 0, none⟩) N vcap2, .agg (row 32 (yv RT2)).toArray, .int .i64 0]) (by simp [go_sem]) ?_
    simp only [Act.put, List.setIfInBounds_toArray, List.set_cons_zero, List.set_cons_succ]
    refine wpList_run rfl (.slice (some ⟨vb2, 0, none⟩) N vcap2) (by simp [go_sem]) ?_
    simp only [Act.put, List.setIfInBounds_toArray, List.set_cons_zero, List.set_cons_succ]
    refine wpList_run rfl (.agg (row 32 (yv RT2)).toArray) (by simp [go_sem]) ?_
    simp only [Act.put, List.setIfInBounds_toArray, List.set_cons_zero, List.set_cons_succ]
    refine wpList_run rfl (.int .i64 0) (by simp [go_sem]) ?_
    simp only [Act.put, List.setIfInBounds_toArray, List.set_cons_zero, List.set_cons_succ]
    have hXa : Ext w10 (w10.alloc (.cells (row 32 (yv fun _ => 0#8)).toArray 25)) := (Below.refl _ _).alloc (Nat.le_refl _) _
    have Ca := RowAt.new w10 32 (yv fun _ => 0#8) 25
    have hYa := below_setCells (w := w10) w10.heap.size (Nat.le_refl _) (row 32 (yv RT2)) 0 _ hXa
    have Q2 := hideit (Ca.cells (g' := yv RT2))
    replace E := hideit (Ext.trans E.out hYa)
    replace L := hideit (L.out.carry hYa)
    replace Q1 := hideit (Q1.out.carry hYa)
    replace PP := hideit (PP.out.ext hYa)
    replace CC := hideit (CC.out.elim fun us h => Exists.intro us (h.ext hYa))
    replace Rr := hideit (Rr.out.carry hYa)
    replace R2 := hideit (R2.out.carry hYa)
    replace L2 := hideit (fun j hj => (L2.out j hj).carry hYa)
    refine wpList_to rfl (.pointer (some ⟨w10.heap.size, 0, none⟩)) (w10.alloc (.cells (row 32 (yv fun _ => 0#8)).toArray 25)) (by simp [go_sem, hz]) ?_
    simp only [Act.put, List.setIfInBounds_toArray, List.set_cons_zero, List.set_cons_succ]
    refine wpList_run rfl (.slice (some ⟨vb2, 0, none⟩) N vcap2) (by simp [go_sem]) ?_
    simp only [Act.put, List.setIfInBounds_toArray, List.set_cons_zero, List.set_cons_succ]
    refine wpList_store_mid rfl 25 (.tmp 18) (.tmp 77) rfl _ 0 (row 32 (yv RT2)).toArray rfl rfl (by rw [row_size]; exact Ca.there) (by rw [row_size]; exact info24) (row_one fun _ _ => rfl) ?_
    rw [show (row 32 (yv RT2)).toArray.toList = row 32 (yv RT2) from rfl]
    generalize (w10.alloc (.cells (row 32 (yv fun _ => 0#8)).toArray 25)).setCells w10.heap.size 0 (row 32 (yv RT2)) = w11 at *
    generalize w10.heap.size = rs at *
    clear hXa Ca hYa
    simp only [Act.put]
    go_upto_region 15 with (fail)
    have kp2 := hideit (tpath_any n x N vb2 vcap2 h1 h2 hN.out hx Bs2 (dch d x lf) w11 R2.out L2.out)
    refine wp_region_lit ?_
    refine wpList_run rfl (.int .i64 0) (by simp [go_sem]) ?_
    simp only [Act.put, List.setIfInBounds_toArray, List.set_cons_zero, List.set_cons_succ]
    refine wpList_run rfl (.bool false) (by simp [go_sem]) ?_
    simp only [Act.put, List.setIfInBounds_toArray, List.set_cons_zero, List.set_cons_succ]
    refine wpList_run rfl (.bool false) (by simp [go_sem]) ?_
    simp only [Act.put, List.setIfInBounds_toArray, List.set_cons_zero, List.set_cons_succ]
    refine wpList_runW rfl (.int .i64 0) (by simp [go_sem]) ?_
    simp only [Act.put, List.setIfInBounds_toArray, List.set_cons_zero, List.set_cons_succ]
    refine wpList_runW rfl (.bool false) (by simp [go_sem]) ?_
    simp only [Act.put, List.setIfInBounds_toArray, List.set_cons_zero, List.set_cons_succ]
    refine wpList_run rfl (.bool false) (by simp [go_sem]) ?_
    simp only [Act.put, List.setIfInBounds_toArray, List.set_cons_zero, List.set_cons_succ]
    refine wpList_run rfl (.bool false) (by simp [go_sem]) ?_
    simp only [Act.put, List.setIfInBounds_toArray, List.set_cons_zero, List.set_cons_succ]
    refine wpList_runW rfl (.agg (row 32 (yv RT2)).toArray) (exec_loadR 25 (.tmp 14) rfl rq 0 32 _ rfl Rr.out.range Tryd.underlying25 rfl info24) ?_
    simp only [Act.put, List.setIfInBounds_toArray, List.set_cons_zero, List.set_cons_succ]
    refine wpList_runW rfl (.agg (row 32 (yv RT2)).toArray) (exec_loadR 25 (.tmp 18) rfl rs 0 32 _ rfl Q2.out.range Tryd.underlying25 rfl info24) ?_
    simp only [Act.put, List.setIfInBounds_toArray, List.set_cons_zero, List.set_cons_succ]
    refine wpList_runW rfl (.bool false) (exec_cmp .neq 25 25 (.tmp 86) (.tmp 87) rfl _ _ rfl rfl (by kernel_rfl) false ((neq25 _ _ _).trans (by rw [eqN_iff.2 fun _ _ => rfl]; rfl))) ?_
    simp only [Act.put, List.setIfInBounds_toArray, List.set_cons_zero, List.set_cons_succ]
    refine wpList_run rfl (.bool false) (by simp [go_sem]) ?_
    simp only [Act.put, List.setIfInBounds_toArray, List.set_cons_zero, List.set_cons_succ]
    refine wpList_run rfl (.bool false) (by simp [go_sem]) ?_
    simp only [Act.put, List.setIfInBounds_toArray, List.set_cons_zero, List.set_cons_succ]
    refine wpList_runW rfl (.slice co N cc) (by simp [go_sem]) ?_
    simp only [Act.put, List.setIfInBounds_toArray, List.set_cons_zero, List.set_cons_succ]
    refine wpList_runW rfl (.slice (some ⟨vb2, 0, none⟩) N vcap2) (by simp [go_sem]) ?_
    simp only [Act.put, List.setIfInBounds_toArray, List.set_cons_zero, List.set_cons_succ]
    refine wpList_runW rfl (.int .i64 (x : Int)) (by simp [go_sem]) ?_
    simp only [Act.put, List.setIfInBounds_toArray, List.set_cons_zero, List.set_cons_succ]
    refine wpList_callW rfl (by simp [go_sem]) ((kp2.out).mono ?_)
    rintro e w12 ⟨pv2, rfl, hO12, hX12⟩
    refine ⟨_, rfl, ?_⟩
    simp only [Act.put, List.setIfInBounds_toArray, List.set_cons_zero, List.set_cons_succ]
    replace E := hideit (Ext.trans E.out hX12)
    replace L := hideit (L.out.carry hX12)
    replace Q1 := hideit (Q1.out.carry hX12)
    replace PP := hideit (PP.out.ext hX12)
    replace CC := hideit (CC.out.elim fun us h => Exists.intro us (h.ext hX12))
    replace Rr := hideit (Rr.out.carry hX12)
    replace L2 := hideit (fun j hj => (L2.out j hj).carry hX12)
    have P2 := hideit (tpath_parts (d := dch d x lf) hO12 (by omega) L2.out hx)
    obtain ⟨qo, qc, rfl⟩ := P2.out.form
    have ks : Calls Tryd.prog 16 #[.slice co N cc, .slice qo N qc] w12 fun e w' => e = .returned (.bool true) ∧ Ext w12 w' := CC.out.elim fun us h => same_true N _ _ us _ (fun _ => 512) _ _ w12 h P2.out (fun i hi j hj => rfl) (by omega)
    replace ks := hideit ks
    clear kp2 hO12 hX12 L2 R2
    refine wpList_callW rfl (by simp [go_sem]) ((ks.out).mono ?_)
    rintro e w13 ⟨rfl, hX13⟩
    refine ⟨_, rfl, ?_⟩
    simp only [Act.put, List.setIfInBounds_toArray, List.set_cons_zero, List.set_cons_succ]
    replace E := hideit (Ext.trans E.out hX13)
    replace L := hideit (L.out.carry hX13)
    replace Q1 := hideit (Q1.out.carry hX13)
    replace PP := hideit (PP.out.ext hX13)
    replace CC := hideit (CC.out.elim fun us h => Exists.intro us (h.ext hX13))
    replace Rr := hideit (Rr.out.carry hX13)
    clear ks hX13 P2
    refine wpList_runW rfl (.bool false) (by simp [go_sem]) ?_
    simp only [Act.put, List.setIfInBounds_toArray, List.set_cons_zero, List.set_cons_succ]
    refine wpList_run rfl (.bool false) (by simp [go_sem]) ?_
    simp only [Act.put, List.setIfInBounds_toArray, List.set_cons_zero, List.set_cons_succ]
    go_upto_region 17 with (fail)
    have hdr : Ext w13 w13.drew := (Ext.refl w13).draw
    replace E := hideit (Ext.trans E.out hdr)
    replace L := hideit (L.out.carry hdr)
    replace Q1 := hideit (Q1.out.carry hdr)
    replace PP := hideit (PP.out.ext hdr)
    replace CC := hideit (CC.out.elim fun us h => Exists.intro us (h.ext hdr))
    replace Rr := hideit (Rr.out.carry hdr)
    have kc1 := check_go n x N h1 h2 hx (d x) RT1 _ _ (fun _ => 512) (pbs n d x) w13.drew PP.out (hC.out.ext E.out) hN.out (fun _ _ => rfl)
    have hr1 := path_right n x N d h1 h2 hN.out hx
    rw [← hRT1.out] at hr1
    have hr2 := path_right n x N (dch d x lf) h1 h2 hN.out hx
    rw [← hRT2.out, show dch d x lf x = lf by unfold dch; rw [if_pos rfl]] at hr2
    refine wp_region_lad (fun X => Ext w13.drew X) [(false, 0), (false, 1), (false, 2), (false, 3), (false, 4), (false, 5), (false, 6), (false, 7), (true, 8), (false, 9), (false, 10), (false, 11), (false, 12), (false, 13), (false, 14), (false, 15), (true, 16), (false, 17), (false, 18), (false, 19)] (by kernel_rfl) (by kernel_rfl) (by decide +kernel) (by decide +kernel) (by decide +kernel) (by decide +kernel) (Ext.refl _) ?_
    refine wpX_f _ (.int .i64 (n : Int)) rfl rfl (fun X _ => by simp [go_sem]) ?_
    simp only [List.getElem_toArray, List.getElem_cons_zero, Act.put, List.setIfInBounds_toArray, List.set_cons_zero, List.set_cons_succ]
    refine wpX_f _ (.int .i64 (x : Int)) rfl rfl (fun X _ => by simp [go_sem]) ?_
    simp only [List.getElem_toArray, List.getElem_cons_zero, List.getElem_cons_succ, Act.put, List.setIfInBounds_toArray, List.set_cons_zero, List.set_cons_succ]
    refine wpX_f _ (.slice (some a) n cap) rfl rfl (fun X _ => by simp [go_sem]) ?_
    simp only [List.getElem_toArray, List.getElem_cons_zero, List.getElem_cons_succ, Act.put, List.setIfInBounds_toArray, List.set_cons_zero, List.set_cons_succ]
    refine wpX_f _ (.int .i64 (x : Int)) rfl rfl (fun X _ => by simp [go_sem]) ?_
    simp only [List.getElem_toArray, List.getElem_cons_zero, List.getElem_cons_succ, Act.put, List.setIfInBounds_toArray, List.set_cons_zero, List.set_cons_succ]
    refine wpX_f _ (.pointer (some (a.add (x * 32)))) rfl rfl (fun X _ => by simp [go_sem, x1]) ?_
    simp only [List.getElem_toArray, List.getElem_cons_zero, List.getElem_cons_succ, Act.put, List.setIfInBounds_toArray, List.set_cons_zero, List.set_cons_succ]
    refine wpX_f _ (.agg (row 32 (yv (d x))).toArray) rfl rfl (fun X hX => exec_loadL 25 (.tmp 102) rfl (a.add (x * 32)) 32 _ rfl (lie_leaf (hla.out.carry (Ext.trans E.out hX)) x hx) Tryd.underlying25 rfl info24) ?_
    simp only [List.getElem_toArray, List.getElem_cons_zero, List.getElem_cons_succ, Act.put, List.setIfInBounds_toArray, List.set_cons_zero, List.set_cons_succ]
    refine wpX_f _ (.slice po N pc) rfl rfl (fun X _ => by simp [go_sem]) ?_
    simp only [List.getElem_toArray, List.getElem_cons_zero, List.getElem_cons_succ, Act.put, List.setIfInBounds_toArray, List.set_cons_zero, List.set_cons_succ]
    refine wpX_f _ (.agg (row 32 (yv RT1)).toArray) rfl rfl (fun X hX => exec_loadR 25 (.tmp 8) rfl rb 0 32 _ rfl (Q1.out.carry hX).range Tryd.underlying25 rfl info24) ?_
    simp only [List.getElem_toArray, List.getElem_cons_zero, List.getElem_cons_succ, Act.put, List.setIfInBounds_toArray, List.set_cons_zero, List.set_cons_succ]
    refine wpX_call _ rfl rfl (by simp [go_sem]) (kc1.mono ?_)
    rintro e w14 ⟨z, rfl, hX14, hz14⟩
    obtain rfl : z = 0 := by
      rcases hz14 with ⟨h, _⟩ | ⟨_, h⟩
      · exact h
      · exact absurd hr1 h
    refine ⟨_, rfl, fun X => Ext w14 X, fun X hX => Ext.trans hX14 hX, Ext.refl _, ?_⟩
    simp only [List.getElem_toArray, List.getElem_cons_zero, List.getElem_cons_succ, Act.put, List.setIfInBounds_toArray, List.set_cons_zero, List.set_cons_succ]
    refine wpX_f _ (.bool true) rfl rfl (fun X _ => by simp [go_sem]) ?_
    simp only [List.getElem_toArray, List.getElem_cons_zero, List.getElem_cons_succ, Act.put, List.setIfInBounds_toArray, List.set_cons_zero, List.set_cons_succ]
    refine wpX_f _ (.bool true) rfl rfl (fun X _ => by simp [go_sem]) ?_
    simp only [List.getElem_toArray, List.getElem_cons_zero, List.getElem_cons_succ, Act.put, List.setIfInBounds_toArray, List.set_cons_zero, List.set_cons_succ]
    refine wpX_f _ (.int .i64 (n : Int)) rfl rfl (fun X _ => by simp [go_sem]) ?_
    simp only [List.getElem_toArray, List.getElem_cons_zero, List.getElem_cons_succ, Act.put, List.setIfInBounds_toArray, List.set_cons_zero, List.set_cons_succ]
    refine wpX_f _ (.int .i64 (x : Int)) rfl rfl (fun X _ => by simp [go_sem]) ?_
    simp only [List.getElem_toArray, List.getElem_cons_zero, List.getElem_cons_succ, Act.put, List.setIfInBounds_toArray, List.set_cons_zero, List.set_cons_succ]
    refine wpX_f _ (.agg (row 32 (yv lf)).toArray) rfl rfl (fun X hX => exec_loadR 25 (.tmp 5) rfl w.heap.size 0 32 _ rfl (L.out.carry (Ext.trans hX14 hX)).range Tryd.underlying25 rfl info24) ?_
    simp only [List.getElem_toArray, List.getElem_cons_zero, List.getElem_cons_succ, Act.put, List.setIfInBounds_toArray, List.set_cons_zero, List.set_cons_succ]
    refine wpX_f _ (.slice co N cc) rfl rfl (fun X _ => by simp [go_sem]) ?_
    simp only [List.getElem_toArray, List.getElem_cons_zero, List.getElem_cons_succ, Act.put, List.setIfInBounds_toArray, List.set_cons_zero, List.set_cons_succ]
    refine wpX_f _ (.agg (row 32 (yv RT2)).toArray) rfl rfl (fun X hX => exec_loadR 25 (.tmp 14) rfl rq 0 32 _ rfl (Rr.out.carry (Ext.trans hX14 hX)).range Tryd.underlying25 rfl info24) ?_
    simp only [List.getElem_toArray, List.getElem_cons_zero, List.getElem_cons_succ, Act.put, List.setIfInBounds_toArray, List.set_cons_zero, List.set_cons_succ]
    have kc2 : Calls Tryd.prog 21 #[.int .i64 (n : Int), .int .i64 (x : Int), .agg (row 32 (yv lf)).toArray, .slice co N cc, .agg (row 32 (yv RT2)).toArray] w14 fun e w' => e = .returned (.int .i64 0) ∧ Ext w14 w' := CC.out.elim fun us h => (check_go n x N h1 h2 hx lf RT2 _ us (fun _ => 512) (pbs n (dch d x lf) x) w14 (h.ext hX14) (hC.out.ext (Ext.trans E.out hX14)) hN.out (fun _ _ => rfl)).mono fun e w' ⟨z, he, hE, hz⟩ => by
      rcases hz with ⟨h, _⟩ | ⟨_, h⟩
      · rw [he, h]; exact ⟨rfl, hE⟩
      · exact absurd hr2 h
    refine wpX_call _ rfl rfl (by simp [go_sem]) (kc2.mono ?_)
    rintro e w15 ⟨rfl, hX15⟩
    refine ⟨_, rfl, fun X => Ext w15 X, fun X hX => Ext.trans hX15 hX, Ext.refl _, ?_⟩
    simp only [List.getElem_toArray, List.getElem_cons_zero, List.getElem_cons_succ, Act.put, List.setIfInBounds_toArray, List.set_cons_zero, List.set_cons_succ]
    refine wpX_f _ (.bool true) rfl rfl (fun X _ => by simp [go_sem]) ?_
    simp only [List.getElem_toArray, List.getElem_cons_zero, List.getElem_cons_succ, Act.put, List.setIfInBounds_toArray, List.set_cons_zero, List.set_cons_succ]
    refine wpX_f _ (.bool true) rfl rfl (fun X _ => by simp [go_sem]) ?_
    simp only [List.getElem_toArray, List.getElem_cons_zero, List.getElem_cons_succ, Act.put, List.setIfInBounds_toArray, List.set_cons_zero, List.set_cons_succ]
    refine wpX_f _ (.bool true) rfl rfl (fun X _ => by simp [go_sem]) ?_
    simp only [List.getElem_toArray, List.getElem_cons_zero, List.getElem_cons_succ, Act.put, List.setIfInBounds_toArray, List.set_cons_zero, List.set_cons_succ]
    refine wpX_nil ?_
    have E9 := hideit (Ext.trans E.out (Ext.trans hX14 hX15))
    clear kc1 kc2 hr1 hr2 hX14 hX15 hdr L Q1 PP CC Rr E Q2
    go_wp2
    go_ret
    exact ⟨rfl, E9.out⟩
  · obtain ⟨x, rfl⟩ : ∃ x : Nat, r = (x : Int) := ⟨r.toNat, by omega⟩
    have hx : x < n := by omega
    have x1 : (x : Int) < (n : Int) := by omega
    obtain ⟨RT2, hRT2⟩ : ∃ RT, RT = rootF n (digB n (dch d x lf) N 0) := ⟨_, rfl⟩
    replace hRT2 := hideit hRT2
    clear t1 t2 hr
    have kp := hideit (tpath_any n x N vb vcap h1 h2 hN.out hx Bs d w4 R1.out L1.out)
    go_upto_region 10 with (fail)
    refine wp_region_lit ?_
    refine wpList_run rfl (.slice (some ⟨vb, 0, none⟩) N vcap) (by simp [go_sem]) ?_
    simp only [Act.put, List.setIfInBounds_toArray, List.set_cons_zero, List.set_cons_succ]
    refine wpList_run rfl (.int .i64 (x : Int)) (by simp [go_sem]) ?_
    simp only [Act.put, List.setIfInBounds_toArray, List.set_cons_zero, List.set_cons_succ]
    refine wpList_call rfl (by simp [go_sem]) ((kp.out).mono ?_)
    rintro e w5 ⟨pv, rfl, hO5, hX5⟩
    refine ⟨_, rfl, ?_⟩
    simp only [Act.put, List.setIfInBounds_toArray, List.set_cons_zero, List.set_cons_succ]
    replace E := hideit (Ext.trans E.out hX5)
    replace L := hideit (L.out.carry hX5)
    replace Q1 := hideit (Q1.out.carry hX5)
    replace R1 := hideit (R1.out.carry hX5)
    replace L1 := hideit (fun j hj => (L1.out j hj).carry hX5)
    have PP := hideit (tpath_parts (d := d) hO5 (by omega) L1.out hx)
    obtain ⟨po, pc, rfl⟩ := PP.out.form
    have kc := change_go n x N h1 h2 hx lf (.slice po N pc) _ (fun _ => 512) (pbs n d x) w5 PP.out (hC.out.ext E.out) hN.out (fun _ _ => rfl)
    obtain ⟨g1, g2⟩ := chg_ok n d x lf hx N
    have hroot : rootF n (gL lf x (pbs n d x) (List.range N)).2.1 = RT2 := by rw [g2, top_zero n x N h1 h2 hN.out hx, hRT2.out]
    have kd := hideit (kc.mono fun e w' h => chg_use d hx (by omega) g1 hroot h)
    clear kp hX5 hO5 g1 g2 hroot kc
    go_upto_region 11 with (fail)
    refine wp_region_lit ?_
    refine wpList_run rfl (.int .i64 (n : Int)) (by simp [go_sem]) ?_
    simp only [Act.put, List.setIfInBounds_toArray, List.set_cons_zero, List.set_cons_succ]
    refine wpList_run rfl (.int .i64 (x : Int)) (by simp [go_sem]) ?_
    simp only [Act.put, List.setIfInBounds_toArray, List.set_cons_zero, List.set_cons_succ]
    refine wpList_run rfl (.agg (row 32 (yv lf)).toArray) (exec_loadR 25 (.tmp 5) rfl w.heap.size 0 32 _ rfl L.out.range Tryd.underlying25 rfl info24) ?_
    simp only [Act.put, List.setIfInBounds_toArray, List.set_cons_zero, List.set_cons_succ]
    refine wpList_run rfl (.slice po N pc) (by simp [go_sem]) ?_
    simp only [Act.put, List.setIfInBounds_toArray, List.set_cons_zero, List.set_cons_succ]
    refine wpList_call rfl (by simp [go_sem]) ((kd.out).mono ?_)
    rintro e w6 ⟨cv, rfl, hC6, hX6⟩
    refine ⟨_, rfl, ?_⟩
    simp only [Act.put, List.setIfInBounds_toArray, List.set_cons_zero, List.set_cons_succ]
    replace E := hideit (Ext.trans E.out hX6)
    replace L := hideit (L.out.carry hX6)
    replace Q1 := hideit (Q1.out.carry hX6)
    replace R1 := hideit (R1.out.carry hX6)
    replace L1 := hideit (fun j hj => (L1.out j hj).carry hX6)
    replace PP := hideit (PP.out.ext hX6)
    have CC := hideit hC6
    obtain ⟨co, cc, rfl⟩ : ∃ co cc, cv = .slice co N cc := hC6.elim fun us h => h.form
    clear kd hC6 hX6
    refine wpList_run rfl (.tuple #[.slice co N cc, .agg (row 32 (yv RT2)).toArray, .int .i64 0]) (by simp [go_sem]) ?_
    simp only [Act.put, List.setIfInBounds_toArray, List.set_cons_zero, List.set_cons_succ]
    refine wpList_run rfl (.slice co N cc) (by simp [go_sem]) ?_
    simp only [Act.put, List.setIfInBounds_toArray, List.set_cons_zero, List.set_cons_succ]
    refine wpList_run rfl (.agg (row 32 (yv RT2)).toArray) (by simp [go_sem]) ?_
    simp only [Act.put, List.setIfInBounds_toArray, List.set_cons_zero, List.set_cons_succ]
    refine wpList_run rfl (.int .i64 0) (by simp [go_sem]) ?_
    simp only [Act.put, List.setIfInBounds_toArray, List.set_cons_zero, List.set_cons_succ]
    have hXa : Ext w6 (w6.alloc (.cells (row 32 (yv fun _ => 0#8)).toArray 25)) := (Below.refl _ _).alloc (Nat.le_refl _) _
    have Ca := RowAt.new w6 32 (yv fun _ => 0#8) 25
    have hYa := below_setCells (w := w6) w6.heap.size (Nat.le_refl _) (row 32 (yv RT2)) 0 _ hXa
    have Rr := hideit (Ca.cells (g' := yv RT2))
    replace E := hideit (Ext.trans E.out hYa)
    replace L := hideit (L.out.carry hYa)
    replace Q1 := hideit (Q1.out.carry hYa)
    replace R1 := hideit (R1.out.carry hYa)
    replace L1 := hideit (fun j hj => (L1.out j hj).carry hYa)
    replace PP := hideit (PP.out.ext hYa)
    replace CC := hideit (CC.out.elim fun us h => Exists.intro us (h.ext hYa))
    refine wpList_to rfl (.pointer (some ⟨w6.heap.size, 0, none⟩)) (w6.alloc (.cells (row 32 (yv fun _ => 0#8)).toArray 25)) (by simp [go_sem, hz]) ?_
    simp only [Act.put, List.setIfInBounds_toArray, List.set_cons_zero, List.set_cons_succ]
    refine wpList_run rfl (.slice co N cc) (by simp [go_sem]) ?_
    simp only [Act.put, List.setIfInBounds_toArray, List.set_cons_zero, List.set_cons_succ]
    refine wpList_store_mid rfl 25 (.tmp 14) (.tmp 64) rfl _ 0 (row 32 (yv RT2)).toArray rfl rfl (by rw [row_size]; exact Ca.there) (by rw [row_size]; exact info24) (row_one fun _ _ => rfl) ?_
    rw [show (row 32 (yv RT2)).toArray.toList = row 32 (yv RT2) from rfl]
    generalize (w6.alloc (.cells (row 32 (yv fun _ => 0#8)).toArray 25)).setCells w6.heap.size 0 (row 32 (yv RT2)) = w7 at *
    generalize w6.heap.size = rq at *
    clear hXa Ca hYa
    simp only [Act.put]
    go_upto_region 12 with (fail)
    have hX8 : Ext w7 (w7.alloc (.cells #[] 25)) := (Below.refl _ _).alloc (Nat.le_refl _) _
    have hO8 := ownK_empty w7 32 w7.heap.size 25 (lfV d) (Nat.le_refl _)
    refine wp_region_lit ?_
    refine wpList_to rfl (.slice (some ⟨w7.heap.size, 0, none⟩) 0 0) (w7.alloc (.cells #[] 25)) (by simp [go_sem]) ?_
    simp only [Act.put, List.setIfInBounds_toArray, List.set_cons_zero, List.set_cons_succ]
    refine wpList_run rfl (.slice (some a) n cap) (by simp [go_sem]) ?_
    simp only [Act.put, List.setIfInBounds_toArray, List.set_cons_zero, List.set_cons_succ]
    refine wpList_growK (n := 0) (base := w7.heap.size) elem22K (by decide) rfl (.tmp 66) (.tmp 67) rfl rfl hO8 a n cap (lfV d) (lfV d) rfl (hla.out.carry (Ext.trans E.out hX8)) (fun _ _ => rfl) (fun j hj => rfl) (fun j hj => by rw [Nat.zero_mul, Nat.zero_add]) (by omega) (by omega) (Below.size hX8) ?_
    intro v9 w9 hO9 hg9
    rw [Nat.zero_add] at hO9
    have hX9 : Ext w7 w9 := Below.trans hX8 (below_grown (Below.size hX8) hg9 fun k hk => by cases hk; exact Nat.le_refl _)
    obtain ⟨db, dc, rfl, hdb, hdc, -, hD9⟩ := hO9.lies (by omega)
    have L9 := hideit (L.out.carry hX9)
    simp only [Act.put, List.setIfInBounds_toArray, List.set_cons_zero, List.set_cons_succ]
    clear hX8 hO8 hg9 hO9
    have hY9 : Ext w7 (w9.setCells db (x * 32) (row 32 (yv lf))) := below_setCells (w := w7) db hdb (row 32 (yv lf)) (x * 32) _ hX9
    have hth := hD9.thereSub (x * 32) 32 (by omega)
    have DD := hideit (row_change (leaf := lf) hD9 hx)
    replace hY9 := hideit hY9
    replace hth := hideit hth
    clear hX9 hD9
    go_upto_region 13 with (fail)
    refine wp_region_lit ?_
    refine wpList_run rfl (.slice (some ⟨db, 0, none⟩) n dc) (by simp [go_sem]) ?_
    simp only [Act.put, List.setIfInBounds_toArray, List.set_cons_zero, List.set_cons_succ]
    refine wpList_run rfl (.int .i64 (x : Int)) (by simp [go_sem]) ?_
    simp only [Act.put, List.setIfInBounds_toArray, List.set_cons_zero, List.set_cons_succ]
    refine wpList_run rfl (.agg (row 32 (yv lf)).toArray) (exec_loadR 25 (.tmp 5) rfl w.heap.size 0 32 _ rfl L9.out.range Tryd.underlying25 rfl info24) ?_
    simp only [Act.put, List.setIfInBounds_toArray, List.set_cons_zero, List.set_cons_succ]
    refine wpList_run rfl (.pointer (some ⟨db, x * 32, none⟩)) (by simp [go_sem, x1, add0]) ?_
    simp only [Act.put, List.setIfInBounds_toArray, List.set_cons_zero, List.set_cons_succ]
    refine wpList_store_mid rfl 25 (.tmp 72) (.tmp 71) rfl _ (x * 32) (row 32 (yv lf)).toArray rfl rfl (by rw [row_size]; exact hth.out) (by rw [row_size]; exact info24) (row_one fun _ _ => rfl) ?_
    rw [show (row 32 (yv lf)).toArray.toList = row 32 (yv lf) from rfl]
    replace E := hideit (Ext.trans E.out hY9.out)
    replace L := hideit (L.out.carry hY9.out)
    replace Q1 := hideit (Q1.out.carry hY9.out)
    replace R1 := hideit (R1.out.carry hY9.out)
    replace L1 := hideit (fun j hj => (L1.out j hj).carry hY9.out)
    replace PP := hideit (PP.out.ext hY9.out)
    replace CC := hideit (CC.out.elim fun us h => Exists.intro us (h.ext hY9.out))
    replace Rr := hideit (Rr.out.carry hY9.out)
    generalize w9.setCells db (x * 32) (row 32 (yv lf)) = w9b at *
    clear hY9 hth L9
    simp only [Act.put]
    have kb2 := build_any n h1 h2 (.slice (some ⟨db, 0, none⟩) n dc) (dch d x lf) w9b (.inr ⟨_, dc, rfl, hdc, DD.out.lie _ (Nat.le_refl _)⟩) (hC.out.ext E.out)
    rw [← hN.out, ← hRT2.out] at kb2
    replace kb2 := hideit kb2
    go_upto_region 14 with (fail)
    refine wp_region_lit ?_
    refine wpList_run rfl (.slice (some ⟨db, 0, none⟩) n dc) (by simp [go_sem]) ?_
    simp only [Act.put, List.setIfInBounds_toArray, List.set_cons_zero, List.set_cons_succ]
    refine wpList_call rfl (by simp [go_sem]) ((kb2.out).mono ?_)
    rintro e w10 ⟨lv2, Bs2, rfl, hO10, hl10, hX10⟩
    refine ⟨_, rfl, ?_⟩
    simp only [Act.put, List.setIfInBounds_toArray, List.set_cons_zero, List.set_cons_succ]
    obtain ⟨vb2, vcap2, rfl, -, -, -, hv10⟩ := hO10.lies (by omega)
    replace E := hideit (Ext.trans E.out hX10)
    replace L := hideit (L.out.carry hX10)
    replace Q1 := hideit (Q1.out.carry hX10)
    replace PP := hideit (PP.out.ext hX10)
    replace CC := hideit (CC.out.elim fun us h => Exists.intro us (h.ext hX10))
    replace Rr := hideit (Rr.out.carry hX10)
    have R2 := hideit hv10
    have L2 : Hid (∀ j, j < N → LevAt (Bs2 j) (lc n j) (nodeB n (dch d x lf) j) w10) := fun j hj => (hl10 j hj).2
    clear kb2 DD hO10 hl10 hX10 hv10 R1 L1
    refine wpList_run rfl (.tuple #[.slice (some ⟨vb2, 0, none⟩) N vcap2, .agg (row 32 (yv RT2)).toArray, .int .i64 0]) (by simp [go_sem]) ?_
    simp only [Act.put, List.setIfInBounds_toArray, List.set_cons_zero, List.set_cons_succ]
    refine wpList_run rfl (.slice (some ⟨vb2, 0, none⟩) N vcap2) (by simp [go_sem]) ?_
    simp only [Act.put, List.setIfInBounds_toArray, List.set_cons_zero, List.set_cons_succ]
    refine wpList_run rfl (.agg (row 32 (yv RT2)).toArray) (by simp [go_sem]) ?_
    simp only [Act.put, List.setIfInBounds_toArray, List.set_cons_zero, List.set_cons_succ]
    refine wpList_run rfl (.int .i64 0) (by simp [go_sem]) ?_
    simp only [Act.put, List.setIfInBounds_toArray, List.set_cons_zero, List.set_cons_succ]
    have hXa : Ext w10 (w10.alloc (.cells (row 32 (yv fun _ => 0#8)).toArray 25)) := (Below.refl _ _).alloc (Nat.le_refl _) _
    have Ca := RowAt.new w10 32 (yv fun _ => 0#8) 25
    have hYa := below_setCells (w := w10) w10.heap.size (Nat.le_refl _) (row 32 (yv RT2)) 0 _ hXa
    have Q2 := hideit (Ca.cells (g' := yv RT2))
    replace E := hideit (Ext.trans E.out hYa)
    replace L := hideit (L.out.carry hYa)
    replace Q1 := hideit (Q1.out.carry hYa)
    replace PP := hideit (PP.out.ext hYa)
    replace CC := hideit (CC.out.elim fun us h => Exists.intro us (h.ext hYa))
    replace Rr := hideit (Rr.out.carry hYa)
    replace R2 := hideit (R2.out.carry hYa)
    replace L2 := hideit (fun j hj => (L2.out j hj).carry hYa)
    refine wpList_to rfl (.pointer (some ⟨w10.heap.size, 0, none⟩)) (w10.alloc (.cells (row 32 (yv fun _ => 0#8)).toArray 25)) (by simp [go_sem, hz]) ?_
    simp only [Act.put, List.setIfInBounds_toArray, List.set_cons_zero, List.set_cons_succ]
    refine wpList_run rfl (.slice (some ⟨vb2, 0, none⟩) N vcap2) (by simp [go_sem]) ?_
    simp only [Act.put, List.setIfInBounds_toArray, List.set_cons_zero, List.set_cons_succ]
    refine wpList_store_mid rfl 25 (.tmp 18) (.tmp 77) rfl _ 0 (row 32 (yv RT2)).toArray rfl rfl (by rw [row_size]; exact Ca.there) (by rw [row_size]; exact info24) (row_one fun _ _ => rfl) ?_
    rw [show (row 32 (yv RT2)).toArray.toList = row 32 (yv RT2) from rfl]
    generalize (w10.alloc (.cells (row 32 (yv fun _ => 0#8)).toArray 25)).setCells w10.heap.size 0 (row 32 (yv RT2)) = w11 at *
    generalize w10.heap.size = rs at *
    clear hXa Ca hYa
    simp only [Act.put]
    go_upto_region 15 with (fail)
    have kp2 := hideit (tpath_any n x N vb2 vcap2 h1 h2 hN.out hx Bs2 (dch d x lf) w11 R2.out L2.out)
    refine wp_region_lit ?_
    refine wpList_run rfl (.int .i64 0) (by simp [go_sem]) ?_
    simp only [Act.put, List.setIfInBounds_toArray, List.set_cons_zero, List.set_cons_succ]
    refine wpList_run rfl (.bool false) (by simp [go_sem]) ?_
    simp only [Act.put, List.setIfInBounds_toArray, List.set_cons_zero, List.set_cons_succ]
    refine wpList_run rfl (.bool false) (by simp [go_sem]) ?_
    simp only [Act.put, List.setIfInBounds_toArray, List.set_cons_zero, List.set_cons_succ]
    refine wpList_runW rfl (.int .i64 0) (by simp [go_sem]) ?_
    simp only [Act.put, List.setIfInBounds_toArray, List.set_cons_zero, List.set_cons_succ]
    refine wpList_runW rfl (.bool false) (by simp [go_sem]) ?_
    simp only [Act.put, List.setIfInBounds_toArray, List.set_cons_zero, List.set_cons_succ]
    refine wpList_run rfl (.bool false) (by simp [go_sem]) ?_
    simp only [Act.put, List.setIfInBounds_toArray, List.set_cons_zero, List.set_cons_succ]
    refine wpList_run rfl (.bool false) (by simp [go_sem]) ?_
    simp only [Act.put, List.setIfInBounds_toArray, List.set_cons_zero, List.set_cons_succ]
    refine wpList_runW rfl (.agg (row 32 (yv RT2)).toArray) (exec_loadR 25 (.tmp 14) rfl rq 0 32 _ rfl Rr.out.range Tryd.underlying25 rfl info24) ?_
    simp only [Act.put, List.setIfInBounds_toArray, List.set_cons_zero, List.set_cons_succ]
    refine wpList_runW rfl (.agg (row 32 (yv RT2)).toArray) (exec_loadR 25 (.tmp 18) rfl rs 0 32 _ rfl Q2.out.range Tryd.underlying25 rfl info24) ?_
    simp only [Act.put, List.setIfInBounds_toArray, List.set_cons_zero, List.set_cons_succ]
    refine wpList_runW rfl (.bool false) (exec_cmp .neq 25 25 (.tmp 86) (.tmp 87) rfl _ _ rfl rfl (by kernel_rfl) false ((neq25 _ _ _).trans (by rw [eqN_iff.2 fun _ _ => rfl]; rfl))) ?_
    simp only [Act.put, List.setIfInBounds_toArray, List.set_cons_zero, List.set_cons_succ]
    refine wpList_run rfl (.bool false) (by simp [go_sem]) ?_
    simp only [Act.put, List.setIfInBounds_toArray, List.set_cons_zero, List.set_cons_succ]
    refine wpList_run rfl (.bool false) (by simp [go_sem]) ?_
    simp only [Act.put, List.setIfInBounds_toArray, List.set_cons_zero, List.set_cons_succ]
    refine wpList_runW rfl (.slice co N cc) (by simp [go_sem]) ?_
    simp only [Act.put, List.setIfInBounds_toArray, List.set_cons_zero, List.set_cons_succ]
    refine wpList_runW rfl (.slice (some ⟨vb2, 0, none⟩) N vcap2) (by simp [go_sem]) ?_
    simp only [Act.put, List.setIfInBounds_toArray, List.set_cons_zero, List.set_cons_succ]
    refine wpList_runW rfl (.int .i64 (x : Int)) (by simp [go_sem]) ?_
    simp only [Act.put, List.setIfInBounds_toArray, List.set_cons_zero, List.set_cons_succ]
    refine wpList_callW rfl (by simp [go_sem]) ((kp2.out).mono ?_)
    rintro e w12 ⟨pv2, rfl, hO12, hX12⟩
    refine ⟨_, rfl, ?_⟩
    simp only [Act.put, List.setIfInBounds_toArray, List.set_cons_zero, List.set_cons_succ]
    replace E := hideit (Ext.trans E.out hX12)
    replace L := hideit (L.out.carry hX12)
    replace Q1 := hideit (Q1.out.carry hX12)
    replace PP := hideit (PP.out.ext hX12)
    replace CC := hideit (CC.out.elim fun us h => Exists.intro us (h.ext hX12))
    replace Rr := hideit (Rr.out.carry hX12)
    replace L2 := hideit (fun j hj => (L2.out j hj).carry hX12)
    have P2 := hideit (tpath_parts (d := dch d x lf) hO12 (by omega) L2.out hx)
    obtain ⟨qo, qc, rfl⟩ := P2.out.form
    have ks : Calls Tryd.prog 16 #[.slice co N cc, .slice qo N qc] w12 fun e w' => e = .returned (.bool true) ∧ Ext w12 w' := CC.out.elim fun us h => same_true N _ _ us _ (fun _ => 512) _ _ w12 h P2.out (fun i hi j hj => rfl) (by omega)
    replace ks := hideit ks
    clear kp2 hO12 hX12 L2 R2
    refine wpList_callW rfl (by simp [go_sem]) ((ks.out).mono ?_)
    rintro e w13 ⟨rfl, hX13⟩
    refine ⟨_, rfl, ?_⟩
    simp only [Act.put, List.setIfInBounds_toArray, List.set_cons_zero, List.set_cons_succ]
    replace E := hideit (Ext.trans E.out hX13)
    replace L := hideit (L.out.carry hX13)
    replace Q1 := hideit (Q1.out.carry hX13)
    replace PP := hideit (PP.out.ext hX13)
    replace CC := hideit (CC.out.elim fun us h => Exists.intro us (h.ext hX13))
    replace Rr := hideit (Rr.out.carry hX13)
    clear ks hX13 P2
    refine wpList_runW rfl (.bool false) (by simp [go_sem]) ?_
    simp only [Act.put, List.setIfInBounds_toArray, List.set_cons_zero, List.set_cons_succ]
    refine wpList_run rfl (.bool false) (by simp [go_sem]) ?_
    simp only [Act.put, List.setIfInBounds_toArray, List.set_cons_zero, List.set_cons_succ]
    go_upto_region 17 with (fail)
    have hdr : Ext w13 w13.drew := (Ext.refl w13).draw
    replace E := hideit (Ext.trans E.out hdr)
    replace L := hideit (L.out.carry hdr)
    replace Q1 := hideit (Q1.out.carry hdr)
    replace PP := hideit (PP.out.ext hdr)
    replace CC := hideit (CC.out.elim fun us h => Exists.intro us (h.ext hdr))
    replace Rr := hideit (Rr.out.carry hdr)
    have kc1 := check_go n x N h1 h2 hx (d x) RT1 _ _ (fun _ => 512) (pbs n d x) w13.drew PP.out (hC.out.ext E.out) hN.out (fun _ _ => rfl)
    have hr1 := path_right n x N d h1 h2 hN.out hx
    rw [← hRT1.out] at hr1
    have hr2 := path_right n x N (dch d x lf) h1 h2 hN.out hx
    rw [← hRT2.out, show dch d x lf x = lf by unfold dch; rw [if_pos rfl]] at hr2
    refine wp_region_lad (fun X => Ext w13.drew X) [(false, 0), (false, 1), (false, 2), (false, 3), (false, 4), (false, 5), (false, 6), (false, 7), (true, 8), (false, 9), (false, 10), (false, 11), (false, 12), (false, 13), (false, 14), (false, 15), (true, 16), (false, 17), (false, 18), (false, 19)] (by kernel_rfl) (by kernel_rfl) (by decide +kernel) (by decide +kernel) (by decide +kernel) (by decide +kernel) (Ext.refl _) ?_
    refine wpX_f _ (.int .i64 (n : Int)) rfl rfl (fun X _ => by simp [go_sem]) ?_
    simp only [List.getElem_toArray, List.getElem_cons_zero, Act.put, List.setIfInBounds_toArray, List.set_cons_zero, List.set_cons_succ]
    refine wpX_f _ (.int .i64 (x : Int)) rfl rfl (fun X _ => by simp [go_sem]) ?_
    simp only [List.getElem_toArray, List.getElem_cons_zero, List.getElem_cons_succ, Act.put, List.setIfInBounds_toArray, List.set_cons_zero, List.set_cons_succ]
    refine wpX_f _ (.slice (some a) n cap) rfl rfl (fun X _ => by simp [go_sem]) ?_
    simp only [List.getElem_toArray, List.getElem_cons_zero, List.getElem_cons_succ, Act.put, List.setIfInBounds_toArray, List.set_cons_zero, List.set_cons_succ]
    refine wpX_f _ (.int .i64 (x : Int)) rfl rfl (fun X _ => by simp [go_sem]) ?_
    simp only [List.getElem_toArray, List.getElem_cons_zero, List.getElem_cons_succ, Act.put, List.setIfInBounds_toArray, List.set_cons_zero, List.set_cons_succ]
    refine wpX_f _ (.pointer (some (a.add (x * 32)))) rfl rfl (fun X _ => by simp [go_sem, x1]) ?_
    simp only [List.getElem_toArray, List.getElem_cons_zero, List.getElem_cons_succ, Act.put, List.setIfInBounds_toArray, List.set_cons_zero, List.set_cons_succ]
    refine wpX_f _ (.agg (row 32 (yv (d x))).toArray) rfl rfl (fun X hX => exec_loadL 25 (.tmp 102) rfl (a.add (x * 32)) 32 _ rfl (lie_leaf (hla.out.carry (Ext.trans E.out hX)) x hx) Tryd.underlying25 rfl info24) ?_
    simp only [List.getElem_toArray, List.getElem_cons_zero, List.getElem_cons_succ, Act.put, List.setIfInBounds_toArray, List.set_cons_zero, List.set_cons_succ]
    refine wpX_f _ (.slice po N pc) rfl rfl (fun X _ => by simp [go_sem]) ?_
    simp only [List.getElem_toArray, List.getElem_cons_zero, List.getElem_cons_succ, Act.put, List.setIfInBounds_toArray, List.set_cons_zero, List.set_cons_succ]
    refine wpX_f _ (.agg (row 32 (yv RT1)).toArray) rfl rfl (fun X hX => exec_loadR 25 (.tmp 8) rfl rb 0 32 _ rfl (Q1.out.carry hX).range Tryd.underlying25 rfl info24) ?_
    simp only [List.getElem_toArray, List.getElem_cons_zero, List.getElem_cons_succ, Act.put, List.setIfInBounds_toArray, List.set_cons_zero, List.set_cons_succ]
    refine wpX_call _ rfl rfl (by simp [go_sem]) (kc1.mono ?_)
    rintro e w14 ⟨z, rfl, hX14, hz14⟩
    obtain rfl : z = 0 := by
      rcases hz14 with ⟨h, _⟩ | ⟨_, h⟩
      · exact h
      · exact absurd hr1 h
    refine ⟨_, rfl, fun X => Ext w14 X, fun X hX => Ext.trans hX14 hX, Ext.refl _, ?_⟩
    simp only [List.getElem_toArray, List.getElem_cons_zero, List.getElem_cons_succ, Act.put, List.setIfInBounds_toArray, List.set_cons_zero, List.set_cons_succ]
    refine wpX_f _ (.bool true) rfl rfl (fun X _ => by simp [go_sem]) ?_
    simp only [List.getElem_toArray, List.getElem_cons_zero, List.getElem_cons_succ, Act.put, List.setIfInBounds_toArray, List.set_cons_zero, List.set_cons_succ]
    refine wpX_f _ (.bool true) rfl rfl (fun X _ => by simp [go_sem]) ?_
    simp only [List.getElem_toArray, List.getElem_cons_zero, List.getElem_cons_succ, Act.put, List.setIfInBounds_toArray, List.set_cons_zero, List.set_cons_succ]
    refine wpX_f _ (.int .i64 (n : Int)) rfl rfl (fun X _ => by simp [go_sem]) ?_
    simp only [List.getElem_toArray, List.getElem_cons_zero, List.getElem_cons_succ, Act.put, List.setIfInBounds_toArray, List.set_cons_zero, List.set_cons_succ]
    refine wpX_f _ (.int .i64 (x : Int)) rfl rfl (fun X _ => by simp [go_sem]) ?_
    simp only [List.getElem_toArray, List.getElem_cons_zero, List.getElem_cons_succ, Act.put, List.setIfInBounds_toArray, List.set_cons_zero, List.set_cons_succ]
    refine wpX_f _ (.agg (row 32 (yv lf)).toArray) rfl rfl (fun X hX => exec_loadR 25 (.tmp 5) rfl w.heap.size 0 32 _ rfl (L.out.carry (Ext.trans hX14 hX)).range Tryd.underlying25 rfl info24) ?_
    simp only [List.getElem_toArray, List.getElem_cons_zero, List.getElem_cons_succ, Act.put, List.setIfInBounds_toArray, List.set_cons_zero, List.set_cons_succ]
    refine wpX_f _ (.slice co N cc) rfl rfl (fun X _ => by simp [go_sem]) ?_
    simp only [List.getElem_toArray, List.getElem_cons_zero, List.getElem_cons_succ, Act.put, List.setIfInBounds_toArray, List.set_cons_zero, List.set_cons_succ]
    refine wpX_f _ (.agg (row 32 (yv RT2)).toArray) rfl rfl (fun X hX => exec_loadR 25 (.tmp 14) rfl rq 0 32 _ rfl (Rr.out.carry (Ext.trans hX14 hX)).range Tryd.underlying25 rfl info24) ?_
    simp only [List.getElem_toArray, List.getElem_cons_zero, List.getElem_cons_succ, Act.put, List.setIfInBounds_toArray, List.set_cons_zero, List.set_cons_succ]
    have kc2 : Calls Tryd.prog 21 #[.int .i64 (n : Int), .int .i64 (x : Int), .agg (row 32 (yv lf)).toArray, .slice co N cc, .agg (row 32 (yv RT2)).toArray] w14 fun e w' => e = .returned (.int .i64 0) ∧ Ext w14 w' := CC.out.elim fun us h => (check_go n x N h1 h2 hx lf RT2 _ us (fun _ => 512) (pbs n (dch d x lf) x) w14 (h.ext hX14) (hC.out.ext (Ext.trans E.out hX14)) hN.out (fun _ _ => rfl)).mono fun e w' ⟨z, he, hE, hz⟩ => by
      rcases hz with ⟨h, _⟩ | ⟨_, h⟩
      · rw [he, h]; exact ⟨rfl, hE⟩
      · exact absurd hr2 h
    refine wpX_call _ rfl rfl (by simp [go_sem]) (kc2.mono ?_)
    rintro e w15 ⟨rfl, hX15⟩
    refine ⟨_, rfl, fun X => Ext w15 X, fun X hX => Ext.trans hX15 hX, Ext.refl _, ?_⟩
    simp only [List.getElem_toArray, List.getElem_cons_zero, List.getElem_cons_succ, Act.put, List.setIfInBounds_toArray, List.set_cons_zero, List.set_cons_succ]
    refine wpX_f _ (.bool true) rfl rfl (fun X _ => by simp [go_sem]) ?_
    simp only [List.getElem_toArray, List.getElem_cons_zero, List.getElem_cons_succ, Act.put, List.setIfInBounds_toArray, List.set_cons_zero, List.set_cons_succ]
    refine wpX_f _ (.bool true) rfl rfl (fun X _ => by simp [go_sem]) ?_
    simp only [List.getElem_toArray, List.getElem_cons_zero, List.getElem_cons_succ, Act.put, List.setIfInBounds_toArray, List.set_cons_zero, List.set_cons_succ]
    refine wpX_f _ (.bool true) rfl rfl (fun X _ => by simp [go_sem]) ?_
    simp only [List.getElem_toArray, List.getElem_cons_zero, List.getElem_cons_succ, Act.put, List.setIfInBounds_toArray, List.set_cons_zero, List.set_cons_succ]
    refine wpX_nil ?_
    have E9 := hideit (Ext.trans E.out (Ext.trans hX14 hX15))
    clear kc1 kc2 hr1 hr2 hX14 hX15 hdr L Q1 PP CC Rr E Q2
    go_wp2
    go_ret
    exact ⟨rfl, E9.out⟩
theorem walk (v : Value) (a : Int) (_ : (Lit.int .i64 a).wf = true) (lf : Nat → BitVec 8) (w : World) (B : LArg v w) (hC : TabC w) : Calls Tryd.prog 6 #[v, .int .i64 a, .agg (row 32 (yv lf)).toArray] w fun e w' => e = .returned (.bool true) ∧ Below w.heap.size w w' := by
  obtain ⟨n, d, hL, hn⟩ := B
  by_cases h : n < 1 ∨ 4096 < n
  · exact walk_no v n d a lf w hL h hn hC
  · exact walk_in v n d a lf w hL (by omega) (by omega) hC

theorem contract (H : Type) (enc : TypeId × Value → H) (W : World) (base : Nat) (args : Array Value) (ds gs : List (DataW H)) (before : List MemPlace)
    (hval0 : ∀ (j : Nat) t v, Tryd.f6.params[j]? = some t → args[j]? = some v → Value.okWide Tryd.prog W .any base t v)
    (hW : DataW.Whole enc Tryd.prog Tryd.f6.params.toList Rows.treeChangesSpec.vars false W args.toList ds gs before) (hL : laidMetH Tryd.prog Rows.treeChangesRow.laid W) :
    Calls Tryd.prog 6 args W fun e W' => ∃ v, e = .returned v ∧ Rows.treeChangesSpec.post enc Tryd.prog Tryd.f6 false true false false W args v W' := by
  have hval := hval0
  have hW' := hW
  obtain ⟨p, q, hA0, hV, rfl, hfz, hnd⟩ := hW
  have hA : DataW.TrodAll enc Tryd.prog W 0 (fun _ => true) true Tryd.f6.params.toList args.toList ds p := hA0
  rw [Tryd.params6] at hA hval
  obtain ⟨v0, vs0, d0, ds0, p0, q0, hargs, rfl, rfl, h0, r0⟩ := trodAll_cons hA
  obtain ⟨v1, vs1, d1, ds1, p1, q1, rfl, rfl, rfl, h1, r1⟩ := trodAll_cons r0
  obtain ⟨v2, vs2, d2, ds2, p2, q2, rfl, rfl, rfl, h2, r2⟩ := trodAll_cons r1
  obtain ⟨rfl, rfl, rfl⟩ := trodAll_nil r2
  obtain rfl : args = #[v0, v1, v2] := by cases args; simp_all
  obtain ⟨rfl, rfl⟩ := trodVars_none hV
  have h0s : 0 < W.heap.size := by
    have hc := (table hL).cell gTab 0 (by decide)
    rcases Nat.lt_or_ge 0 W.heap.size with h | h
    · exact h
    · exfalso
      have : W.heap[0]? = none := Array.getElem?_eq_none h
      simp [World.cell?, this] at hc
  have hC : TabC W := tabC hL h0s
  have k0 := h0
  have lt0 : ∀ x ∈ p0, x.block < W.heap.size := by obtain ⟨m, hm⟩ := k0; exact DataW.trod_lt m _ _ _ hm
  have k1 := h1
  have lt1 : ∀ x ∈ p1, x.block < W.heap.size := by obtain ⟨m, hm⟩ := k1; exact DataW.trod_lt m _ _ _ hm
  have k2 := h2
  have lt2 : ∀ x ∈ p2, x.block < W.heap.size := by obtain ⟨m, hm⟩ := k2; exact DataW.trod_lt m _ _ _ hm
  have B0 := larg (hval 0 22 v0 rfl rfl) h0
  obtain ⟨a1, rfl, rfl, rfl, w1⟩ := open_int Tryd.underlying3 (hval 1 3 v1 rfl rfl) h1
  obtain ⟨a2, rfl⟩ := open_arru8_32 (hval 2 25 v2 rfl rfl) h2
  clear hA0 hval0
  refine (walk v0 a1 w1 a2 W B0 hC).mono fun e W' ⟨he, bel⟩ => ?_
  subst he
  exact ⟨_, rfl, _, _, _, [], _, [], hW', trodAll_mk1 (shut_bool Tryd.underlying4 _), (trodAll_cons_mk (Below.trod laidOut (by kernel_rfl) (of_decide_eq_true (by kernel_rfl)) k0 bel lt0) (trodAll_cons_mk (Below.trod laidOut (by kernel_rfl) (of_decide_eq_true (by kernel_rfl)) k1 bel lt1) (trodAll_cons_mk (Below.trod laidOut (by kernel_rfl) (of_decide_eq_true (by kernel_rfl)) k2 bel lt2) trodAll_mk0))), rfl, bel.frame _, fun h => by cases h⟩

def wit : Array Value := #[.slice none 0 0, .int .i64 0, .agg (List.replicate 32 (.int .u8 0)).toArray]
def dat {H : Type} : List (DataW H) := [.nil, .lit (.int .i64 0), .agg (List.replicate 32 (.lit (.int .u8 0)))]
def setTab : Obj → Obj
  | .cells _ t frozen => .cells (tabL.map fun z => Value.int .u32 z).toArray t frozen
  | o => o
theorem laid_met (os : Os) : laidMet Tryd.prog Rows.treeChangesRow.laid (({ World.holding Tryd.prog os ⟨#[], #[], []⟩ with heap := (World.holding Tryd.prog os ⟨#[], #[], []⟩).heap.modify 0 setTab } : World).forCall (fun _ _ => 0) ⟨#[], wit, []⟩).memory :=
  laidMet_of_run' 8 (by kernel_rfl) (by kernel_rfl)
theorem reads (os : Os) {H : Type} (enc : TypeId × Value → H) : ∃ places, DataW.whole enc Tryd.prog (({ World.holding Tryd.prog os ⟨#[], #[], []⟩ with heap := (World.holding Tryd.prog os ⟨#[], #[], []⟩).heap.modify 0 setTab } : World).forCall (fun _ _ => 0) ⟨#[], wit, []⟩).memory Tryd.f6.params.toList Rows.treeChangesSpec.vars false wit.toList 8 = some (dat, [], places) :=
  ⟨[], by kernel_rfl⟩

set_option maxRecDepth 100000 in
theorem lifted (os : Os) (started : os.Started) (H : Type) (enc : TypeId × Value → H) (F : Stop.Interp) :
    ReturnsInHanded {} Tryd.checked os 6 .any ((OpenSpec.ofChange Rows.treeChangesSpec).preRow enc Tryd.prog Tryd.f6 Rows.treeChangesRow.domain false Rows.treeChangesRow.laid) (((OpenSpec.ofChange Rows.treeChangesSpec).at F).post enc Tryd.prog Tryd.f6 false true false false) := by
  obtain ⟨places, hx⟩ := reads os enc
  refine returnsInHanded_of_row (C := Tryd.checked) (s := (OpenSpec.ofChange Rows.treeChangesSpec)) own started (by kernel_rfl) Tryd.func6
    (witness_row_at (enc := enc) (C := Tryd.checked) false ({ World.holding Tryd.prog os ⟨#[], #[], []⟩ with heap := (World.holding Tryd.prog os ⟨#[], #[], []⟩).heap.modify 0 setTab } : World) wit rfl (by kernel_rfl) (by kernel_rfl) (by kernel_rfl)
      (OpenSpec.preRow_of_cond 8 hx (by kernel_rfl) (fun k hk => by cases hk) (by kernel_rfl) (laid_met os))) ?_
  intro W base args ds gs before hval hW _ hcond hsz hL _ _
  exact contract H enc W base args ds gs before hval hW hL

theorem said : Rows.TreeChangesSaid :=
  OpenClaim.holds_of_cond 6 Tryd.f6 rfl rfl rfl rfl rfl rfl rfl ⟨rfl, rfl, rfl, rfl, rfl⟩ rfl rfl rfl rfl rfl (by kernel_rfl) Tryd.func6 (by kernel_rfl)
    (of_decide_eq_true (by kernel_rfl)) (by unfold Func.isWrapper; first | (rw [if_pos (by decide +kernel)]; kernel_rfl) | (rw [if_neg (by decide +kernel)]; exact ⟨rfl, rfl⟩))
    (fun os started H enc _ F => by rw [OpenClaim.pre_eq_preRow]; exact lifted os started H enc F)

theorem plain (f : FuncId) (fn : Func) (hf : Tryd.pinned.checked.prog.funcNamed "casket/casketlaw16.TreeChanges" = some f) (hfn : Tryd.pinned.checked.prog.funcs[f]? = some fn) :
    false = Tryd.pinned.checked.prog.looks [] ∧ ∀ (j : Nat) t, fn.params[j]? = some t → Tryd.pinned.checked.prog.wantsStandIn t = false := by
  obtain rfl : f = 6 := Option.some.inj ((show Tryd.prog.funcNamed "casket/casketlaw16.TreeChanges" = some 6 by kernel_rfl).symm.trans hf) |>.symm
  obtain rfl : fn = Tryd.f6 := (Option.some.inj (Tryd.func6.symm.trans hfn)).symm
  refine ⟨by kernel_rfl, fun j t ht => ?_⟩
  rw [Tryd.params6] at ht
  have hm : t ∈ [22, 3, 25] := by simpa using Array.mem_of_getElem? ht
  have hall : ([22, 3, 25].all fun u => !Tryd.prog.wantsStandIn u) = true := by kernel_rfl
  exact (show Tryd.prog.wantsStandIn t = false by simpa using List.all_eq_true.1 hall t hm)

theorem card : Rows.TreeChangesCardSaid :=
  Claim7.holds_tied_plain_at .later [] _ _ _ _ said (fun _ h => by cases h) (by kernel_rfl) (fun _ h => by cases h) treeChanges_row_tie rfl ⟨rfl, rfl⟩ (by kernel_rfl) rfl plain (by kernel_rfl)
end Go.Proofs.YtapmheocllicnaaDoor.treeChanges
namespace Go.Proofs.YtapmheocllicnaaDoor
theorem treeChanges_holds : Rows.TreeChangesCardSaid := treeChanges.card
end Go.Proofs.YtapmheocllicnaaDoor
