/-
  Build tells all nodes and the root that the document tells, and refuses what it refuses; digests of leaves and of nodes, and how many nodes each level has, are the document's: whatever the leaves, the level, the bytes and the number.
-/
import Derived.Test.YtapmheocllicnaaDoorCards
import Derived.Test.YtapmheocllicnaaDoorTie
import Derived.WalkKit
import Derived.ProofKit
import Derived.OpenShut
import Derived.ShutString
import Derived.ChangeOld
import Derived.Below
import Derived.Deep.DeepHandedRow
import Derived.Lib.LaidTab
import Derived.Test.YtapmheocllicnaaDoorKnaM
import Derived.Test.YtapmheocllicnaaDoorRB1M
namespace Go.Proofs.YtapmheocllicnaaDoor.treeBuilds
open Go.ChangeShapes Go.WideShapes Go.ChangeAt Go.RowKit
set_option linter.unusedVariables false

theorem own : ownKnob Tryd.prog.godebug = none := by kernel_rfl
theorem laidOut : laidOutB Tryd.prog = true := by kernel_rfl
theorem gTab : Tryd.prog.globalNamed "casket/sha.constants" = some 0 := by kernel_rfl
theorem gTabType : (Tryd.prog.globals[0]?).map (·.type) = some 77 := by kernel_rfl
theorem cellsG : Tryd.prog.cellsOf 77 = 64 := by kernel_rfl
theorem cellsE : Tryd.prog.cellsOf 67 = 1 := by kernel_rfl
def tabL : List Int := [1116352408, 1899447441, 3049323471, 3921009573, 961987163, 1508970993, 2453635748, 2870763221, 3624381080, 310598401, 607225278, 1426881987, 1925078388, 2162078206, 2614888103, 3248222580, 3835390401, 4022224774, 264347078, 604807628, 770255983, 1249150122, 1555081692, 1996064986, 2554220882, 2821834349, 2952996808, 3210313671, 3336571891, 3584528711, 113926993, 338241895, 666307205, 773529912, 1294757372, 1396182291, 1695183700, 1986661051, 2177026350, 2456956037, 2730485921, 2820302411, 3259730800, 3345764771, 3516065817, 3600352804, 4094571909, 275423344, 430227734, 506948616, 659060556, 883997877, 958139571, 1322822218, 1537002063, 1747873779, 1955562222, 2024104815, 2227730452, 2361852424, 2428436474, 2756734187, 3204031479, 3329325298]
theorem table {W : World} (h : laidMetH Tryd.prog Rows.treeBuildsRow.laid W) : Lib.TabIs Tryd.prog W "casket/sha.constants" .u32 tabL :=
  Lib.tabIs_of_head (rest := []) gTab gTabType Tryd.underlying77 Tryd.underlying67 cellsE cellsG h
theorem tab_kT : ∀ j, j < 64 → tabL.getD j 0 = ((kT j).toNat : Int) := by decide +kernel
theorem tabC {W : World} (h : laidMetH Tryd.prog Rows.treeBuildsRow.laid W) (h0 : 0 < W.heap.size) : TabC W :=
  ⟨fun j hj => by
    rw [← tab_kT j hj]
    exact (table h).cell gTab j hj, h0⟩

open Go.BigFrame
set_option maxRecDepth 20000 in
set_option maxHeartbeats 16000000 in
theorem walk (v : Value) (lev : Int) (_ : (Lit.int .i64 lev).wf = true) (b : Value) (m : Int) (_ : (Lit.int .i64 m).wf = true) (w : World) (B0 : LArgS v w) (B2 : BArg b w) (hC : TabC w) : Calls Tryd.prog 3 #[v, .int .i64 lev, b, .int .i64 m] w fun e w' => e = .returned (.bool true) ∧ Below w.heap.size w w' := by
  obtain ⟨n, d, hL, hn⟩ := B0
  obtain ⟨bl, bf, hb, hbl⟩ := B2.bv
  obtain ⟨lo, lcp, rfl⟩ := hL.form
  obtain ⟨bo, bcp, rfl⟩ := hb.form
  have hz := zero24
  obtain ⟨c, hc⟩ : ∃ c : BitVec 8, lev % 256 = (c.toNat : Int) := ⟨BitVec.ofNat 8 (lev % 256).toNat, by
    rw [BitVec.toNat_ofNat]
    have h1 := Int.emod_nonneg lev (show (256 : Int) ≠ 0 by decide)
    have h2 := Int.emod_lt_of_pos lev (show (0 : Int) < 256 by decide)
    omega⟩
  obtain ⟨R, hR⟩ : ∃ R, R = rB n d := ⟨_, rfl⟩
  obtain ⟨K, hK⟩ : ∃ K, K = kB n := ⟨_, rfl⟩
  obtain ⟨z, hzz⟩ : ∃ z, z = zB n := ⟨_, rfl⟩
  have hK3 := kB_le n
  rw [← hK] at hK3
  replace hR := hideit hR
  replace hK := hideit hK
  replace hzz := hideit hzz
  obtain ⟨lf, hlf⟩ : ∃ lf, lf = leafF bf bl := ⟨_, rfl⟩
  obtain ⟨nf, hnf⟩ : ∃ nf, nf = nodeF c bf bl := ⟨_, rfl⟩
  replace hlf := hideit hlf
  replace hnf := hideit hnf
  replace hc := hideit hc
  replace hC := hideit hC
  have E := hideit (Ext.refl w)
  have L := hideit hL
  have BB := hideit hb
  clear hL hb B2
  go_enter Tryd.func3, Tryd.ntmps3
  go_upto_region 1 with (fail)
  have hX1 : Ext w (w.alloc (.cells #[] 25)) := (Below.refl _ _).alloc (Nat.le_refl _) _
  have hO1 := ownK_empty w 32 w.heap.size 25 (lfV d) (Nat.le_refl _)
  refine wp_region_lit ?_
  refine wpList_to rfl (.slice (some ⟨w.heap.size, 0, none⟩) 0 0) (w.alloc (.cells #[] 25)) (by simp [go_sem]) ?_
  simp only [Act.put, List.setIfInBounds_toArray, List.set_cons_zero, List.set_cons_succ]
  refine wpList_run rfl (.slice lo n lcp) (by simp [go_sem]) ?_
  simp only [Act.put, List.setIfInBounds_toArray, List.set_cons_zero, List.set_cons_succ]
  refine wpList_growL (base := w.heap.size) rfl (.tmp 20) (.tmp 21) rfl rfl hO1 (.slice lo n lcp) n d rfl (L.out.ext hX1) (by omega) (Below.size hX1) ?_
  intro v2 w2 hO2 hg2
  have hX2 : Ext w w2 := Below.trans hX1 (below_grown (Below.size hX1) hg2 fun k hk => by cases hk; exact Nat.le_refl _)
  replace E := hideit (Ext.trans E.out hX2)
  replace L := hideit (L.out.ext hX2)
  replace BB := hideit (BB.out.ext hX2)
  simp only [Act.put, List.setIfInBounds_toArray, List.set_cons_zero, List.set_cons_succ]
  have k1 := tbuild_all n v2 d w2 hO2.lv (hC.out.ext E.out)
  rw [← hR.out, ← hK.out, ← hzz.out] at k1
  replace k1 := hideit k1
  obtain ⟨vo, vc, rfl⟩ := hO2.form
  clear hX1 hO1 hX2 hg2 hO2
  refine wpList_call rfl (by simp [go_sem]) ((k1.out).mono ?_)
  rintro e w3 ⟨lv, vs, rfl, hA, hX3⟩
  refine ⟨_, rfl, ?_⟩
  simp only [Act.put, List.setIfInBounds_toArray, List.set_cons_zero, List.set_cons_succ]
  replace E := hideit (Ext.trans E.out hX3)
  replace L := hideit (L.out.ext hX3)
  replace BB := hideit (BB.out.ext hX3)
  have A := hideit hA
  obtain ⟨ao, ac, rfl⟩ := hA.1.form
  clear k1 hA hX3
  refine wpList_run rfl (.tuple #[.slice ao K ac, .agg (row 32 (yv R)).toArray, .int .i64 z]) (by simp [go_sem]) ?_
  simp only [Act.put, List.setIfInBounds_toArray, List.set_cons_zero, List.set_cons_succ]
  refine wpList_run rfl (.slice ao K ac) (by simp [go_sem]) ?_
  simp only [Act.put, List.setIfInBounds_toArray, List.set_cons_zero, List.set_cons_succ]
  refine wpList_run rfl (.agg (row 32 (yv R)).toArray) (by simp [go_sem]) ?_
  simp only [Act.put, List.setIfInBounds_toArray, List.set_cons_zero, List.set_cons_succ]
  refine wpList_run rfl (.int .i64 z) (by simp [go_sem]) ?_
  simp only [Act.put, List.setIfInBounds_toArray, List.set_cons_zero, List.set_cons_succ]
  have hXa : Ext w3 (w3.alloc (.cells (row 32 (yv fun _ => 0#8)).toArray 25)) := (Below.refl _ _).alloc (Nat.le_refl _) _
  have Ca := RowAt.new w3 32 (yv fun _ => 0#8) 25
  have hYa := below_setCells (w := w3) w3.heap.size (Nat.le_refl _) (row 32 (yv R)) 0 _ hXa
  have R1 := hideit (Ca.cells (g' := yv R))
  replace E := hideit (Ext.trans E.out hYa)
  replace L := hideit (L.out.ext hYa)
  replace A := hideit (A.out.ext hYa)
  replace BB := hideit (BB.out.ext hYa)
  refine wpList_to rfl (.pointer (some ⟨w3.heap.size, 0, none⟩)) (w3.alloc (.cells (row 32 (yv fun _ => 0#8)).toArray 25)) (by simp [go_sem, hz]) ?_
  simp only [Act.put, List.setIfInBounds_toArray, List.set_cons_zero, List.set_cons_succ]
  refine wpList_run rfl (.slice ao K ac) (by simp [go_sem]) ?_
  simp only [Act.put, List.setIfInBounds_toArray, List.set_cons_zero, List.set_cons_succ]
  refine wpList_store_mid rfl 25 (.tmp 10) (.tmp 25) rfl _ 0 (row 32 (yv R)).toArray rfl rfl (by rw [row_size]; exact Ca.there) (by rw [row_size]; exact info24) (row_one fun _ _ => rfl) ?_
  rw [show (row 32 (yv R)).toArray.toList = row 32 (yv R) from rfl]
  generalize (w3.alloc (.cells (row 32 (yv fun _ => 0#8)).toArray 25)).setCells w3.heap.size 0 (row 32 (yv R)) = w4 at *
  generalize w3.heap.size = rb at *
  clear hXa Ca hYa
  simp only [Act.put]
  refine wpList_run rfl (.int .i64 z) (by simp [go_sem]) ?_
  simp only [Act.put, List.setIfInBounds_toArray, List.set_cons_zero, List.set_cons_succ]
  go_upto_region 2 with (fail)
  have k2 := rbuild_all n _ d w4 L.out
  rw [← hR.out, ← hK.out, ← hzz.out] at k2
  replace k2 := hideit k2
  refine wp_region_lit ?_
  refine wpList_run rfl (.slice lo n lcp) (by simp [go_sem]) ?_
  simp only [Act.put, List.setIfInBounds_toArray, List.set_cons_zero, List.set_cons_succ]
  refine wpList_call rfl (by simp [go_sem]) ((k2.out).mono ?_)
  rintro e w5 ⟨rv, rs, rfl, hB, hX5⟩
  refine ⟨_, rfl, ?_⟩
  simp only [Act.put, List.setIfInBounds_toArray, List.set_cons_zero, List.set_cons_succ]
  replace E := hideit (Ext.trans E.out hX5)
  replace L := hideit (L.out.ext hX5)
  replace BB := hideit (BB.out.ext hX5)
  replace A := hideit (A.out.ext hX5)
  replace R1 := hideit (R1.out.carry hX5)
  have B := hideit hB
  obtain ⟨ro, rc, rfl⟩ := hB.1.form
  clear k2 hB hX5
  refine wpList_run rfl (.tuple #[.slice ro K rc, .agg (row 32 (yv R)).toArray, .int .i64 z]) (by simp [go_sem]) ?_
  simp only [Act.put, List.setIfInBounds_toArray, List.set_cons_zero, List.set_cons_succ]
  refine wpList_run rfl (.slice ro K rc) (by simp [go_sem]) ?_
  simp only [Act.put, List.setIfInBounds_toArray, List.set_cons_zero, List.set_cons_succ]
  refine wpList_run rfl (.agg (row 32 (yv R)).toArray) (by simp [go_sem]) ?_
  simp only [Act.put, List.setIfInBounds_toArray, List.set_cons_zero, List.set_cons_succ]
  refine wpList_run rfl (.int .i64 z) (by simp [go_sem]) ?_
  simp only [Act.put, List.setIfInBounds_toArray, List.set_cons_zero, List.set_cons_succ]
  have hXa : Ext w5 (w5.alloc (.cells (row 32 (yv fun _ => 0#8)).toArray 25)) := (Below.refl _ _).alloc (Nat.le_refl _) _
  have Ca := RowAt.new w5 32 (yv fun _ => 0#8) 25
  have hYa := below_setCells (w := w5) w5.heap.size (Nat.le_refl _) (row 32 (yv R)) 0 _ hXa
  have R2 := hideit (Ca.cells (g' := yv R))
  replace E := hideit (Ext.trans E.out hYa)
  replace L := hideit (L.out.ext hYa)
  replace A := hideit (A.out.ext hYa)
  replace B := hideit (B.out.ext hYa)
  replace R1 := hideit (R1.out.carry hYa)
  replace BB := hideit (BB.out.ext hYa)
  refine wpList_to rfl (.pointer (some ⟨w5.heap.size, 0, none⟩)) (w5.alloc (.cells (row 32 (yv fun _ => 0#8)).toArray 25)) (by simp [go_sem, hz]) ?_
  simp only [Act.put, List.setIfInBounds_toArray, List.set_cons_zero, List.set_cons_succ]
  refine wpList_run rfl (.slice ro K rc) (by simp [go_sem]) ?_
  simp only [Act.put, List.setIfInBounds_toArray, List.set_cons_zero, List.set_cons_succ]
  refine wpList_store_mid rfl 25 (.tmp 13) (.tmp 31) rfl _ 0 (row 32 (yv R)).toArray rfl rfl (by rw [row_size]; exact Ca.there) (by rw [row_size]; exact info24) (row_one fun _ _ => rfl) ?_
  rw [show (row 32 (yv R)).toArray.toList = row 32 (yv R) from rfl]
  generalize (w5.alloc (.cells (row 32 (yv fun _ => 0#8)).toArray 25)).setCells w5.heap.size 0 (row 32 (yv R)) = w6 at *
  generalize w5.heap.size = rq at *
  clear hXa Ca hYa
  simp only [Act.put]
  refine wpList_run rfl (.int .i64 z) (by simp [go_sem]) ?_
  simp only [Act.put, List.setIfInBounds_toArray, List.set_cons_zero, List.set_cons_succ]
  go_upto_region 3 with (fail)
  have kl := hideit (lives_any w6 (hC.out.ext E.out))
  refine wp_region_lit ?_
  refine wpList_call rfl (by simp [go_sem]) ((kl.out).mono ?_)
  rintro e w7 ⟨rfl, hX7⟩
  refine ⟨_, rfl, ?_⟩
  simp only [Act.put, List.setIfInBounds_toArray, List.set_cons_zero, List.set_cons_succ]
  replace E := hideit (Ext.trans E.out hX7)
  replace L := hideit (L.out.ext hX7)
  replace BB := hideit (BB.out.ext hX7)
  replace A := hideit (A.out.ext hX7)
  replace B := hideit (B.out.ext hX7)
  replace R1 := hideit (R1.out.carry hX7)
  replace R2 := hideit (R2.out.carry hX7)
  clear kl hX7
  refine wpList_run rfl (.bool false) (by simp [go_sem]) ?_
  simp only [Act.put, List.setIfInBounds_toArray, List.set_cons_zero, List.set_cons_succ]
  refine wpList_run rfl (.bool false) (by simp [go_sem]) ?_
  simp only [Act.put, List.setIfInBounds_toArray, List.set_cons_zero, List.set_cons_succ]
  refine wpList_runW rfl (.agg (row 32 (yv R)).toArray) (exec_loadR 25 (.tmp 10) rfl rb 0 32 _ rfl R1.out.range Tryd.underlying25 rfl info24) ?_
  simp only [Act.put, List.setIfInBounds_toArray, List.set_cons_zero, List.set_cons_succ]
  refine wpList_runW rfl (.agg (row 32 (yv R)).toArray) (exec_loadR 25 (.tmp 13) rfl rq 0 32 _ rfl R2.out.range Tryd.underlying25 rfl info24) ?_
  simp only [Act.put, List.setIfInBounds_toArray, List.set_cons_zero, List.set_cons_succ]
  refine wpList_runW rfl (.bool false) (exec_cmp .neq 25 25 (.tmp 36) (.tmp 37) rfl _ _ rfl rfl (by kernel_rfl) false ((neq25 _ _ _).trans (by rw [eqN_iff.2 fun _ _ => rfl]; rfl))) ?_
  simp only [Act.put, List.setIfInBounds_toArray, List.set_cons_zero, List.set_cons_succ]
  refine wpList_run rfl (.bool false) (by simp [go_sem]) ?_
  simp only [Act.put, List.setIfInBounds_toArray, List.set_cons_zero, List.set_cons_succ]
  refine wpList_run rfl (.bool false) (by simp [go_sem]) ?_
  simp only [Act.put, List.setIfInBounds_toArray, List.set_cons_zero, List.set_cons_succ]
  refine wpList_runW rfl (.int .i64 z) (by simp [go_sem]) ?_
  simp only [Act.put, List.setIfInBounds_toArray, List.set_cons_zero, List.set_cons_succ]
  refine wpList_runW rfl (.int .i64 z) (by simp [go_sem]) ?_
  simp only [Act.put, List.setIfInBounds_toArray, List.set_cons_zero, List.set_cons_succ]
  refine wpList_runW rfl (.bool false) (by simp [go_sem]) ?_
  simp only [Act.put, List.setIfInBounds_toArray, List.set_cons_zero, List.set_cons_succ]
  refine wpList_run rfl (.bool false) (by simp [go_sem]) ?_
  simp only [Act.put, List.setIfInBounds_toArray, List.set_cons_zero, List.set_cons_succ]
  refine wpList_run rfl (.bool false) (by simp [go_sem]) ?_
  simp only [Act.put, List.setIfInBounds_toArray, List.set_cons_zero, List.set_cons_succ]
  refine wpList_runW rfl (.slice ao K ac) (by simp [go_sem]) ?_
  simp only [Act.put, List.setIfInBounds_toArray, List.set_cons_zero, List.set_cons_succ]
  refine wpList_runW rfl (.int .i64 (K : Int)) (by simp [go_sem]) ?_
  simp only [Act.put, List.setIfInBounds_toArray, List.set_cons_zero, List.set_cons_succ]
  refine wpList_runW rfl (.slice ro K rc) (by simp [go_sem]) ?_
  simp only [Act.put, List.setIfInBounds_toArray, List.set_cons_zero, List.set_cons_succ]
  refine wpList_runW rfl (.int .i64 (K : Int)) (by simp [go_sem]) ?_
  simp only [Act.put, List.setIfInBounds_toArray, List.set_cons_zero, List.set_cons_succ]
  refine wpList_runW rfl (.bool false) (by simp [go_sem]) ?_
  simp only [Act.put, List.setIfInBounds_toArray, List.set_cons_zero, List.set_cons_succ]
  refine wpList_run rfl (.bool false) (by simp [go_sem]) ?_
  simp only [Act.put, List.setIfInBounds_toArray, List.set_cons_zero, List.set_cons_succ]
  refine wpList_run rfl (.bool false) (by simp [go_sem]) ?_
  simp only [Act.put, List.setIfInBounds_toArray, List.set_cons_zero, List.set_cons_succ]
  refine wpList_runW rfl (.slice bo bl bcp) (by simp [go_sem]) ?_
  simp only [Act.put, List.setIfInBounds_toArray, List.set_cons_zero, List.set_cons_succ]
  have k3 := leaf_any _ bl bf w7 BB.out (hC.out.ext E.out) (by omega)
  rw [← hlf.out] at k3
  replace k3 := hideit k3
  refine wpList_callW rfl (by simp [go_sem]) ((k3.out).mono ?_)
  rintro e w8 ⟨rfl, hX8⟩
  refine ⟨_, rfl, ?_⟩
  simp only [Act.put, List.setIfInBounds_toArray, List.set_cons_zero, List.set_cons_succ]
  replace E := hideit (Ext.trans E.out hX8)
  replace L := hideit (L.out.ext hX8)
  replace BB := hideit (BB.out.ext hX8)
  replace A := hideit (A.out.ext hX8)
  replace B := hideit (B.out.ext hX8)
  have k4 := rleaf_any _ bl bf w8 BB.out (by omega)
  rw [← hlf.out] at k4
  replace k4 := hideit k4
  clear k3 hX8 R1 R2
  refine wpList_runW rfl (.slice bo bl bcp) (by simp [go_sem]) ?_
  simp only [Act.put, List.setIfInBounds_toArray, List.set_cons_zero, List.set_cons_succ]
  refine wpList_callW rfl (by simp [go_sem]) ((k4.out).mono ?_)
  rintro e w9 ⟨rfl, hX9⟩
  refine ⟨_, rfl, ?_⟩
  simp only [Act.put, List.setIfInBounds_toArray, List.set_cons_zero, List.set_cons_succ]
  replace E := hideit (Ext.trans E.out hX9)
  replace L := hideit (L.out.ext hX9)
  replace BB := hideit (BB.out.ext hX9)
  replace A := hideit (A.out.ext hX9)
  replace B := hideit (B.out.ext hX9)
  clear k4 hX9
  refine wpList_runW rfl (.bool false) (exec_cmp .neq 25 25 (.tmp 54) (.tmp 56) rfl _ _ rfl rfl (by kernel_rfl) false ((neq25 _ _ _).trans (by rw [eqN_iff.2 fun _ _ => rfl]; rfl))) ?_
  simp only [Act.put, List.setIfInBounds_toArray, List.set_cons_zero, List.set_cons_succ]
  refine wpList_run rfl (.bool false) (by simp [go_sem]) ?_
  simp only [Act.put, List.setIfInBounds_toArray, List.set_cons_zero, List.set_cons_succ]
  refine wpList_run rfl (.bool false) (by simp [go_sem]) ?_
  simp only [Act.put, List.setIfInBounds_toArray, List.set_cons_zero, List.set_cons_succ]
  refine wpList_runW rfl (.int .i64 lev) (by simp [go_sem]) ?_
  simp only [Act.put, List.setIfInBounds_toArray, List.set_cons_zero, List.set_cons_succ]
  refine wpList_runW rfl (.slice bo bl bcp) (by simp [go_sem]) ?_
  simp only [Act.put, List.setIfInBounds_toArray, List.set_cons_zero, List.set_cons_succ]
  have k5 := node_any lev c hc.out _ bl bf w9 BB.out (hC.out.ext E.out) (by omega)
  rw [← hnf.out] at k5
  replace k5 := hideit k5
  refine wpList_callW rfl (by simp [go_sem]) ((k5.out).mono ?_)
  rintro e w10 ⟨rfl, hX10⟩
  refine ⟨_, rfl, ?_⟩
  simp only [Act.put, List.setIfInBounds_toArray, List.set_cons_zero, List.set_cons_succ]
  replace E := hideit (Ext.trans E.out hX10)
  replace L := hideit (L.out.ext hX10)
  replace BB := hideit (BB.out.ext hX10)
  replace A := hideit (A.out.ext hX10)
  replace B := hideit (B.out.ext hX10)
  have k6 := rnode_any lev c hc.out _ bl bf w10 BB.out (by omega)
  rw [← hnf.out] at k6
  replace k6 := hideit k6
  clear k5 hX10
  refine wpList_runW rfl (.int .i64 lev) (by simp [go_sem]) ?_
  simp only [Act.put, List.setIfInBounds_toArray, List.set_cons_zero, List.set_cons_succ]
  refine wpList_runW rfl (.slice bo bl bcp) (by simp [go_sem]) ?_
  simp only [Act.put, List.setIfInBounds_toArray, List.set_cons_zero, List.set_cons_succ]
  refine wpList_callW rfl (by simp [go_sem]) ((k6.out).mono ?_)
  rintro e w11 ⟨rfl, hX11⟩
  refine ⟨_, rfl, ?_⟩
  simp only [Act.put, List.setIfInBounds_toArray, List.set_cons_zero, List.set_cons_succ]
  replace E := hideit (Ext.trans E.out hX11)
  replace L := hideit (L.out.ext hX11)
  replace BB := hideit (BB.out.ext hX11)
  replace A := hideit (A.out.ext hX11)
  replace B := hideit (B.out.ext hX11)
  clear k6 hX11
  refine wpList_runW rfl (.bool false) (exec_cmp .neq 25 25 (.tmp 62) (.tmp 65) rfl _ _ rfl rfl (by kernel_rfl) false ((neq25 _ _ _).trans (by rw [eqN_iff.2 fun _ _ => rfl]; rfl))) ?_
  simp only [Act.put, List.setIfInBounds_toArray, List.set_cons_zero, List.set_cons_succ]
  refine wpList_run rfl (.bool false) (by simp [go_sem]) ?_
  simp only [Act.put, List.setIfInBounds_toArray, List.set_cons_zero, List.set_cons_succ]
  clear L BB hlf hnf hc hR hzz
  have lcb : ∀ j, j < K → lc n j ≤ 256 := fun j hj => by
    by_cases h : 1 ≤ n ∧ n ≤ 4096
    · have hj' := hj
      rw [hK.out] at hj'
      unfold kB at hj'
      rw [if_pos h] at hj'
      exact (bld_lv n h.1 h.2 j hj').2.1
    · rw [hK.out] at hj
      unfold kB at hj
      rw [if_neg h] at hj
      omega
  replace lcb := hideit lcb
  clear hK hC
  go_wp2
  go_loopw [15] (fun iv X => ∃ i : Nat, i ≤ K ∧ iv = .int .i64 (i : Int) ∧ Ext w11 X) (fun iv _ => K - (intOf iv).toNat)
  case atStart => exact ⟨0, Nat.zero_le _, rfl, Ext.refl _⟩
  case round =>
    obtain ⟨i, hi, rfl, hE⟩ := hrel
    replace hE := hideit hE
    by_cases hlt : i < K
    · have i0 : (0 : Int) ≤ (i : Int) := by omega
      have i1 : (i : Int) < (K : Int) := by omega
      obtain ⟨ba, rfl, hra⟩ := A.out.1.row (by omega)
      obtain ⟨bb, rfl, hrb⟩ := B.out.1.row (by omega)
      obtain ⟨us1, hp1⟩ := A.out.2 i hlt
      obtain ⟨us2, hp2⟩ := B.out.2 i hlt
      have hdr : Ext w11 wr.drew := Ext.trans hE.out (Ext.refl wr).draw
      have ks := hideit (same_true (lc n i) _ _ us1 us2 (fun _ => 512) _ _ wr.drew (hp1.ext hdr) (hp2.ext hdr) (fun _ _ _ _ => rfl) (by have := lcb.out i hlt; omega))
      obtain ⟨xo, xc, hxu⟩ := hp1.form
      obtain ⟨yo, yc, hyu⟩ := hp2.form
      rw [hxu, hyu] at ks
      replace hra := hideit hra
      replace hrb := hideit hrb
      replace hxu := hideit hxu
      replace hyu := hideit hyu
      replace hdr := hideit hdr
      clear hp1 hp2
      obtain ⟨cn, hcn⟩ : ∃ cn, cn = lc n i := ⟨_, rfl⟩
      rw [← hcn] at ks hxu hyu
      clear hcn
      go_upto_region 8 with (fail)
      refine wp_region_lad (fun X => Ext wr.drew X) [(false, 0), (false, 1), (false, 2), (false, 3), (false, 4), (false, 5), (false, 6), (false, 7), (true, 8), (false, 9)] (by kernel_rfl) (by kernel_rfl) (by decide +kernel) (by decide +kernel) (by decide +kernel) (by decide +kernel) (Ext.refl _) ?_
      refine wpX_f _ (.slice (some ⟨ba, 0, none⟩) K ac) rfl rfl (fun X _ => by simp [go_sem]) ?_
      simp only [List.getElem_toArray, List.getElem_cons_zero, Act.put, List.setIfInBounds_toArray, List.set_cons_zero, List.set_cons_succ]
      refine wpX_f _ (.int .i64 (i : Int)) rfl rfl (fun X _ => by simp [go_sem]) ?_
      simp only [List.getElem_toArray, List.getElem_cons_zero, List.getElem_cons_succ, Act.put, List.setIfInBounds_toArray, List.set_cons_zero, List.set_cons_succ]
      refine wpX_f _ (.pointer (some ⟨ba, i, none⟩)) rfl rfl (fun X _ => by simp [go_sem, i1]) ?_
      simp only [List.getElem_toArray, List.getElem_cons_zero, List.getElem_cons_succ, Act.put, List.setIfInBounds_toArray, List.set_cons_zero, List.set_cons_succ]
      refine wpX_f _ (.slice xo cn xc) rfl rfl (fun X hX => by have e := (hra.out.carry (Ext.trans hdr.out hX)).1 i hlt; rw [hxu.out] at e; simp [go_sem, e]) ?_
      simp only [List.getElem_toArray, List.getElem_cons_zero, List.getElem_cons_succ, Act.put, List.setIfInBounds_toArray, List.set_cons_zero, List.set_cons_succ]
      refine wpX_f _ (.slice (some ⟨bb, 0, none⟩) K rc) rfl rfl (fun X _ => by simp [go_sem]) ?_
      simp only [List.getElem_toArray, List.getElem_cons_zero, List.getElem_cons_succ, Act.put, List.setIfInBounds_toArray, List.set_cons_zero, List.set_cons_succ]
      refine wpX_f _ (.int .i64 (i : Int)) rfl rfl (fun X _ => by simp [go_sem]) ?_
      simp only [List.getElem_toArray, List.getElem_cons_zero, List.getElem_cons_succ, Act.put, List.setIfInBounds_toArray, List.set_cons_zero, List.set_cons_succ]
      refine wpX_f _ (.pointer (some ⟨bb, i, none⟩)) rfl rfl (fun X _ => by simp [go_sem, i1]) ?_
      simp only [List.getElem_toArray, List.getElem_cons_zero, List.getElem_cons_succ, Act.put, List.setIfInBounds_toArray, List.set_cons_zero, List.set_cons_succ]
      refine wpX_f _ (.slice yo cn yc) rfl rfl (fun X hX => by have e := (hrb.out.carry (Ext.trans hdr.out hX)).1 i hlt; rw [hyu.out] at e; simp [go_sem, e]) ?_
      simp only [List.getElem_toArray, List.getElem_cons_zero, List.getElem_cons_succ, Act.put, List.setIfInBounds_toArray, List.set_cons_zero, List.set_cons_succ]
      refine wpX_call _ rfl rfl (by simp [go_sem]) (ks.out.mono ?_)
      rintro e w12 ⟨rfl, hX12⟩
      refine ⟨_, rfl, fun X => Ext w12 X, fun X hX => Ext.trans hX12 hX, Ext.refl _, ?_⟩
      simp only [List.getElem_toArray, List.getElem_cons_zero, List.getElem_cons_succ, Act.put, List.setIfInBounds_toArray, List.set_cons_zero, List.set_cons_succ]
      refine wpX_f _ (.bool false) rfl rfl (fun X _ => by simp [go_sem]) ?_
      simp only [List.getElem_toArray, List.getElem_cons_zero, List.getElem_cons_succ, Act.put, List.setIfInBounds_toArray, List.set_cons_zero, List.set_cons_succ]
      refine wpX_nil ?_
      have E12 := hideit (Ext.trans hdr.out hX12)
      clear ks hX12 hdr hE
      go_wp2
      exact ⟨⟨i + 1, by omega, by go_num, E12.out⟩, by simp [intOf]; omega⟩
    · obtain rfl : i = K := by omega
      have i1 : ¬ (i : Int) < (i : Int) := by omega
      obtain ⟨M, hM⟩ : ∃ M, M = kLn m := ⟨_, rfl⟩
      have hM3 := kLn_le m
      rw [← hM] at hM3
      replace hM := hideit hM
      replace E := hideit (Ext.trans E.out hE.out)
      clear A B lcb hE
      go_upto_region 10 with (fail)
      have k7 := tlevels_all m wr
      rw [← hM.out] at k7
      replace k7 := hideit k7
      refine wp_region_lit ?_
      refine wpList_run rfl (.int .i64 m) (by simp [go_sem]) ?_
      simp only [Act.put, List.setIfInBounds_toArray, List.set_cons_zero, List.set_cons_succ]
      refine wpList_call rfl (by simp [go_sem]) ((k7.out).mono ?_)
      rintro e w13 ⟨tv, rfl, hT, hX13⟩
      refine ⟨_, rfl, ?_⟩
      simp only [Act.put, List.setIfInBounds_toArray, List.set_cons_zero, List.set_cons_succ]
      obtain ⟨tp, tc, rfl⟩ := hT.form
      have k8 := rlevels_all m w13
      rw [← hM.out] at k8
      replace k8 := hideit k8
      replace E := hideit (Ext.trans E.out hX13)
      clear k7 hX13
      refine wpList_run rfl (.int .i64 m) (by simp [go_sem]) ?_
      simp only [Act.put, List.setIfInBounds_toArray, List.set_cons_zero, List.set_cons_succ]
      refine wpList_call rfl (by simp [go_sem]) ((k8.out).mono ?_)
      rintro e w14 ⟨sv, rfl, hS, hX14⟩
      refine ⟨_, rfl, ?_⟩
      simp only [Act.put, List.setIfInBounds_toArray, List.set_cons_zero, List.set_cons_succ]
      obtain ⟨so, sc, rfl⟩ := hS.form
      replace E := hideit (Ext.trans E.out hX14)
      replace hT := hideit (hT.ext hX14)
      replace hS := hideit hS
      clear k8 hX14 hM
      refine wpList_run rfl (.slice tp M tc) (by simp [go_sem]) ?_
      simp only [Act.put, List.setIfInBounds_toArray, List.set_cons_zero, List.set_cons_succ]
      refine wpList_run rfl (.slice so M sc) (by simp [go_sem]) ?_
      simp only [Act.put, List.setIfInBounds_toArray, List.set_cons_zero, List.set_cons_succ]
      go_wp2
      go_loopw [18] (fun iv X => ∃ q : Nat, q ≤ M ∧ iv = .int .i64 (q : Int) ∧ Ext w14 X) (fun iv _ => M - (intOf iv).toNat)
      case atStart => exact ⟨0, Nat.zero_le _, rfl, Ext.refl _⟩
      case round =>
        obtain ⟨q, hq, rfl, hE⟩ := hrel
        replace hE := hideit hE
        by_cases hlt : q < M
        · have q0 : (0 : Int) ≤ (q : Int) := by omega
          have q1 : (q : Int) < (M : Int) := by omega
          obtain ⟨ta, rfl, hra⟩ := hT.out.row (by omega)
          obtain ⟨sa, rfl, hrb⟩ := hS.out.row (by omega)
          have hdr : Ext w14 wr.drew := Ext.trans hE.out (Ext.refl wr).draw
          obtain ⟨cv, hcv⟩ : ∃ cv, cv = lcV m.toNat q := ⟨_, rfl⟩
          obtain ⟨ci, hci⟩ : ∃ ci : Int, cv = .int .i64 ci := ⟨_, hcv⟩
          replace hra := hideit hra
          replace hrb := hideit hrb
          replace hdr := hideit hdr
          go_upto_region 16 with (fail)
          refine wp_region_lad (fun X => Ext wr.drew X) [(false, 0), (false, 1), (false, 2), (false, 3), (false, 4), (false, 5), (false, 6), (false, 7), (false, 8)] (by kernel_rfl) (by kernel_rfl) (by decide +kernel) (by decide +kernel) (by decide +kernel) (by decide +kernel) (Ext.refl _) ?_
          refine wpX_f _ (.slice (some ⟨ta, 0, none⟩) M tc) rfl rfl (fun X _ => by simp [go_sem]) ?_
          simp only [List.getElem_toArray, List.getElem_cons_zero, Act.put, List.setIfInBounds_toArray, List.set_cons_zero, List.set_cons_succ]
          refine wpX_f _ (.int .i64 (q : Int)) rfl rfl (fun X _ => by simp [go_sem]) ?_
          simp only [List.getElem_toArray, List.getElem_cons_zero, List.getElem_cons_succ, Act.put, List.setIfInBounds_toArray, List.set_cons_zero, List.set_cons_succ]
          refine wpX_f _ (.pointer (some ⟨ta, q, none⟩)) rfl rfl (fun X _ => by simp [go_sem, q1]) ?_
          simp only [List.getElem_toArray, List.getElem_cons_zero, List.getElem_cons_succ, Act.put, List.setIfInBounds_toArray, List.set_cons_zero, List.set_cons_succ]
          refine wpX_f _ (.int .i64 ci) rfl rfl (fun X hX => by have e := (hra.out.carry (Ext.trans hdr.out hX)).1 q hlt; rw [← hcv, hci] at e; simp [go_sem, e]) ?_
          simp only [List.getElem_toArray, List.getElem_cons_zero, List.getElem_cons_succ, Act.put, List.setIfInBounds_toArray, List.set_cons_zero, List.set_cons_succ]
          refine wpX_f _ (.slice (some ⟨sa, 0, none⟩) M sc) rfl rfl (fun X _ => by simp [go_sem]) ?_
          simp only [List.getElem_toArray, List.getElem_cons_zero, List.getElem_cons_succ, Act.put, List.setIfInBounds_toArray, List.set_cons_zero, List.set_cons_succ]
          refine wpX_f _ (.int .i64 (q : Int)) rfl rfl (fun X _ => by simp [go_sem]) ?_
          simp only [List.getElem_toArray, List.getElem_cons_zero, List.getElem_cons_succ, Act.put, List.setIfInBounds_toArray, List.set_cons_zero, List.set_cons_succ]
          refine wpX_f _ (.pointer (some ⟨sa, q, none⟩)) rfl rfl (fun X _ => by simp [go_sem, q1]) ?_
          simp only [List.getElem_toArray, List.getElem_cons_zero, List.getElem_cons_succ, Act.put, List.setIfInBounds_toArray, List.set_cons_zero, List.set_cons_succ]
          refine wpX_f _ (.int .i64 ci) rfl rfl (fun X hX => by have e := (hrb.out.carry (Ext.trans hdr.out hX)).1 q hlt; rw [← hcv, hci] at e; simp [go_sem, e]) ?_
          simp only [List.getElem_toArray, List.getElem_cons_zero, List.getElem_cons_succ, Act.put, List.setIfInBounds_toArray, List.set_cons_zero, List.set_cons_succ]
          refine wpX_f _ (.bool false) rfl rfl (fun X _ => by simp [go_sem]) ?_
          simp only [List.getElem_toArray, List.getElem_cons_zero, List.getElem_cons_succ, Act.put, List.setIfInBounds_toArray, List.set_cons_zero, List.set_cons_succ]
          refine wpX_nil ?_
          go_wp2
          exact ⟨⟨q + 1, by omega, by go_num, hdr.out⟩, by simp [intOf]; omega⟩
        · obtain rfl : q = M := by omega
          have q1 : ¬ (q : Int) < (q : Int) := by omega
          go_wp2
          go_ret
          exact ⟨rfl, Ext.trans E.out hE.out⟩

theorem contract (H : Type) (enc : TypeId × Value → H) (W : World) (base : Nat) (args : Array Value) (ds gs : List (DataW H)) (before : List MemPlace)
    (hval0 : ∀ (j : Nat) t v, Tryd.f3.params[j]? = some t → args[j]? = some v → Value.okWide Tryd.prog W .any base t v)
    (hW : DataW.Whole enc Tryd.prog Tryd.f3.params.toList Rows.treeBuildsSpec.vars false W args.toList ds gs before) (hL : laidMetH Tryd.prog Rows.treeBuildsRow.laid W) (hsz0 : (DataW.weightsEach Tryd.prog (Tryd.f3.params.toList ++ []) (ds ++ gs)).all (· ≤ reachBytes) = true) :
    Calls Tryd.prog 3 args W fun e W' => ∃ v, e = .returned v ∧ Rows.treeBuildsSpec.post enc Tryd.prog Tryd.f3 false true false false W args v W' := by
  have hval := hval0
  have hsz := hsz0
  have hW' := hW
  obtain ⟨p, q, hA0, hV, rfl, hfz, hnd⟩ := hW
  have hA : DataW.TrodAll enc Tryd.prog W 0 (fun _ => true) true Tryd.f3.params.toList args.toList ds p := hA0
  rw [Tryd.params3] at hA hval hsz
  obtain ⟨v0, vs0, d0, ds0, p0, q0, hargs, rfl, rfl, h0, r0⟩ := trodAll_cons hA
  obtain ⟨v1, vs1, d1, ds1, p1, q1, rfl, rfl, rfl, h1, r1⟩ := trodAll_cons r0
  obtain ⟨v2, vs2, d2, ds2, p2, q2, rfl, rfl, rfl, h2, r2⟩ := trodAll_cons r1
  obtain ⟨v3, vs3, d3, ds3, p3, q3, rfl, rfl, rfl, h3, r3⟩ := trodAll_cons r2
  obtain ⟨rfl, rfl, rfl⟩ := trodAll_nil r3
  obtain rfl : args = #[v0, v1, v2, v3] := by cases args; simp_all
  obtain ⟨rfl, rfl⟩ := trodVars_none hV
  have h0s : 0 < W.heap.size := by
    have hc := (table hL).cell gTab 0 (by decide)
    rcases Nat.lt_or_ge 0 W.heap.size with h | h
    · exact h
    · exfalso
      have : W.heap[0]? = none := Array.getElem?_eq_none h
      simp [World.cell?, this] at hc
  have hC : TabC W := tabC hL h0s
  have k0 := h0
  have lt0 : ∀ x ∈ p0, x.block < W.heap.size := by obtain ⟨m, hm⟩ := k0; exact DataW.trod_lt m _ _ _ hm
  have k1 := h1
  have lt1 : ∀ x ∈ p1, x.block < W.heap.size := by obtain ⟨m, hm⟩ := k1; exact DataW.trod_lt m _ _ _ hm
  have k2 := h2
  have lt2 : ∀ x ∈ p2, x.block < W.heap.size := by obtain ⟨m, hm⟩ := k2; exact DataW.trod_lt m _ _ _ hm
  have k3 := h3
  have lt3 : ∀ x ∈ p3, x.block < W.heap.size := by obtain ⟨m, hm⟩ := k3; exact DataW.trod_lt m _ _ _ hm
  have B0 := larg_s (hval 0 22 v0 rfl rfl) h0 hsz 0 rfl rfl
  obtain ⟨a1, rfl, rfl, rfl, w1⟩ := open_int Tryd.underlying3 (hval 1 3 v1 rfl rfl) h1
  have B2 := barg (hval 2 23 v2 rfl rfl) h2 hsz 2 rfl rfl
  obtain ⟨a3, rfl, rfl, rfl, w3⟩ := open_int Tryd.underlying3 (hval 3 3 v3 rfl rfl) h3
  clear hA0 hval0
  refine (walk v0 a1 w1 v2 a3 w3 W B0 B2 hC).mono fun e W' ⟨he, bel⟩ => ?_
  subst he
  exact ⟨_, rfl, _, _, _, [], _, [], hW', trodAll_mk1 (shut_bool Tryd.underlying4 _), (trodAll_cons_mk (Below.trod laidOut (by kernel_rfl) (of_decide_eq_true (by kernel_rfl)) k0 bel lt0) (trodAll_cons_mk (Below.trod laidOut (by kernel_rfl) (of_decide_eq_true (by kernel_rfl)) k1 bel lt1) (trodAll_cons_mk (Below.trod laidOut (by kernel_rfl) (of_decide_eq_true (by kernel_rfl)) k2 bel lt2) (trodAll_cons_mk (Below.trod laidOut (by kernel_rfl) (of_decide_eq_true (by kernel_rfl)) k3 bel lt3) trodAll_mk0)))), rfl, bel.frame _, fun h => by cases h⟩

def wit : Array Value := #[.slice none 0 0, .int .i64 0, .slice none 0 0, .int .i64 0]
def dat {H : Type} : List (DataW H) := [.nil, .lit (.int .i64 0), .nil, .lit (.int .i64 0)]
def setTab : Obj → Obj
  | .cells _ t frozen => .cells (tabL.map fun z => Value.int .u32 z).toArray t frozen
  | o => o
theorem laid_met (os : Os) : laidMet Tryd.prog Rows.treeBuildsRow.laid (({ World.holding Tryd.prog os ⟨#[], #[], []⟩ with heap := (World.holding Tryd.prog os ⟨#[], #[], []⟩).heap.modify 0 setTab } : World).forCall (fun _ _ => 0) ⟨#[], wit, []⟩).memory :=
  laidMet_of_run' 8 (by kernel_rfl) (by kernel_rfl)
theorem reads (os : Os) {H : Type} (enc : TypeId × Value → H) : ∃ places, DataW.whole enc Tryd.prog (({ World.holding Tryd.prog os ⟨#[], #[], []⟩ with heap := (World.holding Tryd.prog os ⟨#[], #[], []⟩).heap.modify 0 setTab } : World).forCall (fun _ _ => 0) ⟨#[], wit, []⟩).memory Tryd.f3.params.toList Rows.treeBuildsSpec.vars false wit.toList 8 = some (dat, [], places) :=
  ⟨[], by kernel_rfl⟩

set_option maxRecDepth 100000 in
theorem lifted (os : Os) (started : os.Started) (H : Type) (enc : TypeId × Value → H) (F : Stop.Interp) :
    ReturnsInHanded {} Tryd.checked os 3 .any ((OpenSpec.ofChange Rows.treeBuildsSpec).preRow enc Tryd.prog Tryd.f3 Rows.treeBuildsRow.domain false Rows.treeBuildsRow.laid) (((OpenSpec.ofChange Rows.treeBuildsSpec).at F).post enc Tryd.prog Tryd.f3 false true false false) := by
  obtain ⟨places, hx⟩ := reads os enc
  refine returnsInHanded_of_row (C := Tryd.checked) (s := (OpenSpec.ofChange Rows.treeBuildsSpec)) own started (by kernel_rfl) Tryd.func3
    (witness_row_at (enc := enc) (C := Tryd.checked) false ({ World.holding Tryd.prog os ⟨#[], #[], []⟩ with heap := (World.holding Tryd.prog os ⟨#[], #[], []⟩).heap.modify 0 setTab } : World) wit rfl (by kernel_rfl) (by kernel_rfl) (by kernel_rfl)
      (OpenSpec.preRow_of_cond 8 hx (by kernel_rfl) (fun k hk => by cases hk) (by kernel_rfl) (laid_met os))) ?_
  intro W base args ds gs before hval hW _ hcond hsz hL _ _
  exact contract H enc W base args ds gs before hval hW hL hsz

theorem said : Rows.TreeBuildsSaid :=
  OpenClaim.holds_of_cond 3 Tryd.f3 rfl rfl rfl rfl rfl rfl rfl ⟨rfl, rfl, rfl, rfl, rfl⟩ rfl rfl rfl rfl rfl (by kernel_rfl) Tryd.func3 (by kernel_rfl)
    (of_decide_eq_true (by kernel_rfl)) (by unfold Func.isWrapper; first | (rw [if_pos (by decide +kernel)]; kernel_rfl) | (rw [if_neg (by decide +kernel)]; exact ⟨rfl, rfl⟩))
    (fun os started H enc _ F => by rw [OpenClaim.pre_eq_preRow]; exact lifted os started H enc F)

theorem plain (f : FuncId) (fn : Func) (hf : Tryd.pinned.checked.prog.funcNamed "casket/casketlaw16.TreeBuilds" = some f) (hfn : Tryd.pinned.checked.prog.funcs[f]? = some fn) :
    false = Tryd.pinned.checked.prog.looks [] ∧ ∀ (j : Nat) t, fn.params[j]? = some t → Tryd.pinned.checked.prog.wantsStandIn t = false := by
  obtain rfl : f = 3 := Option.some.inj ((show Tryd.prog.funcNamed "casket/casketlaw16.TreeBuilds" = some 3 by kernel_rfl).symm.trans hf) |>.symm
  obtain rfl : fn = Tryd.f3 := (Option.some.inj (Tryd.func3.symm.trans hfn)).symm
  refine ⟨by kernel_rfl, fun j t ht => ?_⟩
  rw [Tryd.params3] at ht
  have hm : t ∈ [22, 3, 23, 3] := by simpa using Array.mem_of_getElem? ht
  have hall : ([22, 3, 23, 3].all fun u => !Tryd.prog.wantsStandIn u) = true := by kernel_rfl
  exact (show Tryd.prog.wantsStandIn t = false by simpa using List.all_eq_true.1 hall t hm)

theorem card : Rows.TreeBuildsCardSaid :=
  Claim7.holds_tied_plain_at .later [] _ _ _ _ said (fun _ h => by cases h) (by kernel_rfl) (fun _ h => by cases h) treeBuilds_row_tie rfl ⟨rfl, rfl⟩ (by kernel_rfl) rfl plain (by kernel_rfl)
end Go.Proofs.YtapmheocllicnaaDoor.treeBuilds
namespace Go.Proofs.YtapmheocllicnaaDoor
theorem treeBuilds_holds : Rows.TreeBuildsCardSaid := treeBuilds.card
end Go.Proofs.YtapmheocllicnaaDoor
