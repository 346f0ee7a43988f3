/-
  Root, Change and Check answer as the document does, for any number, place, leaf, path and root: what may not be is refused alike.
-/
import Derived.Test.YtapmheocllicnaaDoorCards
import Derived.Test.YtapmheocllicnaaDoorTie
import Derived.WalkKit
import Derived.ProofKit
import Derived.OpenShut
import Derived.ShutString
import Derived.ChangeOld
import Derived.Below
import Derived.Deep.DeepHandedRow
import Derived.Lib.LaidTab
import Derived.Test.YtapmheocllicnaaDoorLiv
import Derived.Test.YtapmheocllicnaaDoorRC1M
import Derived.Test.YtapmheocllicnaaDoorOthM
namespace Go.Proofs.YtapmheocllicnaaDoor.treeAsks
open Go.ChangeShapes Go.WideShapes Go.ChangeAt Go.RowKit
set_option linter.unusedVariables false

theorem own : ownKnob Tryd.prog.godebug = none := by kernel_rfl
theorem laidOut : laidOutB Tryd.prog = true := by kernel_rfl
theorem gTab : Tryd.prog.globalNamed "casket/sha.constants" = some 0 := by kernel_rfl
theorem gTabType : (Tryd.prog.globals[0]?).map (·.type) = some 77 := by kernel_rfl
theorem cellsG : Tryd.prog.cellsOf 77 = 64 := by kernel_rfl
theorem cellsE : Tryd.prog.cellsOf 67 = 1 := by kernel_rfl
def tabL : List Int := [1116352408, 1899447441, 3049323471, 3921009573, 961987163, 1508970993, 2453635748, 2870763221, 3624381080, 310598401, 607225278, 1426881987, 1925078388, 2162078206, 2614888103, 3248222580, 3835390401, 4022224774, 264347078, 604807628, 770255983, 1249150122, 1555081692, 1996064986, 2554220882, 2821834349, 2952996808, 3210313671, 3336571891, 3584528711, 113926993, 338241895, 666307205, 773529912, 1294757372, 1396182291, 1695183700, 1986661051, 2177026350, 2456956037, 2730485921, 2820302411, 3259730800, 3345764771, 3516065817, 3600352804, 4094571909, 275423344, 430227734, 506948616, 659060556, 883997877, 958139571, 1322822218, 1537002063, 1747873779, 1955562222, 2024104815, 2227730452, 2361852424, 2428436474, 2756734187, 3204031479, 3329325298]
theorem table {W : World} (h : laidMetH Tryd.prog Rows.treeAsksRow.laid W) : Lib.TabIs Tryd.prog W "casket/sha.constants" .u32 tabL :=
  Lib.tabIs_of_head (rest := []) gTab gTabType Tryd.underlying77 Tryd.underlying67 cellsE cellsG h
theorem tab_kT : ∀ j, j < 64 → tabL.getD j 0 = ((kT j).toNat : Int) := by decide +kernel
theorem tabC {W : World} (h : laidMetH Tryd.prog Rows.treeAsksRow.laid W) (h0 : 0 < W.heap.size) : TabC W :=
  ⟨fun j hj => by
    rw [← tab_kT j hj]
    exact (table h).cell gTab j hj, h0⟩

open Go.BigFrame
set_option maxRecDepth 20000 in
set_option maxHeartbeats 16000000 in
theorem walk (n : Int) (_ : (Lit.int .i64 n).wf = true) (i : Int) (_ : (Lit.int .i64 i).wf = true) (leaf : Nat → BitVec 8) (p : Value) (root : Nat → BitVec 8) (w : World) (B3 : WArg p w) (hC : TabC w) : Calls Tryd.prog 5 #[.int .i64 n, .int .i64 i, .agg (row 32 (yv leaf)).toArray, p, .agg (row 32 (yv root)).toArray] w fun e w' => e = .returned (.bool true) ∧ Below w.heap.size w w' := by
  obtain ⟨k, us, ls, bs, hp⟩ := B3
  obtain ⟨po, pc, rfl⟩ := hp.w.form
  have hz := zero24
  have HL0 := RowAt.new w 32 (yv leaf) 25
  have HE0 : Ext w (w.alloc (.cells (row 32 (yv leaf)).toArray 25)) := (Below.refl _ _).alloc (Nat.le_refl _) _
  have HX0 : Ext (w.alloc (.cells (row 32 (yv leaf)).toArray 25)) ((w.alloc (.cells (row 32 (yv leaf)).toArray 25)).alloc (.cells (row 32 (yv root)).toArray 25)) := (Below.refl _ _).alloc (Nat.le_refl _) _
  have HT := RowAt.new (w.alloc (.cells (row 32 (yv leaf)).toArray 25)) 32 (yv root) 25
  rw [show (w.alloc (.cells (row 32 (yv leaf)).toArray 25)).heap.size = w.heap.size + 1 by simp] at HT
  replace HT := hideit HT
  have HL := hideit (HL0.carry HX0)
  have HE := hideit (Ext.trans HE0 HX0)
  clear HL0 HE0 HX0
  replace hp := hideit hp
  replace hC := hideit hC
  obtain ⟨A, hA⟩ : ∃ A, A = rtR n k ls bs := ⟨_, rfl⟩
  obtain ⟨za, hza⟩ : ∃ za, za = rtZ n k ls := ⟨_, rfl⟩
  replace hA := hideit hA
  replace hza := hideit hza
  go_enter Tryd.func5, Tryd.ntmps5
  go_upto_region 1 with (fail)
  generalize (w.alloc (.cells (row 32 (yv leaf)).toArray 25)).alloc (.cells (row 32 (yv root)).toArray 25) = w2 at *
  have k1 := troot_all n k _ us ls bs w2 (hp.out.ext HE.out) (hC.out.ext HE.out)
  rw [← hA.out, ← hza.out] at k1
  replace k1 := hideit k1
  refine wp_region_lit ?_
  refine wpList_run rfl (.int .i64 n) (by simp [go_sem]) ?_
  simp only [Act.put, List.setIfInBounds_toArray, List.set_cons_zero, List.set_cons_succ]
  refine wpList_run rfl (.slice po k pc) (by simp [go_sem]) ?_
  simp only [Act.put, List.setIfInBounds_toArray, List.set_cons_zero, List.set_cons_succ]
  refine wpList_call rfl (by simp [go_sem]) ((k1.out).mono ?_)
  rintro e w3 ⟨rfl, hX3⟩
  refine ⟨_, rfl, ?_⟩
  simp only [Act.put, List.setIfInBounds_toArray, List.set_cons_zero, List.set_cons_succ]
  refine wpList_run rfl (.tuple #[.agg (row 32 (yv A)).toArray, .int .i64 za]) (by simp [go_sem]) ?_
  simp only [Act.put, List.setIfInBounds_toArray, List.set_cons_zero, List.set_cons_succ]
  refine wpList_run rfl (.agg (row 32 (yv A)).toArray) (by simp [go_sem]) ?_
  simp only [Act.put, List.setIfInBounds_toArray, List.set_cons_zero, List.set_cons_succ]
  refine wpList_run rfl (.int .i64 za) (by simp [go_sem]) ?_
  simp only [Act.put, List.setIfInBounds_toArray, List.set_cons_zero, List.set_cons_succ]
  replace HL := hideit (HL.out.carry hX3)
  replace HT := hideit (HT.out.carry hX3)
  replace HE := hideit (Ext.trans HE.out hX3)
  clear k1 hX3
  have hXa : Ext w3 (w3.alloc (.cells (row 32 (yv fun _ => 0#8)).toArray 25)) := (Below.refl _ _).alloc (Nat.le_refl _) _
  have Ca := RowAt.new w3 32 (yv fun _ => 0#8) 25
  have hYa := below_setCells (w := w3) w3.heap.size (Nat.le_refl _) (row 32 (yv A)) 0 _ hXa
  have Nw4 := hideit (Ca.cells (g' := yv A))
  replace HL := hideit (HL.out.carry hYa)
  replace HT := hideit (HT.out.carry hYa)
  replace HE := hideit (Ext.trans HE.out hYa)
  refine wpList_to rfl (.pointer (some ⟨w3.heap.size, 0, none⟩)) (w3.alloc (.cells (row 32 (yv fun _ => 0#8)).toArray 25)) (by simp [go_sem, hz]) ?_
  simp only [Act.put, List.setIfInBounds_toArray, List.set_cons_zero, List.set_cons_succ]
  refine wpList_store_mid rfl 25 (.tmp 11) (.tmp 25) rfl _ 0 (row 32 (yv A)).toArray rfl rfl (by rw [row_size]; exact Ca.there) (by rw [row_size]; exact info24) (row_one fun _ _ => rfl) ?_
  rw [show (row 32 (yv A)).toArray.toList = row 32 (yv A) from rfl]
  generalize (w3.alloc (.cells (row 32 (yv fun _ => 0#8)).toArray 25)).setCells w3.heap.size 0 (row 32 (yv A)) = w4 at *
  generalize w3.heap.size = ab at *
  clear hXa Ca hYa
  simp only [Act.put]
  go_upto_region 2 with (fail)
  have k2 := rroot_all n k _ us ls bs w4 (hp.out.ext HE.out)
  rw [← hA.out, ← hza.out] at k2
  replace k2 := hideit k2
  refine wp_region_lit ?_
  refine wpList_run rfl (.int .i64 n) (by simp [go_sem]) ?_
  simp only [Act.put, List.setIfInBounds_toArray, List.set_cons_zero, List.set_cons_succ]
  refine wpList_run rfl (.slice po k pc) (by simp [go_sem]) ?_
  simp only [Act.put, List.setIfInBounds_toArray, List.set_cons_zero, List.set_cons_succ]
  refine wpList_call rfl (by simp [go_sem]) ((k2.out).mono ?_)
  rintro e w5 ⟨rfl, hX5⟩
  refine ⟨_, rfl, ?_⟩
  simp only [Act.put, List.setIfInBounds_toArray, List.set_cons_zero, List.set_cons_succ]
  refine wpList_run rfl (.tuple #[.agg (row 32 (yv A)).toArray, .int .i64 za]) (by simp [go_sem]) ?_
  simp only [Act.put, List.setIfInBounds_toArray, List.set_cons_zero, List.set_cons_succ]
  refine wpList_run rfl (.agg (row 32 (yv A)).toArray) (by simp [go_sem]) ?_
  simp only [Act.put, List.setIfInBounds_toArray, List.set_cons_zero, List.set_cons_succ]
  refine wpList_run rfl (.int .i64 za) (by simp [go_sem]) ?_
  simp only [Act.put, List.setIfInBounds_toArray, List.set_cons_zero, List.set_cons_succ]
  replace HL := hideit (HL.out.carry hX5)
  replace HT := hideit (HT.out.carry hX5)
  replace Nw4 := hideit (Nw4.out.carry hX5)
  replace HE := hideit (Ext.trans HE.out hX5)
  clear k2 hX5
  have hXa : Ext w5 (w5.alloc (.cells (row 32 (yv fun _ => 0#8)).toArray 25)) := (Below.refl _ _).alloc (Nat.le_refl _) _
  have Ca := RowAt.new w5 32 (yv fun _ => 0#8) 25
  have hYa := below_setCells (w := w5) w5.heap.size (Nat.le_refl _) (row 32 (yv A)) 0 _ hXa
  have Nw6 := hideit (Ca.cells (g' := yv A))
  replace HL := hideit (HL.out.carry hYa)
  replace HT := hideit (HT.out.carry hYa)
  replace Nw4 := hideit (Nw4.out.carry hYa)
  replace HE := hideit (Ext.trans HE.out hYa)
  refine wpList_to rfl (.pointer (some ⟨w5.heap.size, 0, none⟩)) (w5.alloc (.cells (row 32 (yv fun _ => 0#8)).toArray 25)) (by simp [go_sem, hz]) ?_
  simp only [Act.put, List.setIfInBounds_toArray, List.set_cons_zero, List.set_cons_succ]
  refine wpList_store_mid rfl 25 (.tmp 13) (.tmp 31) rfl _ 0 (row 32 (yv A)).toArray rfl rfl (by rw [row_size]; exact Ca.there) (by rw [row_size]; exact info24) (row_one fun _ _ => rfl) ?_
  rw [show (row 32 (yv A)).toArray.toList = row 32 (yv A) from rfl]
  generalize (w5.alloc (.cells (row 32 (yv fun _ => 0#8)).toArray 25)).setCells w5.heap.size 0 (row 32 (yv A)) = w6 at *
  generalize w5.heap.size = bb at *
  clear hXa Ca hYa
  simp only [Act.put]
  go_upto_region 3 with (fail)
  have k3 := hideit (change_any n i k leaf _ us ls bs w6 (hp.out.ext HE.out) (hC.out.ext HE.out))
  refine wp_region_lit ?_
  refine wpList_run rfl (.int .i64 n) (by simp [go_sem]) ?_
  simp only [Act.put, List.setIfInBounds_toArray, List.set_cons_zero, List.set_cons_succ]
  refine wpList_run rfl (.int .i64 i) (by simp [go_sem]) ?_
  simp only [Act.put, List.setIfInBounds_toArray, List.set_cons_zero, List.set_cons_succ]
  refine wpList_run rfl (.agg (row 32 (yv leaf)).toArray) (exec_loadR 25 (.tmp 7) rfl w.heap.size 0 32 _ rfl HL.out.range Tryd.underlying25 rfl info24) ?_
  simp only [Act.put, List.setIfInBounds_toArray, List.set_cons_zero, List.set_cons_succ]
  refine wpList_run rfl (.slice po k pc) (by simp [go_sem]) ?_
  simp only [Act.put, List.setIfInBounds_toArray, List.set_cons_zero, List.set_cons_succ]
  refine wpList_call rfl (by simp [go_sem]) ((k3.out).mono ?_)
  rintro e w7 ⟨cv, q, R, z, rfl, hc1, ⟨us1, hp1⟩, hX7⟩
  refine ⟨_, rfl, ?_⟩
  simp only [Act.put, List.setIfInBounds_toArray, List.set_cons_zero, List.set_cons_succ]
  replace hc1 := hideit hc1
  obtain ⟨co, cc, rfl⟩ := hp1.form
  refine wpList_run rfl (.tuple #[.slice co q cc, .agg (row 32 (yv R)).toArray, .int .i64 z]) (by simp [go_sem]) ?_
  simp only [Act.put, List.setIfInBounds_toArray, List.set_cons_zero, List.set_cons_succ]
  refine wpList_run rfl (.slice co q cc) (by simp [go_sem]) ?_
  simp only [Act.put, List.setIfInBounds_toArray, List.set_cons_zero, List.set_cons_succ]
  refine wpList_run rfl (.agg (row 32 (yv R)).toArray) (by simp [go_sem]) ?_
  simp only [Act.put, List.setIfInBounds_toArray, List.set_cons_zero, List.set_cons_succ]
  refine wpList_run rfl (.int .i64 z) (by simp [go_sem]) ?_
  simp only [Act.put, List.setIfInBounds_toArray, List.set_cons_zero, List.set_cons_succ]
  replace HL := hideit (HL.out.carry hX7)
  replace HT := hideit (HT.out.carry hX7)
  replace Nw4 := hideit (Nw4.out.carry hX7)
  replace Nw6 := hideit (Nw6.out.carry hX7)
  replace HE := hideit (Ext.trans HE.out hX7)
  clear k3 hX7
  replace hp1 := hideit hp1
  have hXa : Ext w7 (w7.alloc (.cells (row 32 (yv fun _ => 0#8)).toArray 25)) := (Below.refl _ _).alloc (Nat.le_refl _) _
  have Ca := RowAt.new w7 32 (yv fun _ => 0#8) 25
  have hYa := below_setCells (w := w7) w7.heap.size (Nat.le_refl _) (row 32 (yv R)) 0 _ hXa
  have Nw8 := hideit (Ca.cells (g' := yv R))
  replace HL := hideit (HL.out.carry hYa)
  replace HT := hideit (HT.out.carry hYa)
  replace Nw4 := hideit (Nw4.out.carry hYa)
  replace Nw6 := hideit (Nw6.out.carry hYa)
  replace HE := hideit (Ext.trans HE.out hYa)
  replace hp1 := hideit (hp1.out.ext hYa)
  refine wpList_to rfl (.pointer (some ⟨w7.heap.size, 0, none⟩)) (w7.alloc (.cells (row 32 (yv fun _ => 0#8)).toArray 25)) (by simp [go_sem, hz]) ?_
  simp only [Act.put, List.setIfInBounds_toArray, List.set_cons_zero, List.set_cons_succ]
  refine wpList_run rfl (.slice co q cc) (by simp [go_sem]) ?_
  simp only [Act.put, List.setIfInBounds_toArray, List.set_cons_zero, List.set_cons_succ]
  refine wpList_store_mid rfl 25 (.tmp 16) (.tmp 40) rfl _ 0 (row 32 (yv R)).toArray rfl rfl (by rw [row_size]; exact Ca.there) (by rw [row_size]; exact info24) (row_one fun _ _ => rfl) ?_
  rw [show (row 32 (yv R)).toArray.toList = row 32 (yv R) from rfl]
  generalize (w7.alloc (.cells (row 32 (yv fun _ => 0#8)).toArray 25)).setCells w7.heap.size 0 (row 32 (yv R)) = w8 at *
  generalize w7.heap.size = rb at *
  clear hXa Ca hYa
  simp only [Act.put]
  go_upto_region 4 with (fail)
  have k4 := hideit (rchange_any n i k leaf _ us ls bs w8 (hp.out.ext HE.out))
  refine wp_region_lit ?_
  refine wpList_run rfl (.int .i64 n) (by simp [go_sem]) ?_
  simp only [Act.put, List.setIfInBounds_toArray, List.set_cons_zero, List.set_cons_succ]
  refine wpList_run rfl (.int .i64 i) (by simp [go_sem]) ?_
  simp only [Act.put, List.setIfInBounds_toArray, List.set_cons_zero, List.set_cons_succ]
  refine wpList_run rfl (.agg (row 32 (yv leaf)).toArray) (exec_loadR 25 (.tmp 7) rfl w.heap.size 0 32 _ rfl HL.out.range Tryd.underlying25 rfl info24) ?_
  simp only [Act.put, List.setIfInBounds_toArray, List.set_cons_zero, List.set_cons_succ]
  refine wpList_run rfl (.slice po k pc) (by simp [go_sem]) ?_
  simp only [Act.put, List.setIfInBounds_toArray, List.set_cons_zero, List.set_cons_succ]
  refine wpList_call rfl (by simp [go_sem]) ((k4.out).mono ?_)
  rintro e w9 ⟨dv, q2, R2, z2, rfl, hc2, ⟨us2, hp2⟩, hX9⟩
  refine ⟨_, rfl, ?_⟩
  simp only [Act.put, List.setIfInBounds_toArray, List.set_cons_zero, List.set_cons_succ]
  obtain ⟨rfl, rfl, rfl⟩ := hc1.out.one hc2
  have hqk : q ≤ 140737488355328 := by
    by_cases a : isP n k ls = true ∧ 0 ≤ i ∧ i < n
    · obtain ⟨m, _, _, _, h3, _⟩ := isP_spec a.1
      have hk := lvN_pos m
      rw [← h3] at hk
      by_cases b : Jn k i.toNat bs
      · have := (hc2.ok a b).1
        omega
      · have := (hc2.ill a b).1
        omega
    · have := (hc2.no a).1
      omega
  clear hc1 hc2
  obtain ⟨d0, dc, rfl⟩ := hp2.form
  refine wpList_run rfl (.tuple #[.slice d0 q dc, .agg (row 32 (yv R)).toArray, .int .i64 z]) (by simp [go_sem]) ?_
  simp only [Act.put, List.setIfInBounds_toArray, List.set_cons_zero, List.set_cons_succ]
  refine wpList_run rfl (.slice d0 q dc) (by simp [go_sem]) ?_
  simp only [Act.put, List.setIfInBounds_toArray, List.set_cons_zero, List.set_cons_succ]
  refine wpList_run rfl (.agg (row 32 (yv R)).toArray) (by simp [go_sem]) ?_
  simp only [Act.put, List.setIfInBounds_toArray, List.set_cons_zero, List.set_cons_succ]
  refine wpList_run rfl (.int .i64 z) (by simp [go_sem]) ?_
  simp only [Act.put, List.setIfInBounds_toArray, List.set_cons_zero, List.set_cons_succ]
  replace hp1 := hideit (hp1.out.ext hX9)
  replace HL := hideit (HL.out.carry hX9)
  replace HT := hideit (HT.out.carry hX9)
  replace Nw4 := hideit (Nw4.out.carry hX9)
  replace Nw6 := hideit (Nw6.out.carry hX9)
  replace Nw8 := hideit (Nw8.out.carry hX9)
  replace HE := hideit (Ext.trans HE.out hX9)
  clear k4 hX9
  replace hp2 := hideit hp2
  have hXa : Ext w9 (w9.alloc (.cells (row 32 (yv fun _ => 0#8)).toArray 25)) := (Below.refl _ _).alloc (Nat.le_refl _) _
  have Ca := RowAt.new w9 32 (yv fun _ => 0#8) 25
  have hYa := below_setCells (w := w9) w9.heap.size (Nat.le_refl _) (row 32 (yv R)) 0 _ hXa
  have Nw10 := hideit (Ca.cells (g' := yv R))
  replace HL := hideit (HL.out.carry hYa)
  replace HT := hideit (HT.out.carry hYa)
  replace Nw4 := hideit (Nw4.out.carry hYa)
  replace Nw6 := hideit (Nw6.out.carry hYa)
  replace Nw8 := hideit (Nw8.out.carry hYa)
  replace HE := hideit (Ext.trans HE.out hYa)
  replace hp1 := hideit (hp1.out.ext hYa)
  replace hp2 := hideit (hp2.out.ext hYa)
  refine wpList_to rfl (.pointer (some ⟨w9.heap.size, 0, none⟩)) (w9.alloc (.cells (row 32 (yv fun _ => 0#8)).toArray 25)) (by simp [go_sem, hz]) ?_
  simp only [Act.put, List.setIfInBounds_toArray, List.set_cons_zero, List.set_cons_succ]
  refine wpList_run rfl (.slice d0 q dc) (by simp [go_sem]) ?_
  simp only [Act.put, List.setIfInBounds_toArray, List.set_cons_zero, List.set_cons_succ]
  refine wpList_store_mid rfl 25 (.tmp 19) (.tmp 49) rfl _ 0 (row 32 (yv R)).toArray rfl rfl (by rw [row_size]; exact Ca.there) (by rw [row_size]; exact info24) (row_one fun _ _ => rfl) ?_
  rw [show (row 32 (yv R)).toArray.toList = row 32 (yv R) from rfl]
  generalize (w9.alloc (.cells (row 32 (yv fun _ => 0#8)).toArray 25)).setCells w9.heap.size 0 (row 32 (yv R)) = w10 at *
  generalize w9.heap.size = sb at *
  clear hXa Ca hYa
  simp only [Act.put]
  go_upto_region 5 with (fail)
  replace HL := hideit HL.out.drew
  replace HT := hideit HT.out.drew
  replace Nw4 := hideit Nw4.out.drew
  replace Nw6 := hideit Nw6.out.drew
  replace Nw8 := hideit Nw8.out.drew
  replace Nw10 := hideit Nw10.out.drew
  replace HE := hideit (Ext.trans HE.out (Ext.refl w10).draw)
  replace hp1 := hideit (hp1.out.ext (Ext.refl w10).draw)
  replace hp2 := hideit (hp2.out.ext (Ext.refl w10).draw)
  have kl := hideit (lives_any _ (hC.out.ext HE.out))
  refine wp_region_lad (fun X => Ext w10.drew X) [(true, 0), (false, 1), (false, 2), (false, 3), (false, 4), (false, 5), (false, 6), (false, 7), (false, 8), (false, 9), (false, 10), (false, 11), (false, 12), (false, 13), (true, 14), (false, 15), (false, 16), (false, 17), (false, 18), (false, 19), (false, 20), (false, 21), (false, 22), (false, 23), (false, 24), (false, 25), (false, 26), (false, 27), (false, 28), (false, 29), (false, 30), (false, 31), (false, 33), (false, 34), (false, 35), (false, 36), (false, 37), (true, 32), (true, 38), (false, 39), (false, 40), (false, 41)] (by kernel_rfl) (by kernel_rfl) (by decide +kernel) (by decide +kernel) (by decide +kernel) (by decide +kernel) (Ext.refl _) ?_
  refine wpX_call _ rfl rfl (by simp [go_sem]) (kl.out.mono ?_)
  rintro e w11 ⟨rfl, hX11⟩
  replace HL := hideit (HL.out.carry hX11)
  replace HT := hideit (HT.out.carry hX11)
  replace Nw4 := hideit (Nw4.out.carry hX11)
  replace Nw6 := hideit (Nw6.out.carry hX11)
  replace Nw8 := hideit (Nw8.out.carry hX11)
  replace Nw10 := hideit (Nw10.out.carry hX11)
  replace HE := hideit (Ext.trans HE.out hX11)
  replace hp1 := hideit (hp1.out.ext hX11)
  replace hp2 := hideit (hp2.out.ext hX11)
  have ks := hideit (same_true q _ _ us1 us2 (fun _ => 512) _ _ w11 hp1.out hp2.out (fun _ _ _ _ => rfl) hqk)
  refine ⟨_, rfl, fun X => Ext w11 X, fun X hX => Ext.trans hX11 hX, Ext.refl _, ?_⟩
  simp only [List.getElem_toArray, List.getElem_cons_zero, Act.put, List.setIfInBounds_toArray, List.set_cons_zero, List.set_cons_succ]
  clear kl hX11
  refine wpX_f _ (.bool true) rfl rfl (fun X _ => by simp [go_sem]) ?_
  simp only [List.getElem_toArray, List.getElem_cons_zero, List.getElem_cons_succ, Act.put, List.setIfInBounds_toArray, List.set_cons_zero, List.set_cons_succ]
  refine wpX_f _ (.agg (row 32 (yv A)).toArray) rfl rfl (fun X hX => exec_loadR 25 (.tmp 11) rfl ab 0 32 _ rfl (Nw4.out.carry hX).range Tryd.underlying25 rfl info24) ?_
  simp only [List.getElem_toArray, List.getElem_cons_zero, List.getElem_cons_succ, Act.put, List.setIfInBounds_toArray, List.set_cons_zero, List.set_cons_succ]
  refine wpX_f _ (.agg (row 32 (yv A)).toArray) rfl rfl (fun X hX => exec_loadR 25 (.tmp 13) rfl bb 0 32 _ rfl (Nw6.out.carry hX).range Tryd.underlying25 rfl info24) ?_
  simp only [List.getElem_toArray, List.getElem_cons_zero, List.getElem_cons_succ, Act.put, List.setIfInBounds_toArray, List.set_cons_zero, List.set_cons_succ]
  refine wpX_f _ (.bool true) rfl rfl (fun X hX => exec_cmp .eql 25 25 (.tmp 53) (.tmp 54) rfl _ _ rfl rfl (by kernel_rfl) _ ((eql25 _ _ X).trans (by rw [eqN_iff.2 fun _ _ => rfl]))) ?_
  simp only [List.getElem_toArray, List.getElem_cons_zero, List.getElem_cons_succ, Act.put, List.setIfInBounds_toArray, List.set_cons_zero, List.set_cons_succ]
  refine wpX_f _ (.bool true) rfl rfl (fun X _ => by simp [go_sem]) ?_
  simp only [List.getElem_toArray, List.getElem_cons_zero, List.getElem_cons_succ, Act.put, List.setIfInBounds_toArray, List.set_cons_zero, List.set_cons_succ]
  refine wpX_f _ (.bool true) rfl rfl (fun X _ => by simp [go_sem]) ?_
  simp only [List.getElem_toArray, List.getElem_cons_zero, List.getElem_cons_succ, Act.put, List.setIfInBounds_toArray, List.set_cons_zero, List.set_cons_succ]
  refine wpX_f _ (.int .i64 za) rfl rfl (fun X _ => by simp [go_sem]) ?_
  simp only [List.getElem_toArray, List.getElem_cons_zero, List.getElem_cons_succ, Act.put, List.setIfInBounds_toArray, List.set_cons_zero, List.set_cons_succ]
  refine wpX_f _ (.int .i64 za) rfl rfl (fun X _ => by simp [go_sem]) ?_
  simp only [List.getElem_toArray, List.getElem_cons_zero, List.getElem_cons_succ, Act.put, List.setIfInBounds_toArray, List.set_cons_zero, List.set_cons_succ]
  refine wpX_f _ (.bool true) rfl rfl (fun X _ => by simp [go_sem]) ?_
  simp only [List.getElem_toArray, List.getElem_cons_zero, List.getElem_cons_succ, Act.put, List.setIfInBounds_toArray, List.set_cons_zero, List.set_cons_succ]
  refine wpX_f _ (.bool true) rfl rfl (fun X _ => by simp [go_sem]) ?_
  simp only [List.getElem_toArray, List.getElem_cons_zero, List.getElem_cons_succ, Act.put, List.setIfInBounds_toArray, List.set_cons_zero, List.set_cons_succ]
  refine wpX_f _ (.bool true) rfl rfl (fun X _ => by simp [go_sem]) ?_
  simp only [List.getElem_toArray, List.getElem_cons_zero, List.getElem_cons_succ, Act.put, List.setIfInBounds_toArray, List.set_cons_zero, List.set_cons_succ]
  refine wpX_f _ (.slice co q cc) rfl rfl (fun X _ => by simp [go_sem]) ?_
  simp only [List.getElem_toArray, List.getElem_cons_zero, List.getElem_cons_succ, Act.put, List.setIfInBounds_toArray, List.set_cons_zero, List.set_cons_succ]
  refine wpX_f _ (.slice d0 q dc) rfl rfl (fun X _ => by simp [go_sem]) ?_
  simp only [List.getElem_toArray, List.getElem_cons_zero, List.getElem_cons_succ, Act.put, List.setIfInBounds_toArray, List.set_cons_zero, List.set_cons_succ]
  refine wpX_call _ rfl rfl (by simp [go_sem]) (ks.out.mono ?_)
  rintro e w12 ⟨rfl, hX12⟩
  replace HL := hideit (HL.out.carry hX12)
  replace HT := hideit (HT.out.carry hX12)
  replace Nw4 := hideit (Nw4.out.carry hX12)
  replace Nw6 := hideit (Nw6.out.carry hX12)
  replace Nw8 := hideit (Nw8.out.carry hX12)
  replace Nw10 := hideit (Nw10.out.carry hX12)
  replace HE := hideit (Ext.trans HE.out hX12)
  have k5 := hideit (check_all n i k leaf root _ us ls bs w12 (hp.out.ext HE.out) (hC.out.ext HE.out))
  refine ⟨_, rfl, fun X => Ext w12 X, fun X hX => Ext.trans hX12 hX, Ext.refl _, ?_⟩
  simp only [List.getElem_toArray, List.getElem_cons_zero, List.getElem_cons_succ, Act.put, List.setIfInBounds_toArray, List.set_cons_zero, List.set_cons_succ]
  clear ks hX12
  refine wpX_f _ (.bool true) rfl rfl (fun X _ => by simp [go_sem]) ?_
  simp only [List.getElem_toArray, List.getElem_cons_zero, List.getElem_cons_succ, Act.put, List.setIfInBounds_toArray, List.set_cons_zero, List.set_cons_succ]
  refine wpX_f _ (.bool true) rfl rfl (fun X _ => by simp [go_sem]) ?_
  simp only [List.getElem_toArray, List.getElem_cons_zero, List.getElem_cons_succ, Act.put, List.setIfInBounds_toArray, List.set_cons_zero, List.set_cons_succ]
  refine wpX_f _ (.agg (row 32 (yv R)).toArray) rfl rfl (fun X hX => exec_loadR 25 (.tmp 16) rfl rb 0 32 _ rfl (Nw8.out.carry hX).range Tryd.underlying25 rfl info24) ?_
  simp only [List.getElem_toArray, List.getElem_cons_zero, List.getElem_cons_succ, Act.put, List.setIfInBounds_toArray, List.set_cons_zero, List.set_cons_succ]
  refine wpX_f _ (.agg (row 32 (yv R)).toArray) rfl rfl (fun X hX => exec_loadR 25 (.tmp 19) rfl sb 0 32 _ rfl (Nw10.out.carry hX).range Tryd.underlying25 rfl info24) ?_
  simp only [List.getElem_toArray, List.getElem_cons_zero, List.getElem_cons_succ, Act.put, List.setIfInBounds_toArray, List.set_cons_zero, List.set_cons_succ]
  refine wpX_f _ (.bool true) rfl rfl (fun X hX => exec_cmp .eql 25 25 (.tmp 68) (.tmp 69) rfl _ _ rfl rfl (by kernel_rfl) _ ((eql25 _ _ X).trans (by rw [eqN_iff.2 fun _ _ => rfl]))) ?_
  simp only [List.getElem_toArray, List.getElem_cons_zero, List.getElem_cons_succ, Act.put, List.setIfInBounds_toArray, List.set_cons_zero, List.set_cons_succ]
  refine wpX_f _ (.bool true) rfl rfl (fun X _ => by simp [go_sem]) ?_
  simp only [List.getElem_toArray, List.getElem_cons_zero, List.getElem_cons_succ, Act.put, List.setIfInBounds_toArray, List.set_cons_zero, List.set_cons_succ]
  refine wpX_f _ (.bool true) rfl rfl (fun X _ => by simp [go_sem]) ?_
  simp only [List.getElem_toArray, List.getElem_cons_zero, List.getElem_cons_succ, Act.put, List.setIfInBounds_toArray, List.set_cons_zero, List.set_cons_succ]
  refine wpX_f _ (.int .i64 z) rfl rfl (fun X _ => by simp [go_sem]) ?_
  simp only [List.getElem_toArray, List.getElem_cons_zero, List.getElem_cons_succ, Act.put, List.setIfInBounds_toArray, List.set_cons_zero, List.set_cons_succ]
  refine wpX_f _ (.int .i64 z) rfl rfl (fun X _ => by simp [go_sem]) ?_
  simp only [List.getElem_toArray, List.getElem_cons_zero, List.getElem_cons_succ, Act.put, List.setIfInBounds_toArray, List.set_cons_zero, List.set_cons_succ]
  refine wpX_f _ (.bool true) rfl rfl (fun X _ => by simp [go_sem]) ?_
  simp only [List.getElem_toArray, List.getElem_cons_zero, List.getElem_cons_succ, Act.put, List.setIfInBounds_toArray, List.set_cons_zero, List.set_cons_succ]
  refine wpX_f _ (.bool true) rfl rfl (fun X _ => by simp [go_sem]) ?_
  simp only [List.getElem_toArray, List.getElem_cons_zero, List.getElem_cons_succ, Act.put, List.setIfInBounds_toArray, List.set_cons_zero, List.set_cons_succ]
  refine wpX_f _ (.bool true) rfl rfl (fun X _ => by simp [go_sem]) ?_
  simp only [List.getElem_toArray, List.getElem_cons_zero, List.getElem_cons_succ, Act.put, List.setIfInBounds_toArray, List.set_cons_zero, List.set_cons_succ]
  refine wpX_f _ (.int .i64 n) rfl rfl (fun X _ => by simp [go_sem]) ?_
  simp only [List.getElem_toArray, List.getElem_cons_zero, List.getElem_cons_succ, Act.put, List.setIfInBounds_toArray, List.set_cons_zero, List.set_cons_succ]
  refine wpX_f _ (.int .i64 i) rfl rfl (fun X _ => by simp [go_sem]) ?_
  simp only [List.getElem_toArray, List.getElem_cons_zero, List.getElem_cons_succ, Act.put, List.setIfInBounds_toArray, List.set_cons_zero, List.set_cons_succ]
  refine wpX_f _ (.agg (row 32 (yv leaf)).toArray) rfl rfl (fun X hX => exec_loadR 25 (.tmp 7) rfl w.heap.size 0 32 _ rfl (HL.out.carry hX).range Tryd.underlying25 rfl info24) ?_
  simp only [List.getElem_toArray, List.getElem_cons_zero, List.getElem_cons_succ, Act.put, List.setIfInBounds_toArray, List.set_cons_zero, List.set_cons_succ]
  refine wpX_f _ (.slice po k pc) rfl rfl (fun X _ => by simp [go_sem]) ?_
  simp only [List.getElem_toArray, List.getElem_cons_zero, List.getElem_cons_succ, Act.put, List.setIfInBounds_toArray, List.set_cons_zero, List.set_cons_succ]
  refine wpX_f _ (.agg (row 32 (yv root)).toArray) rfl rfl (fun X hX => exec_loadR 25 (.tmp 9) rfl (w.heap.size + 1) 0 32 _ rfl (HT.out.carry hX).range Tryd.underlying25 rfl info24) ?_
  simp only [List.getElem_toArray, List.getElem_cons_zero, List.getElem_cons_succ, Act.put, List.setIfInBounds_toArray, List.set_cons_zero, List.set_cons_succ]
  refine wpX_f _ (.int .i64 n) rfl rfl (fun X _ => by simp [go_sem]) ?_
  simp only [List.getElem_toArray, List.getElem_cons_zero, List.getElem_cons_succ, Act.put, List.setIfInBounds_toArray, List.set_cons_zero, List.set_cons_succ]
  refine wpX_f _ (.int .i64 i) rfl rfl (fun X _ => by simp [go_sem]) ?_
  simp only [List.getElem_toArray, List.getElem_cons_zero, List.getElem_cons_succ, Act.put, List.setIfInBounds_toArray, List.set_cons_zero, List.set_cons_succ]
  refine wpX_f _ (.agg (row 32 (yv leaf)).toArray) rfl rfl (fun X hX => exec_loadR 25 (.tmp 7) rfl w.heap.size 0 32 _ rfl (HL.out.carry hX).range Tryd.underlying25 rfl info24) ?_
  simp only [List.getElem_toArray, List.getElem_cons_zero, List.getElem_cons_succ, Act.put, List.setIfInBounds_toArray, List.set_cons_zero, List.set_cons_succ]
  refine wpX_f _ (.slice po k pc) rfl rfl (fun X _ => by simp [go_sem]) ?_
  simp only [List.getElem_toArray, List.getElem_cons_zero, List.getElem_cons_succ, Act.put, List.setIfInBounds_toArray, List.set_cons_zero, List.set_cons_succ]
  refine wpX_f _ (.agg (row 32 (yv root)).toArray) rfl rfl (fun X hX => exec_loadR 25 (.tmp 9) rfl (w.heap.size + 1) 0 32 _ rfl (HT.out.carry hX).range Tryd.underlying25 rfl info24) ?_
  simp only [List.getElem_toArray, List.getElem_cons_zero, List.getElem_cons_succ, Act.put, List.setIfInBounds_toArray, List.set_cons_zero, List.set_cons_succ]
  refine wpX_call _ rfl rfl (by simp [go_sem]) (k5.out.mono ?_)
  rintro e w13 ⟨z5, rfl, hX13, hz5⟩
  replace HE := hideit (Ext.trans HE.out hX13)
  have k6 := hideit (rcheck_all n i k leaf root _ us ls bs w13 (hp.out.ext HE.out))
  refine ⟨_, rfl, fun X => Ext w13 X, fun X hX => Ext.trans hX13 hX, Ext.refl _, ?_⟩
  simp only [List.getElem_toArray, List.getElem_cons_zero, List.getElem_cons_succ, Act.put, List.setIfInBounds_toArray, List.set_cons_zero, List.set_cons_succ]
  refine wpX_call _ rfl rfl (by simp [go_sem]) (k6.out.mono ?_)
  rintro e w14 ⟨z6, rfl, hX14, hz6⟩
  replace HE := hideit (Ext.trans HE.out hX14)
  obtain rfl := ckE_one hz5 hz6
  refine ⟨_, rfl, fun X => Ext w14 X, fun X hX => Ext.trans hX14 hX, Ext.refl _, ?_⟩
  simp only [List.getElem_toArray, List.getElem_cons_zero, List.getElem_cons_succ, Act.put, List.setIfInBounds_toArray, List.set_cons_zero, List.set_cons_succ]
  refine wpX_f _ (.bool true) rfl rfl (fun X _ => by simp [go_sem]) ?_
  simp only [List.getElem_toArray, List.getElem_cons_zero, List.getElem_cons_succ, Act.put, List.setIfInBounds_toArray, List.set_cons_zero, List.set_cons_succ]
  refine wpX_f _ (.bool true) rfl rfl (fun X _ => by simp [go_sem]) ?_
  simp only [List.getElem_toArray, List.getElem_cons_zero, List.getElem_cons_succ, Act.put, List.setIfInBounds_toArray, List.set_cons_zero, List.set_cons_succ]
  refine wpX_f _ (.bool true) rfl rfl (fun X _ => by simp [go_sem]) ?_
  simp only [List.getElem_toArray, List.getElem_cons_zero, List.getElem_cons_succ, Act.put, List.setIfInBounds_toArray, List.set_cons_zero, List.set_cons_succ]
  refine wpX_nil ?_
  clear k5 k6 hX13 hX14 hz5 hz6
  go_wp2
  go_ret
  exact ⟨rfl, HE.out⟩

theorem contract (H : Type) (enc : TypeId × Value → H) (W : World) (base : Nat) (args : Array Value) (ds gs : List (DataW H)) (before : List MemPlace)
    (hval0 : ∀ (j : Nat) t v, Tryd.f5.params[j]? = some t → args[j]? = some v → Value.okWide Tryd.prog W .any base t v)
    (hW : DataW.Whole enc Tryd.prog Tryd.f5.params.toList Rows.treeAsksSpec.vars false W args.toList ds gs before) (hL : laidMetH Tryd.prog Rows.treeAsksRow.laid W) :
    Calls Tryd.prog 5 args W fun e W' => ∃ v, e = .returned v ∧ Rows.treeAsksSpec.post enc Tryd.prog Tryd.f5 false true false false W args v W' := by
  have hval := hval0
  have hW' := hW
  obtain ⟨p, q, hA0, hV, rfl, hfz, hnd⟩ := hW
  have hA : DataW.TrodAll enc Tryd.prog W 0 (fun _ => true) true Tryd.f5.params.toList args.toList ds p := hA0
  rw [Tryd.params5] at hA hval
  obtain ⟨v0, vs0, d0, ds0, p0, q0, hargs, rfl, rfl, h0, r0⟩ := trodAll_cons hA
  obtain ⟨v1, vs1, d1, ds1, p1, q1, rfl, rfl, rfl, h1, r1⟩ := trodAll_cons r0
  obtain ⟨v2, vs2, d2, ds2, p2, q2, rfl, rfl, rfl, h2, r2⟩ := trodAll_cons r1
  obtain ⟨v3, vs3, d3, ds3, p3, q3, rfl, rfl, rfl, h3, r3⟩ := trodAll_cons r2
  obtain ⟨v4, vs4, d4, ds4, p4, q4, rfl, rfl, rfl, h4, r4⟩ := trodAll_cons r3
  obtain ⟨rfl, rfl, rfl⟩ := trodAll_nil r4
  obtain rfl : args = #[v0, v1, v2, v3, v4] := by cases args; simp_all
  obtain ⟨rfl, rfl⟩ := trodVars_none hV
  have h0s : 0 < W.heap.size := by
    have hc := (table hL).cell gTab 0 (by decide)
    rcases Nat.lt_or_ge 0 W.heap.size with h | h
    · exact h
    · exfalso
      have : W.heap[0]? = none := Array.getElem?_eq_none h
      simp [World.cell?, this] at hc
  have hC : TabC W := tabC hL h0s
  have k0 := h0
  have lt0 : ∀ x ∈ p0, x.block < W.heap.size := by obtain ⟨m, hm⟩ := k0; exact DataW.trod_lt m _ _ _ hm
  have k1 := h1
  have lt1 : ∀ x ∈ p1, x.block < W.heap.size := by obtain ⟨m, hm⟩ := k1; exact DataW.trod_lt m _ _ _ hm
  have k2 := h2
  have lt2 : ∀ x ∈ p2, x.block < W.heap.size := by obtain ⟨m, hm⟩ := k2; exact DataW.trod_lt m _ _ _ hm
  have k3 := h3
  have lt3 : ∀ x ∈ p3, x.block < W.heap.size := by obtain ⟨m, hm⟩ := k3; exact DataW.trod_lt m _ _ _ hm
  have k4 := h4
  have lt4 : ∀ x ∈ p4, x.block < W.heap.size := by obtain ⟨m, hm⟩ := k4; exact DataW.trod_lt m _ _ _ hm
  obtain ⟨a0, rfl, rfl, rfl, w0⟩ := open_int Tryd.underlying3 (hval 0 3 v0 rfl rfl) h0
  obtain ⟨a1, rfl, rfl, rfl, w1⟩ := open_int Tryd.underlying3 (hval 1 3 v1 rfl rfl) h1
  obtain ⟨a2, rfl⟩ := open_arru8_32 (hval 2 25 v2 rfl rfl) h2
  have B3 := warg (hval 3 33 v3 rfl rfl) h3
  obtain ⟨a4, rfl⟩ := open_arru8_32 (hval 4 25 v4 rfl rfl) h4
  clear hA0 hval0
  refine (walk a0 w0 a1 w1 a2 v3 a4 W B3 hC).mono fun e W' ⟨he, bel⟩ => ?_
  subst he
  exact ⟨_, rfl, _, _, _, [], _, [], hW', trodAll_mk1 (shut_bool Tryd.underlying4 _), (trodAll_cons_mk (Below.trod laidOut (by kernel_rfl) (of_decide_eq_true (by kernel_rfl)) k0 bel lt0) (trodAll_cons_mk (Below.trod laidOut (by kernel_rfl) (of_decide_eq_true (by kernel_rfl)) k1 bel lt1) (trodAll_cons_mk (Below.trod laidOut (by kernel_rfl) (of_decide_eq_true (by kernel_rfl)) k2 bel lt2) (trodAll_cons_mk (Below.trod laidOut (by kernel_rfl) (of_decide_eq_true (by kernel_rfl)) k3 bel lt3) (trodAll_cons_mk (Below.trod laidOut (by kernel_rfl) (of_decide_eq_true (by kernel_rfl)) k4 bel lt4) trodAll_mk0))))), rfl, bel.frame _, fun h => by cases h⟩

def wit : Array Value := #[.int .i64 0, .int .i64 0, .agg (List.replicate 32 (.int .u8 0)).toArray, .slice none 0 0, .agg (List.replicate 32 (.int .u8 0)).toArray]
def dat {H : Type} : List (DataW H) := [.lit (.int .i64 0), .lit (.int .i64 0), .agg (List.replicate 32 (.lit (.int .u8 0))), .nil, .agg (List.replicate 32 (.lit (.int .u8 0)))]
def setTab : Obj → Obj
  | .cells _ t frozen => .cells (tabL.map fun z => Value.int .u32 z).toArray t frozen
  | o => o
theorem laid_met (os : Os) : laidMet Tryd.prog Rows.treeAsksRow.laid (({ World.holding Tryd.prog os ⟨#[], #[], []⟩ with heap := (World.holding Tryd.prog os ⟨#[], #[], []⟩).heap.modify 0 setTab } : World).forCall (fun _ _ => 0) ⟨#[], wit, []⟩).memory :=
  laidMet_of_run' 8 (by kernel_rfl) (by kernel_rfl)
theorem reads (os : Os) {H : Type} (enc : TypeId × Value → H) : ∃ places, DataW.whole enc Tryd.prog (({ World.holding Tryd.prog os ⟨#[], #[], []⟩ with heap := (World.holding Tryd.prog os ⟨#[], #[], []⟩).heap.modify 0 setTab } : World).forCall (fun _ _ => 0) ⟨#[], wit, []⟩).memory Tryd.f5.params.toList Rows.treeAsksSpec.vars false wit.toList 8 = some (dat, [], places) :=
  ⟨[], by kernel_rfl⟩

set_option maxRecDepth 100000 in
theorem lifted (os : Os) (started : os.Started) (H : Type) (enc : TypeId × Value → H) (F : Stop.Interp) :
    ReturnsInHanded {} Tryd.checked os 5 .any ((OpenSpec.ofChange Rows.treeAsksSpec).preRow enc Tryd.prog Tryd.f5 Rows.treeAsksRow.domain false Rows.treeAsksRow.laid) (((OpenSpec.ofChange Rows.treeAsksSpec).at F).post enc Tryd.prog Tryd.f5 false true false false) := by
  obtain ⟨places, hx⟩ := reads os enc
  refine returnsInHanded_of_row (C := Tryd.checked) (s := (OpenSpec.ofChange Rows.treeAsksSpec)) own started (by kernel_rfl) Tryd.func5
    (witness_row_at (enc := enc) (C := Tryd.checked) false ({ World.holding Tryd.prog os ⟨#[], #[], []⟩ with heap := (World.holding Tryd.prog os ⟨#[], #[], []⟩).heap.modify 0 setTab } : World) wit rfl (by kernel_rfl) (by kernel_rfl) (by kernel_rfl)
      (OpenSpec.preRow_of_cond 8 hx (by kernel_rfl) (fun k hk => by cases hk) (by kernel_rfl) (laid_met os))) ?_
  intro W base args ds gs before hval hW _ hcond hsz hL _ _
  exact contract H enc W base args ds gs before hval hW hL

theorem said : Rows.TreeAsksSaid :=
  OpenClaim.holds_of_cond 5 Tryd.f5 rfl rfl rfl rfl rfl rfl rfl ⟨rfl, rfl, rfl, rfl, rfl⟩ rfl rfl rfl rfl rfl (by kernel_rfl) Tryd.func5 (by kernel_rfl)
    (of_decide_eq_true (by kernel_rfl)) (by unfold Func.isWrapper; first | (rw [if_pos (by decide +kernel)]; kernel_rfl) | (rw [if_neg (by decide +kernel)]; exact ⟨rfl, rfl⟩))
    (fun os started H enc _ F => by rw [OpenClaim.pre_eq_preRow]; exact lifted os started H enc F)

theorem plain (f : FuncId) (fn : Func) (hf : Tryd.pinned.checked.prog.funcNamed "casket/casketlaw16.TreeAsks" = some f) (hfn : Tryd.pinned.checked.prog.funcs[f]? = some fn) :
    false = Tryd.pinned.checked.prog.looks [] ∧ ∀ (j : Nat) t, fn.params[j]? = some t → Tryd.pinned.checked.prog.wantsStandIn t = false := by
  obtain rfl : f = 5 := Option.some.inj ((show Tryd.prog.funcNamed "casket/casketlaw16.TreeAsks" = some 5 by kernel_rfl).symm.trans hf) |>.symm
  obtain rfl : fn = Tryd.f5 := (Option.some.inj (Tryd.func5.symm.trans hfn)).symm
  refine ⟨by kernel_rfl, fun j t ht => ?_⟩
  rw [Tryd.params5] at ht
  have hm : t ∈ [3, 3, 25, 33, 25] := by simpa using Array.mem_of_getElem? ht
  have hall : ([3, 3, 25, 33, 25].all fun u => !Tryd.prog.wantsStandIn u) = true := by kernel_rfl
  exact (show Tryd.prog.wantsStandIn t = false by simpa using List.all_eq_true.1 hall t hm)

theorem card : Rows.TreeAsksCardSaid :=
  Claim7.holds_tied_plain_at .later [] _ _ _ _ said (fun _ h => by cases h) (by kernel_rfl) (fun _ h => by cases h) treeAsks_row_tie rfl ⟨rfl, rfl⟩ (by kernel_rfl) rfl plain (by kernel_rfl)
end Go.Proofs.YtapmheocllicnaaDoor.treeAsks
namespace Go.Proofs.YtapmheocllicnaaDoor
theorem treeAsks_holds : Rows.TreeAsksCardSaid := treeAsks.card
end Go.Proofs.YtapmheocllicnaaDoor
