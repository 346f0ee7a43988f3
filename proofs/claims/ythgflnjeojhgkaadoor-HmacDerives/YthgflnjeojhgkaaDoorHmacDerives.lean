/-
  For every key, label and two numbers the law HmacDerives returns true, and its arguments read behind the call as they read before; the package-level table of constants is as the program lays it.
-/
import Derived.Test.YthgflnjeojhgkaaDoorCards
import Derived.Test.YthgflnjeojhgkaaDoorTie
import Derived.WalkKit
import Derived.ProofKit
import Derived.OpenShut
import Derived.ShutString
import Derived.ChangeOld
import Derived.Below
import Derived.Deep.DeepHandedRow
import Derived.Lib.LaidTab
import Derived.Test.YthgflnjeojhgkaaDoorHLives
import Derived.Test.YthgflnjeojhgkaaDoorHRDrv
import Derived.Test.YthgflnjeojhgkaaDoorKeg
import Derived.ChangeMaps5
import Derived.SizedLaws
namespace Go.Proofs.YthgflnjeojhgkaaDoor.hmacDerives
open Go.ChangeShapes Go.WideShapes Go.ChangeAt Go.RowKit
set_option linter.unusedVariables false

theorem own : ownKnob Tryd.prog.godebug = none := by kernel_rfl
theorem laidOut : laidOutB Tryd.prog = true := by kernel_rfl
theorem gTab : Tryd.prog.globalNamed "casket/sha.constants" = some 0 := by kernel_rfl
theorem gTabType : (Tryd.prog.globals[0]?).map (·.type) = some 62 := by kernel_rfl
theorem cellsG : Tryd.prog.cellsOf 62 = 64 := by kernel_rfl
theorem cellsE : Tryd.prog.cellsOf 51 = 1 := by kernel_rfl
def tabL : List Int := [1116352408, 1899447441, 3049323471, 3921009573, 961987163, 1508970993, 2453635748, 2870763221, 3624381080, 310598401, 607225278, 1426881987, 1925078388, 2162078206, 2614888103, 3248222580, 3835390401, 4022224774, 264347078, 604807628, 770255983, 1249150122, 1555081692, 1996064986, 2554220882, 2821834349, 2952996808, 3210313671, 3336571891, 3584528711, 113926993, 338241895, 666307205, 773529912, 1294757372, 1396182291, 1695183700, 1986661051, 2177026350, 2456956037, 2730485921, 2820302411, 3259730800, 3345764771, 3516065817, 3600352804, 4094571909, 275423344, 430227734, 506948616, 659060556, 883997877, 958139571, 1322822218, 1537002063, 1747873779, 1955562222, 2024104815, 2227730452, 2361852424, 2428436474, 2756734187, 3204031479, 3329325298]
theorem table {W : World} (h : laidMetH Tryd.prog Rows.hmacDerivesRow.laid W) : Lib.TabIs Tryd.prog W "casket/sha.constants" .u32 tabL :=
  Lib.tabIs_of_head (rest := []) gTab gTabType Tryd.underlying62 Tryd.underlying51 cellsE cellsG h
theorem tab_kT : ∀ j, j < 64 → tabL.getD j 0 = ((kT j).toNat : Int) := by decide +kernel
theorem tabC {W : World} (h : laidMetH Tryd.prog Rows.hmacDerivesRow.laid W) (h0 : 0 < W.heap.size) : TabC W :=
  ⟨fun j hj => by
    rw [← tab_kT j hj]
    exact (table h).cell gTab j hj, h0⟩

open Go.BigFrame
theorem wpList_not {P : Program} {ops : Array Oper} {rest : List Oper} {o : Oper} {a : Act} {Q : Exit → Act → World → Prop} {w : World} (hw : Region.wanted o (yielded ops a.tmps) = false) (h : wpList P ops Q rest (a.put o.dst undef) w) : wpList P ops Q (o :: rest) a w := by
  unfold wpList
  rw [if_neg (by rw [hw]; simp)]
  exact h
def drvN (z : Int) : Nat := if 1 ≤ z ∧ z ≤ 8160 then z.toNat else 0
theorem _root_.Go.Proofs.YthgflnjeojhgkaaDoor.BV.take {oa : Option Addr} {l cp : Nat} {b : Nat → BitVec 8} {w : World} (h : BV (.slice oa l cp) l b w) (m : Nat) (hm : m ≤ l) : BV (.slice oa m cp) m b w := by
  rcases h with ⟨h, h0⟩ | ⟨a, cap, h1, h2, h3⟩
  · injection h with e1 e2 e3
    obtain rfl : m = 0 := by omega
    exact .inl ⟨by rw [e1, e3], rfl⟩
  · injection h1 with e1 e2 e3
    subst e1 e3
    exact .inr ⟨_, _, rfl, by omega, fun j hj => h3.1 j (by omega), h3.2⟩
theorem cap_of {oa : Option Addr} {l cp : Nat} {b : Nat → BitVec 8} {w : World} (h : BV (.slice oa l cp) l b w) : l ≤ cp := by
  rcases h with ⟨h, h0⟩ | ⟨a, cap, h1, h2, h3⟩
  · omega
  · injection h1 with e1 e2 e3
    omega
set_option maxRecDepth 20000 in
theorem bad15 (oa : Option Addr) (l cp : Nat) (s : ByteArray) (z : Int) (hz : z < 1 ∨ 8160 < z) (w : World) : Calls Tryd.prog 15 #[.slice oa l cp, .string s, .int .i64 z] w fun e w' => e = .returned (.slice none 0 0) ∧ w' = w := by
  by_cases h1 : z < 1
  · go_enter Tryd.func15, Tryd.ntmps15
    go_wp2
    go_ret
    exact ⟨rfl, rfl⟩
  · have h2 : 8160 < z := by omega
    go_enter Tryd.func15, Tryd.ntmps15
    go_wp2
    go_ret
    exact ⟨rfl, rfl⟩
set_option maxRecDepth 20000 in
theorem bad16 (oa : Option Addr) (l cp : Nat) (s : ByteArray) (z : Int) (hz : z < 1 ∨ 8160 < z) (w : World) : Calls Tryd.prog 16 #[.slice oa l cp, .string s, .int .i64 z] w fun e w' => e = .returned (.slice none 0 0) ∧ w' = w := by
  by_cases h1 : z < 1
  · go_enter Tryd.func16, Tryd.ntmps16
    go_wp2
    go_ret
    exact ⟨rfl, rfl⟩
  · have h2 : 8160 < z := by omega
    go_enter Tryd.func16, Tryd.ntmps16
    go_wp2
    go_ret
    exact ⟨rfl, rfl⟩
theorem deriveV (v : Value) (l : Nat) (key : Nat → BitVec 8) (s : ByteArray) (z : Int) (w : World) (h : BV v l key w) (hC : TabC w) (hl : l ≤ 140737488351232) (hs : s.size ≤ 140737488351232) :
    Calls Tryd.prog 15 #[v, .string s, .int .i64 z] w fun e w' => ∃ u, e = .returned u ∧ BV u (drvN z) (drvF l key s.size (labF s)) w' ∧ Ext w w' := by
  by_cases hz : 1 ≤ z ∧ z ≤ 8160
  · obtain ⟨n, rfl⟩ : ∃ n : Nat, z = (n : Int) := ⟨z.toNat, by omega⟩
    have : drvN (n : Int) = n := by unfold drvN; rw [if_pos hz]; rfl
    rw [this]
    exact (derive_any v l key s n w h hC hl hs (by omega) (by omega)).mono fun e w' ⟨u, h1, h2, h3⟩ => ⟨u, h1, OwnB.bv h2, h3⟩
  · have : drvN z = 0 := by unfold drvN; rw [if_neg hz]
    rw [this]
    obtain ⟨oa, cp, rfl⟩ := h.form
    exact (bad15 oa l cp s z (by omega) w).mono fun e w' ⟨h1, h2⟩ => ⟨_, h1, .inl ⟨rfl, rfl⟩, by rw [h2]; exact Ext.refl _⟩
theorem rderiveV (v : Value) (l : Nat) (key : Nat → BitVec 8) (s : ByteArray) (z : Int) (w : World) (h : BV v l key w) (hl : l ≤ 140737488351232) (hs : s.size ≤ 140737488351232) :
    Calls Tryd.prog 16 #[v, .string s, .int .i64 z] w fun e w' => ∃ u, e = .returned u ∧ BV u (drvN z) (drvF l key s.size (labF s)) w' ∧ Ext w w' := by
  by_cases hz : 1 ≤ z ∧ z ≤ 8160
  · obtain ⟨n, rfl⟩ : ∃ n : Nat, z = (n : Int) := ⟨z.toNat, by omega⟩
    have : drvN (n : Int) = n := by unfold drvN; rw [if_pos hz]; rfl
    rw [this]
    exact rderive_any v l key s n w h hl hs (by omega) (by omega)
  · have : drvN z = 0 := by unfold drvN; rw [if_neg hz]
    rw [this]
    obtain ⟨oa, cp, rfl⟩ := h.form
    exact (bad16 oa l cp s z (by omega) w).mono fun e w' ⟨h1, h2⟩ => ⟨_, h1, .inl ⟨rfl, rfl⟩, by rw [h2]; exact Ext.refl _⟩
set_option maxRecDepth 20000 in
set_option maxHeartbeats 8000000 in
theorem walk (v0 : Value) (s : ByteArray) (hs0 : s.data.toList.length ≤ reachBytes) (z0 : Int) (_ : (Lit.int .i64 z0).wf = true) (z1 : Int) (_ : (Lit.int .i64 z1).wf = true) (w : World) (A0 : BArg v0 w) (hC : TabC w) : Calls Tryd.prog 5 #[v0, .string s, .int .i64 z0, .int .i64 z1] w fun e w' => e = .returned (.bool true) ∧ Below w.heap.size w w' := by
  have hs : s.size ≤ 140737488351232 := by
    have h1 : s.data.toList.length = s.size := Array.length_toList
    rw [h1] at hs0
    exact hs0
  obtain ⟨l0, b0, hK, hl0⟩ := A0.bv
  obtain ⟨o0, c0, rfl⟩ := hK.form
  obtain ⟨F, hF⟩ : ∃ F, F = drvF l0 b0 s.size (labF s) := ⟨_, rfl⟩
  obtain ⟨m0, hm0⟩ : ∃ m, m = drvN z0 := ⟨_, rfl⟩
  obtain ⟨m1, hm1⟩ : ∃ m, m = drvN z1 := ⟨_, rfl⟩
  have hd0 := hideit (fun (X : World) (hX : Ext w X) => deriveV _ l0 b0 s z0 X (hK.ext hX) (hC.ext hX) hl0 hs)
  have hd1 := hideit (fun (X : World) (hX : Ext w X) => deriveV _ l0 b0 s z1 X (hK.ext hX) (hC.ext hX) hl0 hs)
  have hrd0 := hideit (fun (X : World) (hX : Ext w X) => rderiveV _ l0 b0 s z0 X (hK.ext hX) hl0 hs)
  have hrd1 := hideit (fun (X : World) (hX : Ext w X) => rderiveV _ l0 b0 s z1 X (hK.ext hX) hl0 hs)
  rw [← hF, ← hm0] at hd0 hrd0
  rw [← hF, ← hm1] at hd1 hrd1
  replace hC := hideit hC
  clear hF hm0 hm1 hK A0
  go_enter Tryd.func5, Tryd.ntmps5
  go_upto_region 1 with (fail)
  refine wp_region_lit ?_
  refine wpList_run rfl (.slice o0 l0 c0) (by simp [go_sem]) ?_
  simp only [Act.put, List.setIfInBounds_toArray, List.set_cons_zero, List.set_cons_succ]
  refine wpList_run rfl (.string s) (by simp [go_sem]) ?_
  simp only [Act.put, List.setIfInBounds_toArray, List.set_cons_zero, List.set_cons_succ]
  refine wpList_run rfl (.int .i64 z0) (by simp [go_sem]) ?_
  simp only [Act.put, List.setIfInBounds_toArray, List.set_cons_zero, List.set_cons_succ]
  refine wpList_call rfl (by simp [go_sem]) ((hd0.out w (Ext.refl _)).mono ?_)
  rintro e w1 ⟨u0, rfl, hBA, hE1⟩
  obtain ⟨oA, cA, rfl⟩ := hBA.form
  refine ⟨_, rfl, ?_⟩
  simp only [Act.put, List.setIfInBounds_toArray, List.set_cons_zero, List.set_cons_succ]
  refine wpList_run rfl (.slice o0 l0 c0) (by simp [go_sem]) ?_
  simp only [Act.put, List.setIfInBounds_toArray, List.set_cons_zero, List.set_cons_succ]
  refine wpList_run rfl (.string s) (by simp [go_sem]) ?_
  simp only [Act.put, List.setIfInBounds_toArray, List.set_cons_zero, List.set_cons_succ]
  refine wpList_run rfl (.int .i64 z1) (by simp [go_sem]) ?_
  simp only [Act.put, List.setIfInBounds_toArray, List.set_cons_zero, List.set_cons_succ]
  refine wpList_call rfl (by simp [go_sem]) ((hd1.out w1 hE1).mono ?_)
  rintro e w2 ⟨u1, rfl, hBB, hE2⟩
  obtain ⟨oB, cB, rfl⟩ := hBB.form
  refine ⟨_, rfl, ?_⟩
  simp only [Act.put, List.setIfInBounds_toArray, List.set_cons_zero, List.set_cons_succ]
  have HE := hideit (Ext.trans hE1 hE2)
  replace hBA := hBA.ext hE2
  have hcA0 := fun (X : World) (hX : Ext w2 X) => convV _ m0 F X (hBA.ext hX)
  have hcA1 := fun (X : World) (hX : Ext w2 X) => convV _ m1 F X (hBB.ext hX)
  obtain ⟨St0, hSt0⟩ : ∃ St, St = bstr m0 (fun j => ((F j).toNat : Int)) := ⟨_, rfl⟩
  obtain ⟨St1, hSt1⟩ : ∃ St, St = bstr m1 (fun j => ((F j).toNat : Int)) := ⟨_, rfl⟩
  rw [← hSt0] at hcA0
  rw [← hSt1] at hcA1
  have hcapA := hideit (cap_of hBA)
  replace hSt0 := hideit hSt0
  replace hSt1 := hideit hSt1
  replace hBA := hideit hBA
  replace hBB := hideit hBB
  clear hE1 hE2 hd0 hd1
  refine wpList_run rfl (.slice oA m0 cA) (by simp [go_sem]) ?_
  simp only [Act.put, List.setIfInBounds_toArray, List.set_cons_zero, List.set_cons_succ]
  refine wpList_run rfl (.slice oB m1 cB) (by simp [go_sem]) ?_
  simp only [Act.put, List.setIfInBounds_toArray, List.set_cons_zero, List.set_cons_succ]
  go_upto_region 2 with (fail)
  refine wp_region_any (by kernel_rfl) ?_
  refine wpAny_row _ 22 19 [0, 1, 2] [_, _, _] (by decide +kernel) (by decide +kernel) (by decide +kernel) (by decide +kernel) (by decide +kernel) (by decide) rfl (by decide +kernel) (by decide +kernel) (by decide +kernel) (by decide +kernel) ?_
  intro x1 hx1
  simp only [List.getElem_toArray, List.getElem_cons_zero, List.getElem_cons_succ]
  have HL1 := hideit (Ext.trans (Below.refl _ _).drew hx1)
  refine wpList_call rfl (by simp [go_sem]) ((lives_any x1 (hC.out.ext (Ext.trans HE.out HL1.out))).mono ?_)
  rintro e w2 ⟨rfl, hw2⟩
  refine ⟨_, rfl, ?_⟩
  simp only [Act.put, List.setIfInBounds_toArray, List.set_cons_zero, List.set_cons_succ]
  have HX := hideit (Ext.trans HE.out (Ext.trans HL1.out hw2))
  have HY := hideit (Ext.trans HL1.out hw2)
  clear hx1 hw2 HL1
  refine wpList_run rfl (.bool false) (by simp [go_sem]) ?_
  simp only [Act.put, List.setIfInBounds_toArray, List.set_cons_zero, List.set_cons_succ]
  refine wpList_run rfl (.bool false) (by simp [go_sem]) ?_
  simp only [Act.put, List.setIfInBounds_toArray, List.set_cons_zero, List.set_cons_succ]
  refine wpList_go ?_
  refine wpAny_pures (by kernel_rfl) (fun _ _ _ _ _ h => h) [3, 5, 6, 7] [_, _, _, _] _ _ 15 rfl (by decide +kernel) ?_
  simp only [List.getElem_toArray, List.getElem_cons_zero, List.getElem_cons_succ]
  refine wpPure_one (.slice oA m0 cA) rfl (fun X => by simp [go_sem]) ?_
  simp only [Act.put, List.setIfInBounds_toArray, List.set_cons_zero, List.set_cons_succ]
  refine wpPure_one (.slice o0 l0 c0) rfl (fun X => by simp [go_sem]) ?_
  simp only [Act.put, List.setIfInBounds_toArray, List.set_cons_zero, List.set_cons_succ]
  refine wpPure_one (.string s) rfl (fun X => by simp [go_sem]) ?_
  simp only [Act.put, List.setIfInBounds_toArray, List.set_cons_zero, List.set_cons_succ]
  refine wpPure_one (.int .i64 z0) rfl (fun X => by simp [go_sem]) ?_
  simp only [Act.put, List.setIfInBounds_toArray, List.set_cons_zero, List.set_cons_succ]
  refine wpPure_nil ?_
  refine wpAny_keg _ 15 9 (fun _ => ⟨fun v => ∃ oa cp, v = .slice oa m0 cp, fun v X => BV v m0 F X, fun _ => none⟩) (fun _ => .string St0) (fun _ _ _ _ hh hk => BV.ext hh hk) (fun _ _ => ⟨.slice none m0 0, ⟨none, 0, rfl⟩, fun _ hb => by cases hb⟩) [4] [8] [9] [10, 11, 12] [_] [_, _, _] (by decide +kernel) (by decide +kernel) (by decide +kernel) (by decide +kernel) (by decide +kernel) (by decide) rfl rfl (by decide +kernel) (by decide +kernel) (by decide +kernel) (by decide +kernel) (by decide +kernel) (by decide +kernel) (by decide +kernel) (by decide +kernel) (by decide +kernel) (by decide +kernel) (by decide +kernel) ?_
  simp only [List.getElem_toArray, List.getElem_cons_zero, List.getElem_cons_succ]
  refine ⟨.string St0, .inl ⟨rfl, fun X hX => by simp [go_sem, strongUpon, hcA0 X (Ext.trans HY.out hX)]⟩, ?_⟩
  simp only [Act.put, List.setIfInBounds_toArray, List.set_cons_zero, List.set_cons_succ]
  refine wpStrong_nil ?_
  refine wpK_one _ rfl (MkY.call 16 #[.slice o0 l0 c0, .string s, .int .i64 z0] rfl (fun X => by simp [go_sem]) (fun X hX => (hrd0.out X (Ext.trans HX.out hX)).mono ?_)) ?_
  · rintro e w' ⟨u, he, hB, hE⟩
    exact ⟨u, he, hB.form, fun _ hb => (by cases hb), hB, hE⟩
  rintro _ ⟨oa0, cp0, rfl⟩ _
  simp only [List.getElem_toArray, List.getElem_cons_zero, List.getElem_cons_succ, Act.put, List.setIfInBounds_toArray, List.set_cons_zero, List.set_cons_succ]
  refine wpK_nil ?_
  refine wpT_one _ rfl (StrongT.run rfl (fun X hX hH => ?_)) ?_
  · have hc := convV _ m0 F X (hH (.slice oa0 m0 cp0, 8) (by simp)).1
    rw [← hSt0.out] at hc
    simp [go_sem, hc]
  simp only [List.getElem_toArray, List.getElem_cons_zero, List.getElem_cons_succ, Act.put, List.setIfInBounds_toArray, List.set_cons_zero, List.set_cons_succ]
  refine wpT_nil ?_
  intro w3 hw3 _
  have HX3 := hideit (Ext.trans HX.out hw3)
  have HY3 := hideit (Ext.trans HY.out hw3)
  clear hw3 HX HY
  refine wpList_runW rfl (.bool false) (by simp [go_sem]) ?_
  simp only [Act.put, List.setIfInBounds_toArray, List.set_cons_zero, List.set_cons_succ]
  refine wpList_run rfl (.bool false) (by simp [go_sem]) ?_
  simp only [Act.put, List.setIfInBounds_toArray, List.set_cons_zero, List.set_cons_succ]
  refine wpList_run rfl (.bool false) (by simp [go_sem]) ?_
  simp only [Act.put, List.setIfInBounds_toArray, List.set_cons_zero, List.set_cons_succ]
  refine wpList_go ?_
  have HX := HX3
  have HY := HY3
  clear HX3 HY3
  refine wpAny_pures (by kernel_rfl) (fun _ _ _ _ _ h => h) [13, 15, 16, 17] [_, _, _, _] _ _ 5 rfl (by decide +kernel) ?_
  simp only [List.getElem_toArray, List.getElem_cons_zero, List.getElem_cons_succ]
  refine wpPure_one (.slice oB m1 cB) rfl (fun X => by simp [go_sem]) ?_
  simp only [Act.put, List.setIfInBounds_toArray, List.set_cons_zero, List.set_cons_succ]
  refine wpPure_one (.slice o0 l0 c0) rfl (fun X => by simp [go_sem]) ?_
  simp only [Act.put, List.setIfInBounds_toArray, List.set_cons_zero, List.set_cons_succ]
  refine wpPure_one (.string s) rfl (fun X => by simp [go_sem]) ?_
  simp only [Act.put, List.setIfInBounds_toArray, List.set_cons_zero, List.set_cons_succ]
  refine wpPure_one (.int .i64 z1) rfl (fun X => by simp [go_sem]) ?_
  simp only [Act.put, List.setIfInBounds_toArray, List.set_cons_zero, List.set_cons_succ]
  refine wpPure_nil ?_
  refine wpAny_keg _ 5 0 (fun _ => ⟨fun v => ∃ oa cp, v = .slice oa m1 cp, fun v X => BV v m1 F X, fun _ => none⟩) (fun _ => .string St1) (fun _ _ _ _ hh hk => BV.ext hh hk) (fun _ _ => ⟨.slice none m1 0, ⟨none, 0, rfl⟩, fun _ hb => by cases hb⟩) [14] [18] [19] [20, 21] [_] [_, _] (by decide +kernel) (by decide +kernel) (by decide +kernel) (by decide +kernel) (by decide +kernel) (by decide) rfl rfl (by decide +kernel) (by decide +kernel) (by decide +kernel) (by decide +kernel) (by decide +kernel) (by decide +kernel) (by decide +kernel) (by decide +kernel) (by decide +kernel) (by decide +kernel) (by decide +kernel) ?_
  simp only [List.getElem_toArray, List.getElem_cons_zero, List.getElem_cons_succ]
  refine ⟨.string St1, .inl ⟨rfl, fun X hX => by simp [go_sem, strongUpon, hcA1 X (Ext.trans HY.out hX)]⟩, ?_⟩
  simp only [Act.put, List.setIfInBounds_toArray, List.set_cons_zero, List.set_cons_succ]
  refine wpStrong_nil ?_
  refine wpK_one _ rfl (MkY.call 16 #[.slice o0 l0 c0, .string s, .int .i64 z1] rfl (fun X => by simp [go_sem]) (fun X hX => (hrd1.out X (Ext.trans HX.out hX)).mono ?_)) ?_
  · rintro e w' ⟨u, he, hB, hE⟩
    exact ⟨u, he, hB.form, fun _ hb => (by cases hb), hB, hE⟩
  rintro _ ⟨oa1, cp1, rfl⟩ _
  simp only [List.getElem_toArray, List.getElem_cons_zero, List.getElem_cons_succ, Act.put, List.setIfInBounds_toArray, List.set_cons_zero, List.set_cons_succ]
  refine wpK_nil ?_
  refine wpT_one _ rfl (StrongT.run rfl (fun X hX hH => ?_)) ?_
  · have hc := convV _ m1 F X (hH (.slice oa1 m1 cp1, 18) (by simp)).1
    rw [← hSt1.out] at hc
    simp [go_sem, hc]
  simp only [List.getElem_toArray, List.getElem_cons_zero, List.getElem_cons_succ, Act.put, List.setIfInBounds_toArray, List.set_cons_zero, List.set_cons_succ]
  refine wpT_nil ?_
  intro w3 hw3 _
  have HX3 := hideit (Ext.trans HX.out hw3)
  have HY3 := hideit (Ext.trans HY.out hw3)
  clear hw3 HX HY
  refine wpList_runW rfl (.bool false) (by simp [go_sem]) ?_
  simp only [Act.put, List.setIfInBounds_toArray, List.set_cons_zero, List.set_cons_succ]
  refine wpList_run rfl (.bool false) (by simp [go_sem]) ?_
  simp only [Act.put, List.setIfInBounds_toArray, List.set_cons_zero, List.set_cons_succ]
  refine wpList_go ?_
  have HX := HX3
  have HY := HY3
  clear HX3 HY3
  refine wpAny_done (by decide +kernel) ?_
  go_upto_region 4 with (fail)
  refine wp_region_any (by kernel_rfl) ?_
  refine wpAny_seg _ 16 10 (fun _ => ⟨fun _ => undef, fun _ _ => True⟩) (fun _ => undef) (fun _ _ _ _ _ _ => trivial) [0, 1, 2, 3] [] [] [4, 5] [_, _, _, _] [_, _] (by decide +kernel) (by decide +kernel) (by decide +kernel) (by decide +kernel) (by decide +kernel) (by decide) rfl rfl (by decide +kernel) (by decide +kernel) (by decide +kernel) (by decide +kernel) (by decide +kernel) (by decide +kernel) (by decide +kernel) (by decide +kernel) (by decide +kernel) (by decide +kernel) (by decide +kernel) ?_
  simp only [List.getElem_toArray, List.getElem_cons_zero, List.getElem_cons_succ]
  refine ⟨.slice oB m1 cB, .inl ⟨rfl, fun X hX => by simp [go_sem, strongUpon]⟩, ?_⟩
  simp only [Act.put, List.setIfInBounds_toArray, List.set_cons_zero, List.set_cons_succ]
  refine ⟨.int .i64 (m1 : Int), .inl ⟨rfl, fun X hX => by simp [go_sem, strongUpon]⟩, ?_⟩
  simp only [Act.put, List.setIfInBounds_toArray, List.set_cons_zero, List.set_cons_succ]
  refine ⟨.slice oA m0 cA, .inl ⟨rfl, fun X hX => by simp [go_sem, strongUpon]⟩, ?_⟩
  simp only [Act.put, List.setIfInBounds_toArray, List.set_cons_zero, List.set_cons_succ]
  refine ⟨.int .i64 (m0 : Int), .inl ⟨rfl, fun X hX => by simp [go_sem, strongUpon]⟩, ?_⟩
  simp only [Act.put, List.setIfInBounds_toArray, List.set_cons_zero, List.set_cons_succ]
  refine wpStrong_nil ?_
  refine wpN_nil ?_
  refine wpT_nil ?_
  intro w4 hw4 _
  have HX4 := hideit (Ext.trans HX.out (Ext.trans (Below.refl _ _).drew hw4))
  have HY4 := hideit (Ext.trans HY.out (Ext.trans (Below.refl _ _).drew hw4))
  clear hw4
  by_cases hlt : m0 < m1
  · have j1 : (m0 : Int) < (m1 : Int) := by omega
    refine wpList_run rfl (.bool true) (by simp [go_sem, j1]) ?_
    simp only [Act.put, List.setIfInBounds_toArray, List.set_cons_zero, List.set_cons_succ]
    refine wpList_run rfl (.bool true) (by simp [go_sem]) ?_
    simp only [Act.put, List.setIfInBounds_toArray, List.set_cons_zero, List.set_cons_succ]
    refine wpList_go ?_
    refine wpAny_seg _ 10 0 (fun _ => ⟨fun _ => undef, fun _ _ => True⟩) (fun _ => undef) (fun _ _ _ _ _ _ => trivial) [6, 7, 8, 9, 10, 11, 12] [] [] [13, 14, 15] [_, _, _, _, _, _, _] [_, _, _] (by decide +kernel) (by decide +kernel) (by decide +kernel) (by decide +kernel) (by decide +kernel) (by decide) rfl rfl (by decide +kernel) (by decide +kernel) (by decide +kernel) (by decide +kernel) (by decide +kernel) (by decide +kernel) (by decide +kernel) (by decide +kernel) (by decide +kernel) (by decide +kernel) (by decide +kernel) ?_
    simp only [List.getElem_toArray, List.getElem_cons_zero, List.getElem_cons_succ]
    refine ⟨undef, .inr ⟨rfl, rfl⟩, ?_⟩
    simp only [Act.put, List.setIfInBounds_toArray, List.set_cons_zero, List.set_cons_succ]
    refine ⟨undef, .inr ⟨rfl, rfl⟩, ?_⟩
    simp only [Act.put, List.setIfInBounds_toArray, List.set_cons_zero, List.set_cons_succ]
    refine ⟨undef, .inr ⟨rfl, rfl⟩, ?_⟩
    simp only [Act.put, List.setIfInBounds_toArray, List.set_cons_zero, List.set_cons_succ]
    refine ⟨undef, .inr ⟨rfl, rfl⟩, ?_⟩
    simp only [Act.put, List.setIfInBounds_toArray, List.set_cons_zero, List.set_cons_succ]
    refine ⟨undef, .inr ⟨rfl, rfl⟩, ?_⟩
    simp only [Act.put, List.setIfInBounds_toArray, List.set_cons_zero, List.set_cons_succ]
    refine ⟨undef, .inr ⟨rfl, rfl⟩, ?_⟩
    simp only [Act.put, List.setIfInBounds_toArray, List.set_cons_zero, List.set_cons_succ]
    refine ⟨undef, .inr ⟨rfl, rfl⟩, ?_⟩
    simp only [Act.put, List.setIfInBounds_toArray, List.set_cons_zero, List.set_cons_succ]
    refine wpStrong_nil ?_
    refine wpN_nil ?_
    refine wpT_nil ?_
    intro w5 hw5 _
    have HX5 := hideit (Ext.trans HX4.out hw5)
    refine wpList_not rfl ?_
    simp only [Act.put, List.setIfInBounds_toArray, List.set_cons_zero, List.set_cons_succ]
    refine wpList_run rfl (.bool true) (by simp [go_sem]) ?_
    simp only [Act.put, List.setIfInBounds_toArray, List.set_cons_zero, List.set_cons_succ]
    refine wpList_run rfl (.bool true) (by simp [go_sem]) ?_
    simp only [Act.put, List.setIfInBounds_toArray, List.set_cons_zero, List.set_cons_succ]
    refine wpList_go ?_
    refine wpAny_done (by decide +kernel) ?_
    go_wp2
    go_ret
    exact ⟨rfl, HX5.out⟩
  · have j1 : ¬ (m0 : Int) < (m1 : Int) := by omega
    refine wpList_run rfl (.bool false) (by simp [go_sem, j1]) ?_
    simp only [Act.put, List.setIfInBounds_toArray, List.set_cons_zero, List.set_cons_succ]
    refine wpList_run rfl (.bool false) (by simp [go_sem]) ?_
    simp only [Act.put, List.setIfInBounds_toArray, List.set_cons_zero, List.set_cons_succ]
    refine wpList_go ?_
    refine wpAny_seg _ 10 0 (fun _ => ⟨fun _ => undef, fun _ _ => True⟩) (fun _ => undef) (fun _ _ _ _ _ _ => trivial) [6, 7, 8, 9, 10, 11, 12] [] [] [13, 14, 15] [_, _, _, _, _, _, _] [_, _, _] (by decide +kernel) (by decide +kernel) (by decide +kernel) (by decide +kernel) (by decide +kernel) (by decide) rfl rfl (by decide +kernel) (by decide +kernel) (by decide +kernel) (by decide +kernel) (by decide +kernel) (by decide +kernel) (by decide +kernel) (by decide +kernel) (by decide +kernel) (by decide +kernel) (by decide +kernel) ?_
    simp only [List.getElem_toArray, List.getElem_cons_zero, List.getElem_cons_succ]
    have hcut : ∀ X : World, (Instr.sliceAt 22 (.slice oA m0 cA) none (some (.int .i64 (m1 : Int))) none).run Tryd.prog X = .ok (.slice oA m1 cA) X := fun X => by
      have k1 : (m1 : Int) ≤ (cA : Int) := by have := hcapA.out; omega
      have k2 : (0 : Int) ≤ (m1 : Int) := by omega
      simp [go_sem, k1, k2]
    have hBt : Hid (∀ X, Ext w4 X → (convert 22 9 (.slice oA m1 cA)).run Tryd.prog X = .ok (.string St1) X) := fun X hX => by
      have := convV _ m1 F X ((hBA.out.take m1 (by omega)).ext (Ext.trans HY4.out hX))
      rwa [← hSt1.out] at this
    have hBt2 := fun (X : World) (hX : Ext w4 X) => hBt.out X hX
    have hcB2 := fun (X : World) (hX : Ext w4 X) => hcA1 X (Ext.trans HY4.out hX)
    refine ⟨.slice oA m0 cA, .inl ⟨rfl, fun X hX => by simp [go_sem, strongUpon]⟩, ?_⟩
    simp only [Act.put, List.setIfInBounds_toArray, List.set_cons_zero, List.set_cons_succ]
    refine ⟨.slice oB m1 cB, .inl ⟨rfl, fun X hX => by simp [go_sem, strongUpon]⟩, ?_⟩
    simp only [Act.put, List.setIfInBounds_toArray, List.set_cons_zero, List.set_cons_succ]
    refine ⟨.int .i64 (m1 : Int), .inl ⟨rfl, fun X hX => by simp [go_sem, strongUpon]⟩, ?_⟩
    simp only [Act.put, List.setIfInBounds_toArray, List.set_cons_zero, List.set_cons_succ]
    refine ⟨.slice oA m1 cA, .inl ⟨rfl, fun X hX => by simp [go_sem, strongUpon, hcut]⟩, ?_⟩
    simp only [Act.put, List.setIfInBounds_toArray, List.set_cons_zero, List.set_cons_succ]
    refine ⟨.string St1, .inl ⟨rfl, fun X hX => by simp [go_sem, strongUpon, hBt2 X hX]⟩, ?_⟩
    simp only [Act.put, List.setIfInBounds_toArray, List.set_cons_zero, List.set_cons_succ]
    refine ⟨.slice oB m1 cB, .inl ⟨rfl, fun X hX => by simp [go_sem, strongUpon]⟩, ?_⟩
    simp only [Act.put, List.setIfInBounds_toArray, List.set_cons_zero, List.set_cons_succ]
    refine ⟨.string St1, .inl ⟨rfl, fun X hX => by simp [go_sem, strongUpon, hcB2 X hX]⟩, ?_⟩
    simp only [Act.put, List.setIfInBounds_toArray, List.set_cons_zero, List.set_cons_succ]
    refine wpStrong_nil ?_
    refine wpN_nil ?_
    refine wpT_nil ?_
    intro w5 hw5 _
    have HX5 := hideit (Ext.trans HX4.out hw5)
    refine wpList_runW rfl (.bool true) (by simp [go_sem]) ?_
    simp only [Act.put, List.setIfInBounds_toArray, List.set_cons_zero, List.set_cons_succ]
    refine wpList_run rfl (.bool true) (by simp [go_sem]) ?_
    simp only [Act.put, List.setIfInBounds_toArray, List.set_cons_zero, List.set_cons_succ]
    refine wpList_run rfl (.bool true) (by simp [go_sem]) ?_
    simp only [Act.put, List.setIfInBounds_toArray, List.set_cons_zero, List.set_cons_succ]
    refine wpList_go ?_
    refine wpAny_done (by decide +kernel) ?_
    go_wp2
    go_ret
    exact ⟨rfl, HX5.out⟩

theorem contract (H : Type) (enc : TypeId × Value → H) (W : World) (base : Nat) (args : Array Value) (ds gs : List (DataW H)) (before : List MemPlace)
    (hval0 : ∀ (j : Nat) t v, Tryd.f5.params[j]? = some t → args[j]? = some v → Value.okWide Tryd.prog W .any base t v)
    (hW : DataW.Whole enc Tryd.prog Tryd.f5.params.toList Rows.hmacDerivesSpec.vars false W args.toList ds gs before) (hL : laidMetH Tryd.prog Rows.hmacDerivesRow.laid W) (hsz0 : (DataW.weightsEach Tryd.prog (Tryd.f5.params.toList ++ []) (ds ++ gs)).all (· ≤ reachBytes) = true) :
    Calls Tryd.prog 5 args W fun e W' => ∃ v, e = .returned v ∧ Rows.hmacDerivesSpec.post enc Tryd.prog Tryd.f5 false true false false W args v W' := by
  have hval := hval0
  have hsz := hsz0
  have hW' := hW
  obtain ⟨p, q, hA0, hV, rfl, hfz, hnd⟩ := hW
  have hA : DataW.TrodAll enc Tryd.prog W 0 (fun _ => true) true Tryd.f5.params.toList args.toList ds p := hA0
  rw [Tryd.params5] at hA hval hsz
  obtain ⟨v0, vs0, d0, ds0, p0, q0, hargs, rfl, rfl, h0, r0⟩ := trodAll_cons hA
  obtain ⟨v1, vs1, d1, ds1, p1, q1, rfl, rfl, rfl, h1, r1⟩ := trodAll_cons r0
  obtain ⟨v2, vs2, d2, ds2, p2, q2, rfl, rfl, rfl, h2, r2⟩ := trodAll_cons r1
  obtain ⟨v3, vs3, d3, ds3, p3, q3, rfl, rfl, rfl, h3, r3⟩ := trodAll_cons r2
  obtain ⟨rfl, rfl, rfl⟩ := trodAll_nil r3
  obtain rfl : args = #[v0, v1, v2, v3] := by cases args; simp_all
  obtain ⟨rfl, rfl⟩ := trodVars_none hV
  have h0s : 0 < W.heap.size := by
    have hc := (table hL).cell gTab 0 (by decide)
    rcases Nat.lt_or_ge 0 W.heap.size with h | h
    · exact h
    · exfalso
      have : W.heap[0]? = none := Array.getElem?_eq_none h
      simp [World.cell?, this] at hc
  have hC : TabC W := tabC hL h0s
  have k0 := h0
  have lt0 : ∀ x ∈ p0, x.block < W.heap.size := by obtain ⟨m, hm⟩ := k0; exact DataW.trod_lt m _ _ _ hm
  have k1 := h1
  have lt1 : ∀ x ∈ p1, x.block < W.heap.size := by obtain ⟨m, hm⟩ := k1; exact DataW.trod_lt m _ _ _ hm
  have k2 := h2
  have lt2 : ∀ x ∈ p2, x.block < W.heap.size := by obtain ⟨m, hm⟩ := k2; exact DataW.trod_lt m _ _ _ hm
  have k3 := h3
  have lt3 : ∀ x ∈ p3, x.block < W.heap.size := by obtain ⟨m, hm⟩ := k3; exact DataW.trod_lt m _ _ _ hm
  have B0 := barg (hval 0 22 v0 rfl rfl) h0 hsz 0 rfl rfl
  obtain ⟨s1, rfl, rfl, rfl, _⟩ := Go.ChangeMaps.open_string Tryd.underlying9 (hval 1 9 v1 rfl rfl) h1
  have hs1 := sized_string hsz (j := 1) rfl rfl
  obtain ⟨a2, rfl, rfl, rfl, w2⟩ := open_int Tryd.underlying3 (hval 2 3 v2 rfl rfl) h2
  obtain ⟨a3, rfl, rfl, rfl, w3⟩ := open_int Tryd.underlying3 (hval 3 3 v3 rfl rfl) h3
  clear hA0 hval0
  refine (walk v0 s1 hs1 a2 w2 a3 w3 W B0 hC).mono fun e W' ⟨he, bel⟩ => ?_
  subst he
  exact ⟨_, rfl, _, _, _, [], _, [], hW', trodAll_mk1 (shut_bool Tryd.underlying4 _), (trodAll_cons_mk (Below.trod laidOut (by kernel_rfl) (of_decide_eq_true (by kernel_rfl)) k0 bel lt0) (trodAll_cons_mk (Below.trod laidOut (by kernel_rfl) (of_decide_eq_true (by kernel_rfl)) k1 bel lt1) (trodAll_cons_mk (Below.trod laidOut (by kernel_rfl) (of_decide_eq_true (by kernel_rfl)) k2 bel lt2) (trodAll_cons_mk (Below.trod laidOut (by kernel_rfl) (of_decide_eq_true (by kernel_rfl)) k3 bel lt3) trodAll_mk0)))), rfl, bel.frame _, fun h => by cases h⟩

def wit : Array Value := #[.slice none 0 0, .string ⟨#[]⟩, .int .i64 0, .int .i64 0]
def dat {H : Type} : List (DataW H) := [.nil, .lit (.string []), .lit (.int .i64 0), .lit (.int .i64 0)]
def setTab : Obj → Obj
  | .cells _ t frozen => .cells (tabL.map fun z => Value.int .u32 z).toArray t frozen
  | o => o
theorem laid_met (os : Os) : laidMet Tryd.prog Rows.hmacDerivesRow.laid (({ World.holding Tryd.prog os ⟨#[], #[], []⟩ with heap := (World.holding Tryd.prog os ⟨#[], #[], []⟩).heap.modify 0 setTab } : World).forCall (fun _ _ => 0) ⟨#[], wit, []⟩).memory :=
  laidMet_of_run' 8 (by kernel_rfl) (by kernel_rfl)
theorem reads (os : Os) {H : Type} (enc : TypeId × Value → H) : ∃ places, DataW.whole enc Tryd.prog (({ World.holding Tryd.prog os ⟨#[], #[], []⟩ with heap := (World.holding Tryd.prog os ⟨#[], #[], []⟩).heap.modify 0 setTab } : World).forCall (fun _ _ => 0) ⟨#[], wit, []⟩).memory Tryd.f5.params.toList Rows.hmacDerivesSpec.vars false wit.toList 8 = some (dat, [], places) :=
  ⟨[], by kernel_rfl⟩

set_option maxRecDepth 100000 in
theorem lifted (os : Os) (started : os.Started) (H : Type) (enc : TypeId × Value → H) (F : Stop.Interp) :
    ReturnsInHanded {} Tryd.checked os 5 .any ((OpenSpec.ofChange Rows.hmacDerivesSpec).preRow enc Tryd.prog Tryd.f5 Rows.hmacDerivesRow.domain false Rows.hmacDerivesRow.laid) (((OpenSpec.ofChange Rows.hmacDerivesSpec).at F).post enc Tryd.prog Tryd.f5 false true false false) := by
  obtain ⟨places, hx⟩ := reads os enc
  refine returnsInHanded_of_row (C := Tryd.checked) (s := (OpenSpec.ofChange Rows.hmacDerivesSpec)) own started (by kernel_rfl) Tryd.func5
    (witness_row_at (enc := enc) (C := Tryd.checked) false ({ World.holding Tryd.prog os ⟨#[], #[], []⟩ with heap := (World.holding Tryd.prog os ⟨#[], #[], []⟩).heap.modify 0 setTab } : World) wit rfl (by kernel_rfl) (by kernel_rfl) (by kernel_rfl)
      (OpenSpec.preRow_of_cond 8 hx (by kernel_rfl) (fun k hk => by cases hk) (by kernel_rfl) (laid_met os))) ?_
  intro W base args ds gs before hval hW _ hcond hsz hL _ _
  exact contract H enc W base args ds gs before hval hW hL hsz

theorem said : Rows.HmacDerivesSaid :=
  OpenClaim.holds_of_cond 5 Tryd.f5 rfl rfl rfl rfl rfl rfl rfl ⟨rfl, rfl, rfl, rfl, rfl⟩ rfl rfl rfl rfl rfl (by kernel_rfl) Tryd.func5 (by kernel_rfl)
    (of_decide_eq_true (by kernel_rfl)) (by unfold Func.isWrapper; first | (rw [if_pos (by decide +kernel)]; kernel_rfl) | (rw [if_neg (by decide +kernel)]; exact ⟨rfl, rfl⟩))
    (fun os started H enc _ F => by rw [OpenClaim.pre_eq_preRow]; exact lifted os started H enc F)

theorem plain (f : FuncId) (fn : Func) (hf : Tryd.pinned.checked.prog.funcNamed "casket/casketlaw05.HmacDerives" = some f) (hfn : Tryd.pinned.checked.prog.funcs[f]? = some fn) :
    false = Tryd.pinned.checked.prog.looks [] ∧ ∀ (j : Nat) t, fn.params[j]? = some t → Tryd.pinned.checked.prog.wantsStandIn t = false := by
  obtain rfl : f = 5 := Option.some.inj ((show Tryd.prog.funcNamed "casket/casketlaw05.HmacDerives" = some 5 by kernel_rfl).symm.trans hf) |>.symm
  obtain rfl : fn = Tryd.f5 := (Option.some.inj (Tryd.func5.symm.trans hfn)).symm
  refine ⟨by kernel_rfl, fun j t ht => ?_⟩
  rw [Tryd.params5] at ht
  have hm : t ∈ [22, 9, 3, 3] := by simpa using Array.mem_of_getElem? ht
  have hall : ([22, 9, 3, 3].all fun u => !Tryd.prog.wantsStandIn u) = true := by kernel_rfl
  exact (show Tryd.prog.wantsStandIn t = false by simpa using List.all_eq_true.1 hall t hm)

theorem card : Rows.HmacDerivesCardSaid :=
  Claim7.holds_tied_plain_at .later [] _ _ _ _ said (fun _ h => by cases h) (by kernel_rfl) (fun _ h => by cases h) hmacDerives_row_tie rfl ⟨rfl, rfl⟩ (by kernel_rfl) rfl plain (by kernel_rfl)
end Go.Proofs.YthgflnjeojhgkaaDoor.hmacDerives
namespace Go.Proofs.YthgflnjeojhgkaaDoor
theorem hmacDerives_holds : Rows.HmacDerivesCardSaid := hmacDerives.card
end Go.Proofs.YthgflnjeojhgkaaDoor
