/-
  For every two slices of bytes the law HmacEqual returns true, and its arguments read behind the call as they read before; the package-level table of constants is as the program lays it.
-/
import Derived.Test.YthgflnjeojhgkaaDoorCards
import Derived.Test.YthgflnjeojhgkaaDoorTie
import Derived.WalkKit
import Derived.ProofKit
import Derived.OpenShut
import Derived.ShutString
import Derived.ChangeOld
import Derived.Below
import Derived.Deep.DeepHandedRow
import Derived.Lib.LaidTab
import Derived.Test.YthgflnjeojhgkaaDoorHLives
import Derived.Test.YthgflnjeojhgkaaDoorSeg
import Derived.Laws.Strings
namespace Go.Proofs.YthgflnjeojhgkaaDoor.hmacEqual
open Go.ChangeShapes Go.WideShapes Go.ChangeAt Go.RowKit
set_option linter.unusedVariables false

theorem own : ownKnob Tryd.prog.godebug = none := by kernel_rfl
theorem laidOut : laidOutB Tryd.prog = true := by kernel_rfl
theorem gTab : Tryd.prog.globalNamed "casket/sha.constants" = some 0 := by kernel_rfl
theorem gTabType : (Tryd.prog.globals[0]?).map (·.type) = some 62 := by kernel_rfl
theorem cellsG : Tryd.prog.cellsOf 62 = 64 := by kernel_rfl
theorem cellsE : Tryd.prog.cellsOf 51 = 1 := by kernel_rfl
def tabL : List Int := [1116352408, 1899447441, 3049323471, 3921009573, 961987163, 1508970993, 2453635748, 2870763221, 3624381080, 310598401, 607225278, 1426881987, 1925078388, 2162078206, 2614888103, 3248222580, 3835390401, 4022224774, 264347078, 604807628, 770255983, 1249150122, 1555081692, 1996064986, 2554220882, 2821834349, 2952996808, 3210313671, 3336571891, 3584528711, 113926993, 338241895, 666307205, 773529912, 1294757372, 1396182291, 1695183700, 1986661051, 2177026350, 2456956037, 2730485921, 2820302411, 3259730800, 3345764771, 3516065817, 3600352804, 4094571909, 275423344, 430227734, 506948616, 659060556, 883997877, 958139571, 1322822218, 1537002063, 1747873779, 1955562222, 2024104815, 2227730452, 2361852424, 2428436474, 2756734187, 3204031479, 3329325298]
theorem table {W : World} (h : laidMetH Tryd.prog Rows.hmacEqualRow.laid W) : Lib.TabIs Tryd.prog W "casket/sha.constants" .u32 tabL :=
  Lib.tabIs_of_head (rest := []) gTab gTabType Tryd.underlying62 Tryd.underlying51 cellsE cellsG h
theorem tab_kT : ∀ j, j < 64 → tabL.getD j 0 = ((kT j).toNat : Int) := by decide +kernel
theorem tabC {W : World} (h : laidMetH Tryd.prog Rows.hmacEqualRow.laid W) (h0 : 0 < W.heap.size) : TabC W :=
  ⟨fun j hj => by
    rw [← tab_kT j hj]
    exact (table h).cell gTab j hj, h0⟩

open Go.BigFrame
theorem bstr_data (l : Nat) (b : Nat → BitVec 8) : (bstr l fun j => ((b j).toNat : Int)).data = ((List.range l).map fun j => UInt8.ofNat (b j).toNat).toArray := by
  have h : ∀ (z : List Nat) (r : ByteArray), ((z.map fun j => ((b j).toNat : Int)).foldl (fun r n => r.push (UInt8.ofNat n.toNat)) r).data = r.data ++ (z.map fun j => UInt8.ofNat (b j).toNat).toArray := by
    intro z
    induction z with
    | nil => intro r; simp
    | cons x z ih => intro r; simp only [List.map_cons, List.foldl_cons, ih]; simp [ByteArray.push]
  unfold bstr
  rw [h]
  simp
theorem bstr_iff (l0 l1 : Nat) (b0 b1 : Nat → BitVec 8) : bstr l0 (fun j => ((b0 j).toNat : Int)) = bstr l1 (fun j => ((b1 j).toNat : Int)) ↔ l0 = l1 ∧ ∀ j, j < l0 → b0 j = b1 j := by
  constructor
  · intro h
    have h1 := congrArg ByteArray.data h
    rw [bstr_data, bstr_data] at h1
    have h2 : ((List.range l0).map fun j => UInt8.ofNat (b0 j).toNat) = ((List.range l1).map fun j => UInt8.ofNat (b1 j).toNat) := by simpa using h1
    have h3 : l0 = l1 := by simpa using congrArg List.length h2
    subst h3
    refine ⟨rfl, fun j hj => ?_⟩
    have h4 := congrArg (fun l => l[j]?) h2
    simp only [List.getElem?_map, List.getElem?_range hj, Option.map_some, Option.some.injEq] at h4
    have h5 := congrArg UInt8.toNat h4
    rw [UInt8.toNat_ofNat_of_lt' (b0 j).isLt, UInt8.toNat_ofNat_of_lt' (b1 j).isLt] at h5
    exact BitVec.eq_of_toNat_eq h5
  · rintro ⟨rfl, h⟩
    exact bstr_congr fun j hj => by rw [h j hj]
set_option maxRecDepth 20000 in
set_option maxHeartbeats 4000000 in
theorem walk (v0 v1 : Value) (w : World) (A0 : BArg v0 w) (A1 : BArg v1 w) (hC : TabC w) : Calls Tryd.prog 6 #[v0, v1] w fun e w' => e = .returned (.bool true) ∧ Below w.heap.size w w' := by
  obtain ⟨l0, b0, hB0, hl0⟩ := A0.bv
  obtain ⟨l1, b1, hB1, hl1⟩ := A1.bv
  obtain ⟨o0, c0, rfl⟩ := hB0.form
  obtain ⟨o1, c1, rfl⟩ := hB1.form
  obtain ⟨r, hr⟩ : ∃ r : Bool, (r = true ↔ l0 = l1 ∧ ∀ j, j < l0 → b0 j = b1 j) := ⟨@decide (l0 = l1 ∧ ∀ j, j < l0 → b0 j = b1 j) (Classical.propDecidable _), @decide_eq_true_iff _ (Classical.propDecidable _)⟩
  have heq := hideit (fun (X : World) (hX : Ext w X) => equal_any _ _ l0 l1 b0 b1 X (hB0.ext hX) (hB1.ext hX) hl0 hl1 r hr)
  have hc0 := fun (X : World) (hX : Ext w X) => convV _ l0 b0 X (hB0.ext hX)
  have hc1 := fun (X : World) (hX : Ext w X) => convV _ l1 b1 X (hB1.ext hX)
  have hq : ((bstr l0 (fun j => ((b0 j).toNat : Int))).toList == (bstr l1 (fun j => ((b1 j).toNat : Int))).toList) = r := by
    rw [Bool.eq_iff_iff, beq_iff_eq, ByteArray.toList_eq, ByteArray.toList_eq]
    refine Iff.trans ⟨fun h => (bstr_iff l0 l1 b0 b1).1 ?_, fun h => ?_⟩ hr.symm
    · have h2 : (bstr l0 (fun j => ((b0 j).toNat : Int))).data = (bstr l1 (fun j => ((b1 j).toNat : Int))).data := Array.toList_inj.1 h
      cases hh : bstr l0 (fun j => ((b0 j).toNat : Int))
      cases hh2 : bstr l1 (fun j => ((b1 j).toNat : Int))
      rw [hh, hh2] at h2
      simp only at h2
      rw [h2]
    · rw [(bstr_iff l0 l1 b0 b1).2 h]
  generalize bstr l0 (fun j => ((b0 j).toNat : Int)) = s0 at *
  generalize bstr l1 (fun j => ((b1 j).toNat : Int)) = s1 at *
  replace hC := hideit hC
  replace hB0 := hideit hB0
  replace hB1 := hideit hB1
  clear hr A0 A1
  go_enter Tryd.func6, Tryd.ntmps6
  go_upto_region 1 with (fail)
  refine wp_region_any (by kernel_rfl) ?_
  refine wpAny_row _ 24 22 [0, 1] [_, _] (by decide +kernel) (by decide +kernel) (by decide +kernel) (by decide +kernel) (by decide +kernel) (by decide) rfl (by decide +kernel) (by decide +kernel) (by decide +kernel) (by decide +kernel) ?_
  intro x1 hx1
  simp only [List.getElem_toArray, List.getElem_cons_zero, List.getElem_cons_succ]
  refine wpList_call rfl (by simp [go_sem]) ((lives_any x1 (hC.out.ext (Ext.trans (Below.refl _ _).drew hx1))).mono ?_)
  rintro e w2 ⟨rfl, hw2⟩
  refine ⟨_, rfl, ?_⟩
  simp only [Act.put, List.setIfInBounds_toArray, List.set_cons_zero, List.set_cons_succ]
  have HE2 := hideit (Ext.trans (Ext.trans (Below.refl _ _).drew hx1) hw2)
  clear hx1 hw2
  refine wpList_run rfl (.bool true) (by simp [go_sem]) ?_
  simp only [Act.put, List.setIfInBounds_toArray, List.set_cons_zero, List.set_cons_succ]
  refine wpList_go ?_
  refine wpAny_seg _ 22 11 (fun _ => ⟨fun _ => undef, fun _ _ => True⟩) (fun _ => .bool r) (fun _ _ _ _ _ _ => trivial) [2, 3, 5, 6, 7, 8, 9] [] [4] [10, 11, 12] [_, _, _, _, _, _, _] [_, _, _] (by decide +kernel) (by decide +kernel) (by decide +kernel) (by decide +kernel) (by decide +kernel) (by decide) rfl rfl (by decide +kernel) (by decide +kernel) (by decide +kernel) (by decide +kernel) (by decide +kernel) (by decide +kernel) (by decide +kernel) (by decide +kernel) (by decide +kernel) (by decide +kernel) (by decide +kernel) ?_
  simp only [List.getElem_toArray, List.getElem_cons_zero, List.getElem_cons_succ]
  refine ⟨.slice o0 l0 c0, .inl ⟨rfl, fun X hX => by simp [go_sem, strongUpon]⟩, ?_⟩
  simp only [Act.put, List.setIfInBounds_toArray, List.set_cons_zero, List.set_cons_succ]
  refine ⟨.slice o1 l1 c1, .inl ⟨rfl, fun X hX => by simp [go_sem, strongUpon]⟩, ?_⟩
  simp only [Act.put, List.setIfInBounds_toArray, List.set_cons_zero, List.set_cons_succ]
  refine ⟨.slice o0 l0 c0, .inl ⟨rfl, fun X hX => by simp [go_sem, strongUpon]⟩, ?_⟩
  simp only [Act.put, List.setIfInBounds_toArray, List.set_cons_zero, List.set_cons_succ]
  refine ⟨.string s0, .inl ⟨rfl, fun X hX => by simp [go_sem, strongUpon, hc0 X (Ext.trans HE2.out hX)]⟩, ?_⟩
  simp only [Act.put, List.setIfInBounds_toArray, List.set_cons_zero, List.set_cons_succ]
  refine ⟨.slice o1 l1 c1, .inl ⟨rfl, fun X hX => by simp [go_sem, strongUpon]⟩, ?_⟩
  simp only [Act.put, List.setIfInBounds_toArray, List.set_cons_zero, List.set_cons_succ]
  refine ⟨.string s1, .inl ⟨rfl, fun X hX => by simp [go_sem, strongUpon, hc1 X (Ext.trans HE2.out hX)]⟩, ?_⟩
  simp only [Act.put, List.setIfInBounds_toArray, List.set_cons_zero, List.set_cons_succ]
  refine ⟨.bool r, .inl ⟨rfl, fun X hX => by simp [go_sem, strongUpon, hq]⟩, ?_⟩
  simp only [Act.put, List.setIfInBounds_toArray, List.set_cons_zero, List.set_cons_succ]
  refine wpStrong_nil ?_
  refine wpN_nil ?_
  refine wpT_one _ rfl (StrongT.call rfl (fun X => by simp [go_sem]) (fun X hX _ => (heq.out X (Ext.trans HE2.out hX)).mono fun e w' h => ⟨h.1, by rw [h.2]; exact Below.refl _ _⟩)) ?_
  simp only [List.getElem_toArray, List.getElem_cons_zero, List.getElem_cons_succ, Act.put, List.setIfInBounds_toArray, List.set_cons_zero, List.set_cons_succ]
  refine wpT_nil ?_
  intro w3 hw3 _
  have HE3 := hideit (Ext.trans HE2.out hw3)
  clear hw3 HE2
  refine wpList_runW rfl (.bool true) (by simp [go_sem]) ?_
  simp only [Act.put, List.setIfInBounds_toArray, List.set_cons_zero, List.set_cons_succ]
  refine wpList_run rfl (.bool true) (by simp [go_sem]) ?_
  simp only [Act.put, List.setIfInBounds_toArray, List.set_cons_zero, List.set_cons_succ]
  refine wpList_run rfl (.bool true) (by simp [go_sem]) ?_
  simp only [Act.put, List.setIfInBounds_toArray, List.set_cons_zero, List.set_cons_succ]
  refine wpList_go ?_
  refine wpAny_pures (by kernel_rfl) (fun _ _ _ _ _ h => h) [13, 15] [_, _] _ _ 9 rfl (by decide +kernel) ?_
  simp only [List.getElem_toArray, List.getElem_cons_zero, List.getElem_cons_succ]
  refine wpPure_one (.slice o0 l0 c0) rfl (fun X => by simp [go_sem]) ?_
  simp only [Act.put, List.setIfInBounds_toArray, List.set_cons_zero, List.set_cons_succ]
  refine wpPure_one (.slice o0 l0 c0) rfl (fun X => by simp [go_sem]) ?_
  simp only [Act.put, List.setIfInBounds_toArray, List.set_cons_zero, List.set_cons_succ]
  refine wpPure_nil ?_
  refine wpAny_row _ 9 4 [14, 16, 17, 18, 19] [_, _, _, _, _] (by decide +kernel) (by decide +kernel) (by decide +kernel) (by decide +kernel) (by decide +kernel) (by decide) rfl (by decide +kernel) (by decide +kernel) (by decide +kernel) (by decide +kernel) ?_
  intro x4 hx4
  simp only [List.getElem_toArray, List.getElem_cons_zero, List.getElem_cons_succ]
  have HE4 := hideit (Ext.trans HE3.out hx4)
  clear hx4 HE3
  refine wpList_toW rfl (.slice (some ⟨x4.heap.size, 0, none⟩) 0 0) (x4.alloc (.cells #[] 5)) (by simp [go_sem]) ?_
  simp only [Act.put, List.setIfInBounds_toArray, List.set_cons_zero, List.set_cons_succ]
  have hE5 : Ext x4 (x4.alloc (.cells #[] 5)) := (Below.refl _ _).alloc (Nat.le_refl _) _
  have HO5 := hideit (own_empty x4 x4.heap.size 5 (yv b0) (Nat.le_refl _))
  have HB5 := hideit (hB0.out.ext (Ext.trans HE4.out hE5))
  refine wpList_growVW (n := 0) (base := x4.heap.size) (g := yv b0) elem22 rfl (.tmp 19) (.tmp 20) rfl rfl HO5.out _ l0 b0 (yv b0) rfl HB5.out (fun j hj => rfl) (fun j hj => by rw [Nat.zero_add]) (by omega) (by simp) ?_
  intro v6 w6 hO6 hg6
  rw [Nat.zero_add] at hO6
  have HE6 := hideit (grown_ext (Ext.trans HE4.out hE5) hg6 (fun k hk => Nat.le_trans (Below.size HE4.out) (HO5.out.lt k hk).1))
  have HV6 := hideit (OwnB.bv hO6)
  have hq6 := hideit (equal_any _ v6 l0 l0 b0 b0 w6 (hB0.out.ext HE6.out) HV6.out hl0 hl0 true ⟨fun _ => ⟨rfl, fun _ _ => rfl⟩, fun _ => rfl⟩)
  obtain ⟨o6, c6, rfl⟩ := HV6.out.form
  clear hE5 HO5 HB5 hO6 hg6 HE4
  simp only [Act.put, List.setIfInBounds_toArray, List.set_cons_zero, List.set_cons_succ]
  refine wpList_callW rfl (by simp [go_sem]) (hq6.out.mono ?_)
  rintro e w7 ⟨rfl, hw7⟩
  subst hw7
  refine ⟨_, rfl, ?_⟩
  simp only [Act.put, List.setIfInBounds_toArray, List.set_cons_zero, List.set_cons_succ]
  clear hq6 HV6
  refine wpList_run rfl (.bool true) (by simp [go_sem]) ?_
  simp only [Act.put, List.setIfInBounds_toArray, List.set_cons_zero, List.set_cons_succ]
  refine wpList_run rfl (.bool true) (by simp [go_sem]) ?_
  simp only [Act.put, List.setIfInBounds_toArray, List.set_cons_zero, List.set_cons_succ]
  refine wpList_go ?_
  refine wpAny_row _ 4 0 [20, 21, 22, 23] [_, _, _, _] (by decide +kernel) (by decide +kernel) (by decide +kernel) (by decide +kernel) (by decide +kernel) (by decide) rfl (by decide +kernel) (by decide +kernel) (by decide +kernel) (by decide +kernel) ?_
  intro x8 hx8
  simp only [List.getElem_toArray, List.getElem_cons_zero, List.getElem_cons_succ]
  have HE8 := hideit (Ext.trans HE6.out hx8)
  clear hx8 HE6
  refine wpList_toW rfl (.slice (some ⟨x8.heap.size, 0, none⟩) 0 0) (x8.alloc (.cells #[] 5)) (by simp [go_sem]) ?_
  simp only [Act.put, List.setIfInBounds_toArray, List.set_cons_zero, List.set_cons_succ]
  have hE9 : Ext x8 (x8.alloc (.cells #[] 5)) := (Below.refl _ _).alloc (Nat.le_refl _) _
  have HE9 := hideit (Ext.trans HE8.out hE9)
  have hq9 := hideit (equal_any (.slice none 0 0) (.slice (some ⟨x8.heap.size, 0, none⟩) 0 0) 0 0 (fun _ => 0#8) (fun _ => 0#8) _ (.inl ⟨rfl, rfl⟩) (newB x8 #[] 0 (fun _ => 0#8) (fun j hj => by omega)).1 (by omega) (by omega) true ⟨fun _ => ⟨rfl, fun _ _ => rfl⟩, fun _ => rfl⟩)
  generalize x8.alloc (.cells #[] 5) = w9 at *
  refine wpList_callW rfl (by simp [go_sem]) (hq9.out.mono ?_)
  rintro e w10 ⟨rfl, hw10⟩
  subst hw10
  refine ⟨_, rfl, ?_⟩
  simp only [Act.put, List.setIfInBounds_toArray, List.set_cons_zero, List.set_cons_succ]
  clear hq9 hE9 HE8
  refine wpList_run rfl (.bool true) (by simp [go_sem]) ?_
  simp only [Act.put, List.setIfInBounds_toArray, List.set_cons_zero, List.set_cons_succ]
  refine wpList_run rfl (.bool true) (by simp [go_sem]) ?_
  simp only [Act.put, List.setIfInBounds_toArray, List.set_cons_zero, List.set_cons_succ]
  refine wpList_go ?_
  refine wpAny_done (by decide +kernel) ?_
  go_wp2
  go_ret
  exact ⟨rfl, HE9.out⟩

theorem contract (H : Type) (enc : TypeId × Value → H) (W : World) (base : Nat) (args : Array Value) (ds gs : List (DataW H)) (before : List MemPlace)
    (hval0 : ∀ (j : Nat) t v, Tryd.f6.params[j]? = some t → args[j]? = some v → Value.okWide Tryd.prog W .any base t v)
    (hW : DataW.Whole enc Tryd.prog Tryd.f6.params.toList Rows.hmacEqualSpec.vars false W args.toList ds gs before) (hL : laidMetH Tryd.prog Rows.hmacEqualRow.laid W) (hsz0 : (DataW.weightsEach Tryd.prog (Tryd.f6.params.toList ++ []) (ds ++ gs)).all (· ≤ reachBytes) = true) :
    Calls Tryd.prog 6 args W fun e W' => ∃ v, e = .returned v ∧ Rows.hmacEqualSpec.post enc Tryd.prog Tryd.f6 false true false false W args v W' := by
  have hval := hval0
  have hsz := hsz0
  have hW' := hW
  obtain ⟨p, q, hA0, hV, rfl, hfz, hnd⟩ := hW
  have hA : DataW.TrodAll enc Tryd.prog W 0 (fun _ => true) true Tryd.f6.params.toList args.toList ds p := hA0
  rw [Tryd.params6] at hA hval hsz
  obtain ⟨v0, vs0, d0, ds0, p0, q0, hargs, rfl, rfl, h0, r0⟩ := trodAll_cons hA
  obtain ⟨v1, vs1, d1, ds1, p1, q1, rfl, rfl, rfl, h1, r1⟩ := trodAll_cons r0
  obtain ⟨rfl, rfl, rfl⟩ := trodAll_nil r1
  obtain rfl : args = #[v0, v1] := by cases args; simp_all
  obtain ⟨rfl, rfl⟩ := trodVars_none hV
  have h0s : 0 < W.heap.size := by
    have hc := (table hL).cell gTab 0 (by decide)
    rcases Nat.lt_or_ge 0 W.heap.size with h | h
    · exact h
    · exfalso
      have : W.heap[0]? = none := Array.getElem?_eq_none h
      simp [World.cell?, this] at hc
  have hC : TabC W := tabC hL h0s
  have k0 := h0
  have lt0 : ∀ x ∈ p0, x.block < W.heap.size := by obtain ⟨m, hm⟩ := k0; exact DataW.trod_lt m _ _ _ hm
  have k1 := h1
  have lt1 : ∀ x ∈ p1, x.block < W.heap.size := by obtain ⟨m, hm⟩ := k1; exact DataW.trod_lt m _ _ _ hm
  have B0 := barg (hval 0 22 v0 rfl rfl) h0 hsz 0 rfl rfl
  have B1 := barg (hval 1 22 v1 rfl rfl) h1 hsz 1 rfl rfl
  clear hA0 hval0
  refine (walk v0 v1 W B0 B1 hC).mono fun e W' ⟨he, bel⟩ => ?_
  subst he
  exact ⟨_, rfl, _, _, _, [], _, [], hW', trodAll_mk1 (shut_bool Tryd.underlying4 _), (trodAll_cons_mk (Below.trod laidOut (by kernel_rfl) (of_decide_eq_true (by kernel_rfl)) k0 bel lt0) (trodAll_cons_mk (Below.trod laidOut (by kernel_rfl) (of_decide_eq_true (by kernel_rfl)) k1 bel lt1) trodAll_mk0)), rfl, bel.frame _, fun h => by cases h⟩

def wit : Array Value := #[.slice none 0 0, .slice none 0 0]
def dat {H : Type} : List (DataW H) := [.nil, .nil]
def setTab : Obj → Obj
  | .cells _ t frozen => .cells (tabL.map fun z => Value.int .u32 z).toArray t frozen
  | o => o
theorem laid_met (os : Os) : laidMet Tryd.prog Rows.hmacEqualRow.laid (({ World.holding Tryd.prog os ⟨#[], #[], []⟩ with heap := (World.holding Tryd.prog os ⟨#[], #[], []⟩).heap.modify 0 setTab } : World).forCall (fun _ _ => 0) ⟨#[], wit, []⟩).memory :=
  laidMet_of_run' 8 (by kernel_rfl) (by kernel_rfl)
theorem reads (os : Os) {H : Type} (enc : TypeId × Value → H) : ∃ places, DataW.whole enc Tryd.prog (({ World.holding Tryd.prog os ⟨#[], #[], []⟩ with heap := (World.holding Tryd.prog os ⟨#[], #[], []⟩).heap.modify 0 setTab } : World).forCall (fun _ _ => 0) ⟨#[], wit, []⟩).memory Tryd.f6.params.toList Rows.hmacEqualSpec.vars false wit.toList 8 = some (dat, [], places) :=
  ⟨[], by kernel_rfl⟩

set_option maxRecDepth 100000 in
theorem lifted (os : Os) (started : os.Started) (H : Type) (enc : TypeId × Value → H) (F : Stop.Interp) :
    ReturnsInHanded {} Tryd.checked os 6 .any ((OpenSpec.ofChange Rows.hmacEqualSpec).preRow enc Tryd.prog Tryd.f6 Rows.hmacEqualRow.domain false Rows.hmacEqualRow.laid) (((OpenSpec.ofChange Rows.hmacEqualSpec).at F).post enc Tryd.prog Tryd.f6 false true false false) := by
  obtain ⟨places, hx⟩ := reads os enc
  refine returnsInHanded_of_row (C := Tryd.checked) (s := (OpenSpec.ofChange Rows.hmacEqualSpec)) own started (by kernel_rfl) Tryd.func6
    (witness_row_at (enc := enc) (C := Tryd.checked) false ({ World.holding Tryd.prog os ⟨#[], #[], []⟩ with heap := (World.holding Tryd.prog os ⟨#[], #[], []⟩).heap.modify 0 setTab } : World) wit rfl (by kernel_rfl) (by kernel_rfl) (by kernel_rfl)
      (OpenSpec.preRow_of_cond 8 hx (by kernel_rfl) (fun k hk => by cases hk) (by kernel_rfl) (laid_met os))) ?_
  intro W base args ds gs before hval hW _ hcond hsz hL _ _
  exact contract H enc W base args ds gs before hval hW hL hsz

theorem said : Rows.HmacEqualSaid :=
  OpenClaim.holds_of_cond 6 Tryd.f6 rfl rfl rfl rfl rfl rfl rfl ⟨rfl, rfl, rfl, rfl, rfl⟩ rfl rfl rfl rfl rfl (by kernel_rfl) Tryd.func6 (by kernel_rfl)
    (of_decide_eq_true (by kernel_rfl)) (by unfold Func.isWrapper; first | (rw [if_pos (by decide +kernel)]; kernel_rfl) | (rw [if_neg (by decide +kernel)]; exact ⟨rfl, rfl⟩))
    (fun os started H enc _ F => by rw [OpenClaim.pre_eq_preRow]; exact lifted os started H enc F)

theorem plain (f : FuncId) (fn : Func) (hf : Tryd.pinned.checked.prog.funcNamed "casket/casketlaw05.HmacEqual" = some f) (hfn : Tryd.pinned.checked.prog.funcs[f]? = some fn) :
    false = Tryd.pinned.checked.prog.looks [] ∧ ∀ (j : Nat) t, fn.params[j]? = some t → Tryd.pinned.checked.prog.wantsStandIn t = false := by
  obtain rfl : f = 6 := Option.some.inj ((show Tryd.prog.funcNamed "casket/casketlaw05.HmacEqual" = some 6 by kernel_rfl).symm.trans hf) |>.symm
  obtain rfl : fn = Tryd.f6 := (Option.some.inj (Tryd.func6.symm.trans hfn)).symm
  refine ⟨by kernel_rfl, fun j t ht => ?_⟩
  rw [Tryd.params6] at ht
  have hm : t ∈ [22, 22] := by simpa using Array.mem_of_getElem? ht
  have hall : ([22, 22].all fun u => !Tryd.prog.wantsStandIn u) = true := by kernel_rfl
  exact (show Tryd.prog.wantsStandIn t = false by simpa using List.all_eq_true.1 hall t hm)

theorem card : Rows.HmacEqualCardSaid :=
  Claim7.holds_tied_plain_at .later [] _ _ _ _ said (fun _ h => by cases h) (by kernel_rfl) (fun _ h => by cases h) hmacEqual_row_tie rfl ⟨rfl, rfl⟩ (by kernel_rfl) rfl plain (by kernel_rfl)
end Go.Proofs.YthgflnjeojhgkaaDoor.hmacEqual
namespace Go.Proofs.YthgflnjeojhgkaaDoor
theorem hmacEqual_holds : Rows.HmacEqualCardSaid := hmacEqual.card
end Go.Proofs.YthgflnjeojhgkaaDoor
