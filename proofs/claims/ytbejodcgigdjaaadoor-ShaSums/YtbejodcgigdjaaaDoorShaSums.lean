/-
  For every slice of bytes, nil or not, the law ShaSums returns true, and its argument reads behind the call as it read before; the package-level table of constants is laid as the program text lays it. No other condition.
-/
import Derived.Test.YtbejodcgigdjaaaDoorCards
import Derived.Test.YtbejodcgigdjaaaDoorTie
import Derived.WalkKit
import Derived.ProofKit
import Derived.OpenShut
import Derived.ShutString
import Derived.ChangeOld
import Derived.Below
import Derived.Deep.DeepHandedRow
import Derived.Lib.LaidTab
import Derived.Test.YtbejodcgigdjaaaDoorBV
namespace Go.Proofs.YtbejodcgigdjaaaDoor.shaSums
open Go.ChangeShapes Go.WideShapes Go.ChangeAt Go.RowKit
set_option linter.unusedVariables false

theorem own : ownKnob Tryd.prog.godebug = none := by kernel_rfl
theorem laidOut : laidOutB Tryd.prog = true := by kernel_rfl
theorem gTab : Tryd.prog.globalNamed "casket/sha.constants" = some 0 := by kernel_rfl
theorem gTabType : (Tryd.prog.globals[0]?).map (·.type) = some 42 := by kernel_rfl
theorem cellsG : Tryd.prog.cellsOf 42 = 64 := by kernel_rfl
theorem cellsE : Tryd.prog.cellsOf 27 = 1 := by kernel_rfl
def tabL : List Int := [1116352408, 1899447441, 3049323471, 3921009573, 961987163, 1508970993, 2453635748, 2870763221, 3624381080, 310598401, 607225278, 1426881987, 1925078388, 2162078206, 2614888103, 3248222580, 3835390401, 4022224774, 264347078, 604807628, 770255983, 1249150122, 1555081692, 1996064986, 2554220882, 2821834349, 2952996808, 3210313671, 3336571891, 3584528711, 113926993, 338241895, 666307205, 773529912, 1294757372, 1396182291, 1695183700, 1986661051, 2177026350, 2456956037, 2730485921, 2820302411, 3259730800, 3345764771, 3516065817, 3600352804, 4094571909, 275423344, 430227734, 506948616, 659060556, 883997877, 958139571, 1322822218, 1537002063, 1747873779, 1955562222, 2024104815, 2227730452, 2361852424, 2428436474, 2756734187, 3204031479, 3329325298]
theorem table {W : World} (h : laidMetH Tryd.prog Rows.shaSumsRow.laid W) : Lib.TabIs Tryd.prog W "casket/sha.constants" .u32 tabL :=
  Lib.tabIs_of_head (rest := []) gTab gTabType Tryd.underlying42 Tryd.underlying27 cellsE cellsG h
theorem tab_kT : ∀ j, j < 64 → tabL.getD j 0 = ((kT j).toNat : Int) := by decide +kernel
theorem tabC {W : World} (h : laidMetH Tryd.prog Rows.shaSumsRow.laid W) (h0 : 0 < W.heap.size) : TabC W :=
  ⟨fun j hj => by
    rw [← tab_kT j hj]
    exact (table h).cell gTab j hj, h0⟩

open Go.BigFrame
theorem grown_ext {w X Y : World} {row : Option Nat} (h : Ext w X) (hg : X.grownBy Y row) (hr : ∀ k, row = some k → w.heap.size ≤ k) : Ext w Y := Below.trans h (below_grown (Below.size h) hg hr)
set_option maxRecDepth 20000 in
set_option maxHeartbeats 1000000 in
theorem walk_some (l cap : Nat) (b : Nat → BitVec 8) (a : Addr) (v : Value) (hv : v = .slice (some a) l cap) (w : World) (hB : BV v l b w) (hLie : LieAt a l (yv b) w) (hl : l ≤ 140737488351232) (hC : TabC w) : Calls Tryd.prog 3 #[v] w fun e w' => e = .returned (.bool true) ∧ Below w.heap.size w w' := by
  replace hC := hideit hC
  replace hB := hideit hB
  replace hLie := hideit hLie
  replace hv := hideit hv
  obtain ⟨R, hR⟩ : ∃ R, R = shaF b l := ⟨_, rfl⟩
  replace hR := hideit hR
  have HO := own_empty w w.heap.size 5 (yv b) (Nat.le_refl _)
  have HE0 : Ext w (w.alloc (.cells #[] 5)) := (Below.refl _ _).alloc (Nat.le_refl _) _
  replace HO := hideit HO
  replace HE0 := hideit HE0
  go_enter Tryd.func3, Tryd.ntmps3
  go_upto_region 1 with (fail)
  refine wp_region_lit ?_
  refine wpList_to rfl (.slice (some ⟨w.heap.size, 0, none⟩) 0 0) (w.alloc (.cells #[] 5)) (by simp [go_sem]) ?_
  simp only [Act.put, List.setIfInBounds_toArray, List.set_cons_zero, List.set_cons_succ]
  refine wpList_run rfl v (by simp [go_sem]) ?_
  simp only [Act.put, List.setIfInBounds_toArray, List.set_cons_zero, List.set_cons_succ]
  refine wpList_grow (n := 0) (base := w.heap.size) elem22 rfl (.tmp 4) (.tmp 5) rfl rfl HO.out a l cap (yv b) (yv b) hv.out (hLie.out.carry HE0.out) (fun _ _ => rfl) (fun j hj => by omega) (fun j hj => by rw [Nat.zero_add]) (by omega) (by simp) ?_
  intro vo w1 hO1 hg1
  have HV : BV vo l b w1 := by rw [Nat.zero_add] at hO1; exact hO1.bv
  have HE : Ext w w1 := grown_ext HE0.out hg1 fun k hk => (HO.out.lt k hk).1
  simp only [Act.put, List.setIfInBounds_toArray, List.set_cons_zero, List.set_cons_succ]
  replace HV := hideit HV
  replace HE := hideit HE
  go_upto_region 2 with (fail)
  refine wp_region_lit ?_
  refine wpList_call rfl (by simp [go_sem]) ((lives_any _ (hC.out.ext HE.out)).mono ?_)
  rintro e w2 ⟨rfl, hw2⟩
  refine ⟨_, rfl, ?_⟩
  simp only [Act.put, List.setIfInBounds_toArray, List.set_cons_zero, List.set_cons_succ]
  have HE2 := hideit (Ext.trans HE.out hw2)
  have HV2 := hideit (HV.out.ext hw2)
  clear HE HV hw2
  refine wpList_run rfl (.bool true) (by simp [go_sem]) ?_
  simp only [Act.put, List.setIfInBounds_toArray, List.set_cons_zero, List.set_cons_succ]
  refine wpList_runW rfl vo (by simp [go_sem]) ?_
  simp only [Act.put, List.setIfInBounds_toArray, List.set_cons_zero, List.set_cons_succ]
  have hs1 := sumV vo l b w2 HV2.out (hC.out.ext HE2.out) hl
  rw [← hR.out] at hs1
  refine wpList_callW rfl (by simp [go_sem]) (hs1.mono ?_)
  rintro e w3 ⟨rfl, hw3⟩
  refine ⟨_, rfl, ?_⟩
  simp only [Act.put, List.setIfInBounds_toArray, List.set_cons_zero, List.set_cons_succ]
  have HE3 := hideit (Ext.trans HE2.out hw3)
  have HV3 := hideit (HV2.out.ext hw3)
  clear HE2 HV2 hw3 hs1
  refine wpList_runW rfl v (by simp [go_sem]) ?_
  simp only [Act.put, List.setIfInBounds_toArray, List.set_cons_zero, List.set_cons_succ]
  have hs2 := rsumV v l b w3 (hB.out.ext HE3.out) hl
  rw [← hR.out] at hs2
  refine wpList_callW rfl (by simp [go_sem]) (hs2.mono ?_)
  rintro e w4 ⟨rfl, hw4⟩
  refine ⟨_, rfl, ?_⟩
  simp only [Act.put, List.setIfInBounds_toArray, List.set_cons_zero, List.set_cons_succ]
  have HE4 := hideit (Ext.trans HE3.out hw4)
  have hc1 := convV vo l b w4 (HV3.out.ext hw4)
  have hc2 := convV v l b w4 (hB.out.ext HE4.out)
  clear HE3 HV3 hw4 hs2
  have hq := eq24 R
  generalize bstr l (fun j => ((b j).toNat : Int)) = St at *
  go_wp2
  go_ret
  exact ⟨rfl, HE4.out⟩

set_option maxRecDepth 20000 in
set_option maxHeartbeats 1000000 in
theorem walk_none (l : Nat) (b : Nat → BitVec 8) (v : Value) (hv : v = .slice none 0 0) (h0 : l = 0) (w : World) (hB : BV v l b w) (hC : TabC w) : Calls Tryd.prog 3 #[v] w fun e w' => e = .returned (.bool true) ∧ Below w.heap.size w w' := by
  have hl : l ≤ 140737488351232 := by omega
  replace hC := hideit hC
  replace hB := hideit hB
  replace hv := hideit hv
  obtain ⟨R, hR⟩ : ∃ R, R = shaF b l := ⟨_, rfl⟩
  replace hR := hideit hR
  have HO := own_empty w w.heap.size 5 (yv b) (Nat.le_refl _)
  rw [← h0] at HO
  replace h0 := hideit h0
  have HE0 : Ext w (w.alloc (.cells #[] 5)) := (Below.refl _ _).alloc (Nat.le_refl _) _
  obtain ⟨vo, hvo⟩ : ∃ vo, vo = Value.slice (some ⟨w.heap.size, 0, none⟩) 0 0 := ⟨_, rfl⟩
  replace HO := hideit HO
  replace HE0 := hideit HE0
  replace hvo := hideit hvo
  go_enter Tryd.func3, Tryd.ntmps3
  go_upto_region 1 with (fail)
  refine wp_region_lit ?_
  refine wpList_to rfl vo (w.alloc (.cells #[] 5)) (by rw [hvo.out]; simp [go_sem]) ?_
  simp only [Act.put, List.setIfInBounds_toArray, List.set_cons_zero, List.set_cons_succ]
  refine wpList_run rfl v (by simp [go_sem]) ?_
  simp only [Act.put, List.setIfInBounds_toArray, List.set_cons_zero, List.set_cons_succ]
  refine wpList_grow_none (v := vo) (n := l) (base := w.heap.size) (g := yv b) elem22 rfl (.tmp 4) (.tmp 5) rfl rfl (by rw [hvo.out, h0.out]; have := HO.out; rw [h0.out] at this; exact this) hv.out ?_
  have HV : BV vo l b (w.alloc (.cells #[] 5)) := by
    rw [hvo.out]
    have := HO.out
    rw [h0.out] at this ⊢
    exact OwnB.bv this
  have HE := HE0.out
  clear HO HE0
  generalize w.alloc (.cells #[] 5) = w1 at *
  simp only [Act.put, List.setIfInBounds_toArray, List.set_cons_zero, List.set_cons_succ]
  replace HV := hideit HV
  replace HE := hideit HE
  go_upto_region 2 with (fail)
  refine wp_region_lit ?_
  refine wpList_call rfl (by simp [go_sem]) ((lives_any _ (hC.out.ext HE.out)).mono ?_)
  rintro e w2 ⟨rfl, hw2⟩
  refine ⟨_, rfl, ?_⟩
  simp only [Act.put, List.setIfInBounds_toArray, List.set_cons_zero, List.set_cons_succ]
  have HE2 := hideit (Ext.trans HE.out hw2)
  have HV2 := hideit (HV.out.ext hw2)
  clear HE HV hw2
  refine wpList_run rfl (.bool true) (by simp [go_sem]) ?_
  simp only [Act.put, List.setIfInBounds_toArray, List.set_cons_zero, List.set_cons_succ]
  refine wpList_runW rfl vo (by simp [go_sem]) ?_
  simp only [Act.put, List.setIfInBounds_toArray, List.set_cons_zero, List.set_cons_succ]
  have hs1 := sumV vo l b w2 HV2.out (hC.out.ext HE2.out) hl
  rw [← hR.out] at hs1
  refine wpList_callW rfl (by simp [go_sem]) (hs1.mono ?_)
  rintro e w3 ⟨rfl, hw3⟩
  refine ⟨_, rfl, ?_⟩
  simp only [Act.put, List.setIfInBounds_toArray, List.set_cons_zero, List.set_cons_succ]
  have HE3 := hideit (Ext.trans HE2.out hw3)
  have HV3 := hideit (HV2.out.ext hw3)
  clear HE2 HV2 hw3 hs1
  refine wpList_runW rfl v (by simp [go_sem]) ?_
  simp only [Act.put, List.setIfInBounds_toArray, List.set_cons_zero, List.set_cons_succ]
  have hs2 := rsumV v l b w3 (hB.out.ext HE3.out) hl
  rw [← hR.out] at hs2
  refine wpList_callW rfl (by simp [go_sem]) (hs2.mono ?_)
  rintro e w4 ⟨rfl, hw4⟩
  refine ⟨_, rfl, ?_⟩
  simp only [Act.put, List.setIfInBounds_toArray, List.set_cons_zero, List.set_cons_succ]
  have HE4 := hideit (Ext.trans HE3.out hw4)
  have hc1 := convV vo l b w4 (HV3.out.ext hw4)
  have hc2 := convV v l b w4 (hB.out.ext HE4.out)
  clear HE3 HV3 hw4 hs2
  have hq := eq24 R
  generalize bstr l (fun j => ((b j).toNat : Int)) = St at *
  go_wp2
  go_ret
  exact ⟨rfl, HE4.out⟩

theorem walk (v : Value) (w : World) (hA : BArg v w) (hC : TabC w) : Calls Tryd.prog 3 #[v] w fun e w' => e = .returned (.bool true) ∧ Below w.heap.size w w' := by
  obtain ⟨l, b, hB, hl⟩ := hA.bv
  have hB0 := hB
  rcases hB0 with ⟨hv, h0⟩ | ⟨a, cap, hv, _, hLie⟩
  · exact walk_none l b v hv h0 w hB hC
  · exact walk_some l cap b a v hv w hB hLie hl hC

theorem contract (H : Type) (enc : TypeId × Value → H) (W : World) (base : Nat) (args : Array Value) (ds gs : List (DataW H)) (before : List MemPlace)
    (hval0 : ∀ (j : Nat) t v, Tryd.f3.params[j]? = some t → args[j]? = some v → Value.okWide Tryd.prog W .any base t v)
    (hW : DataW.Whole enc Tryd.prog Tryd.f3.params.toList Rows.shaSumsSpec.vars false W args.toList ds gs before) (hL : laidMetH Tryd.prog Rows.shaSumsRow.laid W) (hsz0 : (DataW.weightsEach Tryd.prog (Tryd.f3.params.toList ++ []) (ds ++ gs)).all (· ≤ reachBytes) = true) :
    Calls Tryd.prog 3 args W fun e W' => ∃ v, e = .returned v ∧ Rows.shaSumsSpec.post enc Tryd.prog Tryd.f3 false true false false W args v W' := by
  have hval := hval0
  have hsz := hsz0
  have hW' := hW
  obtain ⟨p, q, hA0, hV, rfl, hfz, hnd⟩ := hW
  have hA : DataW.TrodAll enc Tryd.prog W 0 (fun _ => true) true Tryd.f3.params.toList args.toList ds p := hA0
  rw [Tryd.params3] at hA hval hsz
  obtain ⟨v0, vs0, d0, ds0, p0, q0, hargs, rfl, rfl, h0, r0⟩ := trodAll_cons hA
  obtain ⟨rfl, rfl, rfl⟩ := trodAll_nil r0
  obtain rfl : args = #[v0] := by cases args; simp_all
  obtain ⟨rfl, rfl⟩ := trodVars_none hV
  have h0s : 0 < W.heap.size := by
    have hc := (table hL).cell gTab 0 (by decide)
    rcases Nat.lt_or_ge 0 W.heap.size with h | h
    · exact h
    · exfalso
      have : W.heap[0]? = none := Array.getElem?_eq_none h
      simp [World.cell?, this] at hc
  have hC : TabC W := tabC hL h0s
  have k0 := h0
  have lt0 : ∀ x ∈ p0, x.block < W.heap.size := by obtain ⟨m, hm⟩ := k0; exact DataW.trod_lt m _ _ _ hm
  have B0 := barg (hval 0 22 v0 rfl rfl) h0 hsz 0 rfl rfl
  clear hA0 hval0
  refine (walk v0 W B0 hC).mono fun e W' ⟨he, bel⟩ => ?_
  subst he
  exact ⟨_, rfl, _, _, _, [], _, [], hW', trodAll_mk1 (shut_bool Tryd.underlying4 _), (trodAll_cons_mk (Below.trod laidOut (by kernel_rfl) (of_decide_eq_true (by kernel_rfl)) k0 bel lt0) trodAll_mk0), rfl, bel.frame _, fun h => by cases h⟩

def wit : Array Value := #[.slice none 0 0]
def dat {H : Type} : List (DataW H) := [.nil]
def setTab : Obj → Obj
  | .cells _ t frozen => .cells (tabL.map fun z => Value.int .u32 z).toArray t frozen
  | o => o
theorem laid_met (os : Os) : laidMet Tryd.prog Rows.shaSumsRow.laid (({ World.holding Tryd.prog os ⟨#[], #[], []⟩ with heap := (World.holding Tryd.prog os ⟨#[], #[], []⟩).heap.modify 0 setTab } : World).forCall (fun _ _ => 0) ⟨#[], wit, []⟩).memory :=
  laidMet_of_run' 8 (by kernel_rfl) (by kernel_rfl)
theorem reads (os : Os) {H : Type} (enc : TypeId × Value → H) : ∃ places, DataW.whole enc Tryd.prog (({ World.holding Tryd.prog os ⟨#[], #[], []⟩ with heap := (World.holding Tryd.prog os ⟨#[], #[], []⟩).heap.modify 0 setTab } : World).forCall (fun _ _ => 0) ⟨#[], wit, []⟩).memory Tryd.f3.params.toList Rows.shaSumsSpec.vars false wit.toList 8 = some (dat, [], places) :=
  ⟨[], by kernel_rfl⟩

set_option maxRecDepth 100000 in
theorem lifted (os : Os) (started : os.Started) (H : Type) (enc : TypeId × Value → H) (F : Stop.Interp) :
    ReturnsInHanded {} Tryd.checked os 3 .any ((OpenSpec.ofChange Rows.shaSumsSpec).preRow enc Tryd.prog Tryd.f3 Rows.shaSumsRow.domain false Rows.shaSumsRow.laid) (((OpenSpec.ofChange Rows.shaSumsSpec).at F).post enc Tryd.prog Tryd.f3 false true false false) := by
  obtain ⟨places, hx⟩ := reads os enc
  refine returnsInHanded_of_row (C := Tryd.checked) (s := (OpenSpec.ofChange Rows.shaSumsSpec)) own started (by kernel_rfl) Tryd.func3
    (witness_row_at (enc := enc) (C := Tryd.checked) false ({ World.holding Tryd.prog os ⟨#[], #[], []⟩ with heap := (World.holding Tryd.prog os ⟨#[], #[], []⟩).heap.modify 0 setTab } : World) wit rfl (by kernel_rfl) (by kernel_rfl) (by kernel_rfl)
      (OpenSpec.preRow_of_cond 8 hx (by kernel_rfl) (fun k hk => by cases hk) (by kernel_rfl) (laid_met os))) ?_
  intro W base args ds gs before hval hW _ hcond hsz hL _ _
  exact contract H enc W base args ds gs before hval hW hL hsz

theorem said : Rows.ShaSumsSaid :=
  OpenClaim.holds_of_cond 3 Tryd.f3 rfl rfl rfl rfl rfl rfl rfl ⟨rfl, rfl, rfl, rfl, rfl⟩ rfl rfl rfl rfl rfl (by kernel_rfl) Tryd.func3 (by kernel_rfl)
    (of_decide_eq_true (by kernel_rfl)) (by unfold Func.isWrapper; first | (rw [if_pos (by decide +kernel)]; kernel_rfl) | (rw [if_neg (by decide +kernel)]; exact ⟨rfl, rfl⟩))
    (fun os started H enc _ F => by rw [OpenClaim.pre_eq_preRow]; exact lifted os started H enc F)

theorem plain (f : FuncId) (fn : Func) (hf : Tryd.pinned.checked.prog.funcNamed "casket/casketlaw04.ShaSums" = some f) (hfn : Tryd.pinned.checked.prog.funcs[f]? = some fn) :
    false = Tryd.pinned.checked.prog.looks [] ∧ ∀ (j : Nat) t, fn.params[j]? = some t → Tryd.pinned.checked.prog.wantsStandIn t = false := by
  obtain rfl : f = 3 := Option.some.inj ((show Tryd.prog.funcNamed "casket/casketlaw04.ShaSums" = some 3 by kernel_rfl).symm.trans hf) |>.symm
  obtain rfl : fn = Tryd.f3 := (Option.some.inj (Tryd.func3.symm.trans hfn)).symm
  refine ⟨by kernel_rfl, fun j t ht => ?_⟩
  rw [Tryd.params3] at ht
  have hm : t ∈ [22] := by simpa using Array.mem_of_getElem? ht
  have hall : ([22].all fun u => !Tryd.prog.wantsStandIn u) = true := by kernel_rfl
  exact (show Tryd.prog.wantsStandIn t = false by simpa using List.all_eq_true.1 hall t hm)

theorem card : Rows.ShaSumsCardSaid :=
  Claim7.holds_tied_plain_at .later [] _ _ _ _ said (fun _ h => by cases h) (by kernel_rfl) (fun _ h => by cases h) shaSums_row_tie rfl ⟨rfl, rfl⟩ (by kernel_rfl) rfl plain (by kernel_rfl)
end Go.Proofs.YtbejodcgigdjaaaDoor.shaSums
namespace Go.Proofs.YtbejodcgigdjaaaDoor
theorem shaSums_holds : Rows.ShaSumsCardSaid := shaSums.card
end Go.Proofs.YtbejodcgigdjaaaDoor
