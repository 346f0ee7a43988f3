/-
  For every state and every piece the law ShaBlocks returns true, and its arguments read behind the call as they read before; the package-level table of constants is laid as the program text lays it. No other condition.
-/
import Derived.Test.YtbejodcgigdjaaaDoorCards
import Derived.Test.YtbejodcgigdjaaaDoorTie
import Derived.WalkKit
import Derived.ProofKit
import Derived.OpenShut
import Derived.ShutString
import Derived.ChangeOld
import Derived.Below
import Derived.Deep.DeepHandedRow
import Derived.Lib.LaidTab
import Derived.Test.YtbejodcgigdjaaaDoorOpen
import Derived.Test.YtbejodcgigdjaaaDoorRBlock
namespace Go.Proofs.YtbejodcgigdjaaaDoor.shaBlocks
open Go.ChangeShapes Go.WideShapes Go.ChangeAt Go.RowKit
set_option linter.unusedVariables false

theorem own : ownKnob Tryd.prog.godebug = none := by kernel_rfl
theorem laidOut : laidOutB Tryd.prog = true := by kernel_rfl
theorem gTab : Tryd.prog.globalNamed "casket/sha.constants" = some 0 := by kernel_rfl
theorem gTabType : (Tryd.prog.globals[0]?).map (·.type) = some 42 := by kernel_rfl
theorem cellsG : Tryd.prog.cellsOf 42 = 64 := by kernel_rfl
theorem cellsE : Tryd.prog.cellsOf 27 = 1 := by kernel_rfl
def tabL : List Int := [1116352408, 1899447441, 3049323471, 3921009573, 961987163, 1508970993, 2453635748, 2870763221, 3624381080, 310598401, 607225278, 1426881987, 1925078388, 2162078206, 2614888103, 3248222580, 3835390401, 4022224774, 264347078, 604807628, 770255983, 1249150122, 1555081692, 1996064986, 2554220882, 2821834349, 2952996808, 3210313671, 3336571891, 3584528711, 113926993, 338241895, 666307205, 773529912, 1294757372, 1396182291, 1695183700, 1986661051, 2177026350, 2456956037, 2730485921, 2820302411, 3259730800, 3345764771, 3516065817, 3600352804, 4094571909, 275423344, 430227734, 506948616, 659060556, 883997877, 958139571, 1322822218, 1537002063, 1747873779, 1955562222, 2024104815, 2227730452, 2361852424, 2428436474, 2756734187, 3204031479, 3329325298]
theorem table {W : World} (h : laidMetH Tryd.prog Rows.shaBlocksRow.laid W) : Lib.TabIs Tryd.prog W "casket/sha.constants" .u32 tabL :=
  Lib.tabIs_of_head (rest := []) gTab gTabType Tryd.underlying42 Tryd.underlying27 cellsE cellsG h
theorem tab_kT : ∀ j, j < 64 → tabL.getD j 0 = ((kT j).toNat : Int) := by decide +kernel
theorem tabC {W : World} (h : laidMetH Tryd.prog Rows.shaBlocksRow.laid W) (h0 : 0 < W.heap.size) : TabC W :=
  ⟨fun j hj => by
    rw [← tab_kT j hj]
    exact (table h).cell gTab j hj, h0⟩

open Go.BigFrame
set_option maxRecDepth 20000 in
set_option maxHeartbeats 1000000 in
theorem walk (s : Nat → BitVec 32) (p : Nat → BitVec 8) (w : World) (hC : TabC w) : Calls Tryd.prog 4 #[.agg (row 8 (wv s)).toArray, .agg (row 64 (yv p)).toArray] w fun e w' => e = .returned (.bool true) ∧ Below w.heap.size w w' := by
  have HA : RowAt w.heap.size 8 (wv s) ((w.alloc (.cells (row 8 (wv s)).toArray 28)).alloc (.cells (row 64 (yv p)).toArray 29)) := (RowAt.new w 8 (wv s) 28).alloc _
  have HP : RowAt (w.heap.size + 1) 64 (yv p) ((w.alloc (.cells (row 8 (wv s)).toArray 28)).alloc (.cells (row 64 (yv p)).toArray 29)) := by
    have := RowAt.new (w.alloc (.cells (row 8 (wv s)).toArray 28)) 64 (yv p) 29
    simpa using this
  have HE : Ext w ((w.alloc (.cells (row 8 (wv s)).toArray 28)).alloc (.cells (row 64 (yv p)).toArray 29)) := ((Below.refl _ _).alloc (Nat.le_refl _) _).alloc (by simp) _
  obtain ⟨R, hR⟩ : ∃ R, R = blockF s p := ⟨_, rfl⟩
  obtain ⟨F, hF⟩ : ∃ F, F = fT := ⟨_, rfl⟩
  have hf := first_any
  have hrf := rfirst_any
  have hrb := rblock_any s p
  rw [← hF] at hf hrf
  rw [← hR] at hrb
  have hbl : ∀ X, Ext ((w.alloc (.cells (row 8 (wv s)).toArray 28)).alloc (.cells (row 64 (yv p)).toArray 29)).drew X → Calls Tryd.prog 12 #[.agg (row 8 (wv s)).toArray, .agg (row 64 (yv p)).toArray] X fun e w' => e = .returned (.agg (row 8 (wv R)).toArray) ∧ Below X.heap.size X w' := fun X hX => by
    have := block_any s p X ((hC.ext HE).ext (Ext.trans (Ext.refl _).draw hX))
    rwa [← hR] at this
  have hlv : ∀ X, Ext ((w.alloc (.cells (row 8 (wv s)).toArray 28)).alloc (.cells (row 64 (yv p)).toArray 29)).drew X → Calls Tryd.prog 9 #[] X fun e w' => e = .returned (.bool true) ∧ Below X.heap.size X w' := fun X hX => lives_any X ((hC.ext HE).ext (Ext.trans (Ext.refl _).draw hX))
  have hq1 := eq28 R
  have hq2 := eq28 F
  replace HA := hideit HA
  replace HP := hideit HP
  replace HE := hideit HE
  replace hf := hideit hf
  replace hrf := hideit hrf
  replace hrb := hideit hrb
  replace hbl := hideit hbl
  replace hlv := hideit hlv
  clear hR hF hC
  go_enter Tryd.func4, Tryd.ntmps4
  go_wp2
  have hne := kept_ne ((w.alloc (.cells (row 8 (wv s)).toArray 28)).alloc (.cells (row 64 (yv p)).toArray 29)).drew
  refine wp_region_kept (Ok := Ext ((w.alloc (.cells (row 8 (wv s)).toArray 28)).alloc (.cells (row 64 (yv p)).toArray 29)).drew) (by kernel_rfl) (by kernel_rfl) (Ext.refl _) ?_
  repeat (go_big_quiet_step ((rename_i q; first | (go_at_call 9; exact (hlv.out q.w q.ok).mono fun e w'' h => ⟨h.1, ⟨⟨w'', Ext.trans q.ok h.2⟩, rfl⟩⟩) | (go_at_call 12; exact (hbl.out q.w q.ok).mono fun e w'' h => ⟨h.1, ⟨⟨w'', Ext.trans q.ok h.2⟩, rfl⟩⟩) | (go_at_call 13; exact (hrb.out q.w).mono fun e w'' h => ⟨h.1, ⟨⟨w'', Ext.trans q.ok h.2⟩, rfl⟩⟩) | (go_at_call 14; exact (hf.out q.w).mono fun e w'' h => ⟨h.1, ⟨⟨w'', Ext.trans q.ok h.2⟩, rfl⟩⟩) | (go_at_call 15; exact (hrf.out q.w).mono fun e w'' h => ⟨h.1, ⟨⟨w'', Ext.trans q.ok h.2⟩, rfl⟩⟩))))
  go_big_quiet_want
  refine loadQ 28 (.tmp 2) _ 0 8 (wv s) rfl rfl (fun w' hw' => (HA.out.drew.carry hw').range) Tryd.underlying28 rfl info28 ?_
  simp only [Act.put, List.setIfInBounds_toArray, List.set_cons_zero, List.set_cons_succ]
  go_big_quiet_on
  go_big_quiet_want
  refine loadQ 29 (.tmp 3) _ 0 64 (yv p) rfl rfl (fun w' hw' => (HP.out.drew.carry hw').range) Tryd.underlying29 rfl info29 ?_
  simp only [Act.put, List.setIfInBounds_toArray, List.set_cons_zero, List.set_cons_succ]
  go_big_quiet_on
  repeat (go_big_quiet_step ((rename_i q; first | (go_at_call 9; exact (hlv.out q.w q.ok).mono fun e w'' h => ⟨h.1, ⟨⟨w'', Ext.trans q.ok h.2⟩, rfl⟩⟩) | (go_at_call 12; exact (hbl.out q.w q.ok).mono fun e w'' h => ⟨h.1, ⟨⟨w'', Ext.trans q.ok h.2⟩, rfl⟩⟩) | (go_at_call 13; exact (hrb.out q.w).mono fun e w'' h => ⟨h.1, ⟨⟨w'', Ext.trans q.ok h.2⟩, rfl⟩⟩) | (go_at_call 14; exact (hf.out q.w).mono fun e w'' h => ⟨h.1, ⟨⟨w'', Ext.trans q.ok h.2⟩, rfl⟩⟩) | (go_at_call 15; exact (hrf.out q.w).mono fun e w'' h => ⟨h.1, ⟨⟨w'', Ext.trans q.ok h.2⟩, rfl⟩⟩))))
  go_big_quiet_want
  refine loadQ 28 (.tmp 2) _ 0 8 (wv s) rfl rfl (fun w' hw' => (HA.out.drew.carry hw').range) Tryd.underlying28 rfl info28 ?_
  simp only [Act.put, List.setIfInBounds_toArray, List.set_cons_zero, List.set_cons_succ]
  go_big_quiet_on
  go_big_quiet_want
  refine loadQ 29 (.tmp 3) _ 0 64 (yv p) rfl rfl (fun w' hw' => (HP.out.drew.carry hw').range) Tryd.underlying29 rfl info29 ?_
  simp only [Act.put, List.setIfInBounds_toArray, List.set_cons_zero, List.set_cons_succ]
  go_big_quiet_on
  repeat (go_big_quiet_step ((rename_i q; first | (go_at_call 9; exact (hlv.out q.w q.ok).mono fun e w'' h => ⟨h.1, ⟨⟨w'', Ext.trans q.ok h.2⟩, rfl⟩⟩) | (go_at_call 12; exact (hbl.out q.w q.ok).mono fun e w'' h => ⟨h.1, ⟨⟨w'', Ext.trans q.ok h.2⟩, rfl⟩⟩) | (go_at_call 13; exact (hrb.out q.w).mono fun e w'' h => ⟨h.1, ⟨⟨w'', Ext.trans q.ok h.2⟩, rfl⟩⟩) | (go_at_call 14; exact (hf.out q.w).mono fun e w'' h => ⟨h.1, ⟨⟨w'', Ext.trans q.ok h.2⟩, rfl⟩⟩) | (go_at_call 15; exact (hrf.out q.w).mono fun e w'' h => ⟨h.1, ⟨⟨w'', Ext.trans q.ok h.2⟩, rfl⟩⟩))))
  refine wpQuiet_nil ?_
  intro _ hw'
  obtain ⟨Z, hZ⟩ := hw'
  subst hZ
  go_wp2
  go_ret
  exact ⟨rfl, Ext.trans (Ext.trans HE.out (Ext.refl _).draw) Z.ok⟩

theorem contract (H : Type) (enc : TypeId × Value → H) (W : World) (base : Nat) (args : Array Value) (ds gs : List (DataW H)) (before : List MemPlace)
    (hval0 : ∀ (j : Nat) t v, Tryd.f4.params[j]? = some t → args[j]? = some v → Value.okWide Tryd.prog W .any base t v)
    (hW : DataW.Whole enc Tryd.prog Tryd.f4.params.toList Rows.shaBlocksSpec.vars false W args.toList ds gs before) (hL : laidMetH Tryd.prog Rows.shaBlocksRow.laid W) :
    Calls Tryd.prog 4 args W fun e W' => ∃ v, e = .returned v ∧ Rows.shaBlocksSpec.post enc Tryd.prog Tryd.f4 false true false false W args v W' := by
  have hval := hval0
  have hW' := hW
  obtain ⟨p, q, hA0, hV, rfl, hfz, hnd⟩ := hW
  have hA : DataW.TrodAll enc Tryd.prog W 0 (fun _ => true) true Tryd.f4.params.toList args.toList ds p := hA0
  rw [Tryd.params4] at hA hval
  obtain ⟨v0, vs0, d0, ds0, p0, q0, hargs, rfl, rfl, h0, r0⟩ := trodAll_cons hA
  obtain ⟨v1, vs1, d1, ds1, p1, q1, rfl, rfl, rfl, h1, r1⟩ := trodAll_cons r0
  obtain ⟨rfl, rfl, rfl⟩ := trodAll_nil r1
  obtain rfl : args = #[v0, v1] := by cases args; simp_all
  obtain ⟨rfl, rfl⟩ := trodVars_none hV
  have h0s : 0 < W.heap.size := by
    have hc := (table hL).cell gTab 0 (by decide)
    rcases Nat.lt_or_ge 0 W.heap.size with h | h
    · exact h
    · exfalso
      have : W.heap[0]? = none := Array.getElem?_eq_none h
      simp [World.cell?, this] at hc
  have hC : TabC W := tabC hL h0s
  have k0 := h0
  have lt0 : ∀ x ∈ p0, x.block < W.heap.size := by obtain ⟨m, hm⟩ := k0; exact DataW.trod_lt m _ _ _ hm
  have k1 := h1
  have lt1 : ∀ x ∈ p1, x.block < W.heap.size := by obtain ⟨m, hm⟩ := k1; exact DataW.trod_lt m _ _ _ hm
  obtain ⟨a0, rfl⟩ := open_arru32_8 (hval 0 28 v0 rfl rfl) h0
  obtain ⟨a1, rfl⟩ := open_arru8_64 (hval 1 29 v1 rfl rfl) h1
  clear hA0 hval0
  refine (walk a0 a1 W  hC).mono fun e W' ⟨he, bel⟩ => ?_
  subst he
  exact ⟨_, rfl, _, _, _, [], _, [], hW', trodAll_mk1 (shut_bool Tryd.underlying4 _), (trodAll_cons_mk (Below.trod laidOut (by kernel_rfl) (of_decide_eq_true (by kernel_rfl)) k0 bel lt0) (trodAll_cons_mk (Below.trod laidOut (by kernel_rfl) (of_decide_eq_true (by kernel_rfl)) k1 bel lt1) trodAll_mk0)), rfl, bel.frame _, fun h => by cases h⟩

def wit : Array Value := #[.agg (List.replicate 8 (.int .u32 0)).toArray, .agg (List.replicate 64 (.int .u8 0)).toArray]
def dat {H : Type} : List (DataW H) := [.agg (List.replicate 8 (.lit (.int .u32 0))), .agg (List.replicate 64 (.lit (.int .u8 0)))]
def setTab : Obj → Obj
  | .cells _ t frozen => .cells (tabL.map fun z => Value.int .u32 z).toArray t frozen
  | o => o
theorem laid_met (os : Os) : laidMet Tryd.prog Rows.shaBlocksRow.laid (({ World.holding Tryd.prog os ⟨#[], #[], []⟩ with heap := (World.holding Tryd.prog os ⟨#[], #[], []⟩).heap.modify 0 setTab } : World).forCall (fun _ _ => 0) ⟨#[], wit, []⟩).memory :=
  laidMet_of_run' 8 (by kernel_rfl) (by kernel_rfl)
theorem reads (os : Os) {H : Type} (enc : TypeId × Value → H) : ∃ places, DataW.whole enc Tryd.prog (({ World.holding Tryd.prog os ⟨#[], #[], []⟩ with heap := (World.holding Tryd.prog os ⟨#[], #[], []⟩).heap.modify 0 setTab } : World).forCall (fun _ _ => 0) ⟨#[], wit, []⟩).memory Tryd.f4.params.toList Rows.shaBlocksSpec.vars false wit.toList 8 = some (dat, [], places) :=
  ⟨[], by kernel_rfl⟩

set_option maxRecDepth 100000 in
theorem lifted (os : Os) (started : os.Started) (H : Type) (enc : TypeId × Value → H) (F : Stop.Interp) :
    ReturnsInHanded {} Tryd.checked os 4 .any ((OpenSpec.ofChange Rows.shaBlocksSpec).preRow enc Tryd.prog Tryd.f4 Rows.shaBlocksRow.domain false Rows.shaBlocksRow.laid) (((OpenSpec.ofChange Rows.shaBlocksSpec).at F).post enc Tryd.prog Tryd.f4 false true false false) := by
  obtain ⟨places, hx⟩ := reads os enc
  refine returnsInHanded_of_row (C := Tryd.checked) (s := (OpenSpec.ofChange Rows.shaBlocksSpec)) own started (by kernel_rfl) Tryd.func4
    (witness_row_at (enc := enc) (C := Tryd.checked) false ({ World.holding Tryd.prog os ⟨#[], #[], []⟩ with heap := (World.holding Tryd.prog os ⟨#[], #[], []⟩).heap.modify 0 setTab } : World) wit rfl (by kernel_rfl) (by kernel_rfl) (by kernel_rfl)
      (OpenSpec.preRow_of_cond 8 hx (by kernel_rfl) (fun k hk => by cases hk) (by kernel_rfl) (laid_met os))) ?_
  intro W base args ds gs before hval hW _ hcond hsz hL _ _
  exact contract H enc W base args ds gs before hval hW hL

theorem said : Rows.ShaBlocksSaid :=
  OpenClaim.holds_of_cond 4 Tryd.f4 rfl rfl rfl rfl rfl rfl rfl ⟨rfl, rfl, rfl, rfl, rfl⟩ rfl rfl rfl rfl rfl (by kernel_rfl) Tryd.func4 (by kernel_rfl)
    (of_decide_eq_true (by kernel_rfl)) (by unfold Func.isWrapper; first | (rw [if_pos (by decide +kernel)]; kernel_rfl) | (rw [if_neg (by decide +kernel)]; exact ⟨rfl, rfl⟩))
    (fun os started H enc _ F => by rw [OpenClaim.pre_eq_preRow]; exact lifted os started H enc F)

theorem plain (f : FuncId) (fn : Func) (hf : Tryd.pinned.checked.prog.funcNamed "casket/casketlaw04.ShaBlocks" = some f) (hfn : Tryd.pinned.checked.prog.funcs[f]? = some fn) :
    false = Tryd.pinned.checked.prog.looks [] ∧ ∀ (j : Nat) t, fn.params[j]? = some t → Tryd.pinned.checked.prog.wantsStandIn t = false := by
  obtain rfl : f = 4 := Option.some.inj ((show Tryd.prog.funcNamed "casket/casketlaw04.ShaBlocks" = some 4 by kernel_rfl).symm.trans hf) |>.symm
  obtain rfl : fn = Tryd.f4 := (Option.some.inj (Tryd.func4.symm.trans hfn)).symm
  refine ⟨by kernel_rfl, fun j t ht => ?_⟩
  rw [Tryd.params4] at ht
  have hm : t ∈ [28, 29] := by simpa using Array.mem_of_getElem? ht
  have hall : ([28, 29].all fun u => !Tryd.prog.wantsStandIn u) = true := by kernel_rfl
  exact (show Tryd.prog.wantsStandIn t = false by simpa using List.all_eq_true.1 hall t hm)

theorem card : Rows.ShaBlocksCardSaid :=
  Claim7.holds_tied_plain_at .later [] _ _ _ _ said (fun _ h => by cases h) (by kernel_rfl) (fun _ h => by cases h) shaBlocks_row_tie rfl ⟨rfl, rfl⟩ (by kernel_rfl) rfl plain (by kernel_rfl)
end Go.Proofs.YtbejodcgigdjaaaDoor.shaBlocks
namespace Go.Proofs.YtbejodcgigdjaaaDoor
theorem shaBlocks_holds : Rows.ShaBlocksCardSaid := shaBlocks.card
end Go.Proofs.YtbejodcgigdjaaaDoor
