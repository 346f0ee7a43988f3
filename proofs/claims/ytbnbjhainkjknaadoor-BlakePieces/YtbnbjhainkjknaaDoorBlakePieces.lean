/-
  For every state, piece, count and mark of the last piece the law BlakePieces returns true, and its arguments read behind the call as they read before; the package-level table of places is as the program lays it. No other condition.
-/
import Derived.Test.YtbnbjhainkjknaaDoorCards
import Derived.Test.YtbnbjhainkjknaaDoorTie
import Derived.WalkKit
import Derived.ProofKit
import Derived.OpenShut
import Derived.ShutString
import Derived.ChangeOld
import Derived.Below
import Derived.Deep.DeepHandedRow
import Derived.Lib.LaidTab
import Derived.Test.YtbnbjhainkjknaaDoorOpen
import Derived.Test.YtbnbjhainkjknaaDoorLives
import Derived.Test.YtbnbjhainkjknaaDoorRPiece
import Derived.Test.YtbnbjhainkjknaaDoorTabP
namespace Go.Proofs.YtbnbjhainkjknaaDoor.blakePieces
open Go.ChangeShapes Go.WideShapes Go.ChangeAt Go.RowKit
set_option linter.unusedVariables false

theorem own : ownKnob Tryd.prog.godebug = none := by kernel_rfl
theorem laidOut : laidOutB Tryd.prog = true := by kernel_rfl
theorem gTab : Tryd.prog.globalNamed "casket/blake.places" = some 0 := by kernel_rfl
theorem gTabType : (Tryd.prog.globals[0]?).map (·.type) = some 58 := by kernel_rfl
theorem cellsG : Tryd.prog.cellsOf 58 = 32 := by kernel_rfl
theorem tabC {W : World} (h : laidMetH Tryd.prog Rows.blakePiecesRow.laid W) (h0 : 0 < W.heap.size) : TabC W := ⟨fun j hj => tab_places h j hj, h0⟩

open Go.BigFrame
theorem sz29 : ∀ w, (sizeOf 29).run Tryd.prog w = .ok 1 w := fun w => by kernel_rfl
theorem eq30 (f : Nat → BitVec 64) (w : World) : (binOp .eql 30 (.agg (row 8 (wv f)).toArray) (.agg (row 8 (wv f)).toArray)).run Tryd.prog w = .ok (.bool true) w := run_eql_refl 30 29 8 .u64 Tryd.underlying30 Tryd.underlying29 sz29 _ w
set_option maxRecDepth 20000 in
set_option maxHeartbeats 1000000 in
theorem walk (s : Nat → BitVec 64) (p : Nat → BitVec 8) (n : Int) (hn : (Lit.int .u64 n).wf = true) (last : Bool) (w : World) (hC : TabC w) : Calls Tryd.prog 4 #[.agg (row 8 (wv s)).toArray, .agg (row 128 (yv p)).toArray, .int .u64 n, .bool last] w fun e w' => e = .returned (.bool true) ∧ Below w.heap.size w w' := by
  obtain ⟨t, rfl⟩ := of_wf64 hn
  clear hn
  have HA : RowAt w.heap.size 8 (wv s) ((w.alloc (.cells (row 8 (wv s)).toArray 30)).alloc (.cells (row 128 (yv p)).toArray 31)) := (RowAt.new w 8 (wv s) 30).alloc _
  have HP : RowAt (w.heap.size + 1) 128 (yv p) ((w.alloc (.cells (row 8 (wv s)).toArray 30)).alloc (.cells (row 128 (yv p)).toArray 31)) := by
    have := RowAt.new (w.alloc (.cells (row 8 (wv s)).toArray 30)) 128 (yv p) 31
    simpa using this
  have HE : Ext w ((w.alloc (.cells (row 8 (wv s)).toArray 30)).alloc (.cells (row 128 (yv p)).toArray 31)) := ((Below.refl _ _).alloc (Nat.le_refl _) _).alloc (by simp) _
  obtain ⟨R, hR⟩ : ∃ R, R = pieceF s p t last := ⟨_, rfl⟩
  obtain ⟨F, hF⟩ : ∃ F, F = fT := ⟨_, rfl⟩
  have hf := first_any
  have hrf := rfirst_any
  have hrb := rpiece_any s p t last
  rw [← hF] at hf hrf
  rw [← hR] at hrb
  have hbl : ∀ X, Ext ((w.alloc (.cells (row 8 (wv s)).toArray 30)).alloc (.cells (row 128 (yv p)).toArray 31)).drew X → Calls Tryd.prog 12 #[.agg (row 8 (wv s)).toArray, .agg (row 128 (yv p)).toArray, .int .u64 (t.toNat : Int), .bool last] X fun e w' => e = .returned (.agg (row 8 (wv R)).toArray) ∧ Below X.heap.size X w' := fun X hX => by
    have := piece_any s p t last X ((hC.ext HE).ext (Ext.trans (Ext.refl _).draw hX))
    rwa [← hR] at this
  have hlv : ∀ X, Ext ((w.alloc (.cells (row 8 (wv s)).toArray 30)).alloc (.cells (row 128 (yv p)).toArray 31)).drew X → Calls Tryd.prog 11 #[] X fun e w' => e = .returned (.bool true) ∧ Below X.heap.size X w' := fun X hX => lives_any X ((hC.ext HE).ext (Ext.trans (Ext.refl _).draw hX))
  have hq1 := eq30 R
  have hq2 := eq30 F
  replace HA := hideit HA
  replace HP := hideit HP
  replace HE := hideit HE
  replace hf := hideit hf
  replace hrf := hideit hrf
  replace hrb := hideit hrb
  replace hbl := hideit hbl
  replace hlv := hideit hlv
  clear hR hF hC
  go_enter Tryd.func4, Tryd.ntmps4
  go_wp2
  have hne := kept_ne ((w.alloc (.cells (row 8 (wv s)).toArray 30)).alloc (.cells (row 128 (yv p)).toArray 31)).drew
  refine wp_region_kept (Ok := Ext ((w.alloc (.cells (row 8 (wv s)).toArray 30)).alloc (.cells (row 128 (yv p)).toArray 31)).drew) (by kernel_rfl) (by kernel_rfl) (Ext.refl _) ?_
  repeat (go_big_quiet_step ((rename_i q; first | (go_at_call 11; exact (hlv.out q.w q.ok).mono fun e w'' h => ⟨h.1, ⟨⟨w'', Ext.trans q.ok h.2⟩, rfl⟩⟩) | (go_at_call 12; exact (hbl.out q.w q.ok).mono fun e w'' h => ⟨h.1, ⟨⟨w'', Ext.trans q.ok h.2⟩, rfl⟩⟩) | (go_at_call 13; exact (hrb.out q.w).mono fun e w'' h => ⟨h.1, ⟨⟨w'', Ext.trans q.ok h.2⟩, rfl⟩⟩) | (go_at_call 14; exact (hf.out q.w).mono fun e w'' h => ⟨h.1, ⟨⟨w'', Ext.trans q.ok h.2⟩, rfl⟩⟩) | (go_at_call 15; exact (hrf.out q.w).mono fun e w'' h => ⟨h.1, ⟨⟨w'', Ext.trans q.ok h.2⟩, rfl⟩⟩))))
  go_big_quiet_want
  refine loadQ 30 (.tmp 4) _ 0 8 (wv s) rfl rfl (fun w' hw' => (HA.out.drew.carry hw').range) Tryd.underlying30 rfl info30 ?_
  simp only [Act.put, List.setIfInBounds_toArray, List.set_cons_zero, List.set_cons_succ]
  go_big_quiet_on
  go_big_quiet_want
  refine loadQ 31 (.tmp 5) _ 0 128 (yv p) rfl rfl (fun w' hw' => (HP.out.drew.carry hw').range) Tryd.underlying31 rfl info31 ?_
  simp only [Act.put, List.setIfInBounds_toArray, List.set_cons_zero, List.set_cons_succ]
  go_big_quiet_on
  repeat (go_big_quiet_step ((rename_i q; first | (go_at_call 11; exact (hlv.out q.w q.ok).mono fun e w'' h => ⟨h.1, ⟨⟨w'', Ext.trans q.ok h.2⟩, rfl⟩⟩) | (go_at_call 12; exact (hbl.out q.w q.ok).mono fun e w'' h => ⟨h.1, ⟨⟨w'', Ext.trans q.ok h.2⟩, rfl⟩⟩) | (go_at_call 13; exact (hrb.out q.w).mono fun e w'' h => ⟨h.1, ⟨⟨w'', Ext.trans q.ok h.2⟩, rfl⟩⟩) | (go_at_call 14; exact (hf.out q.w).mono fun e w'' h => ⟨h.1, ⟨⟨w'', Ext.trans q.ok h.2⟩, rfl⟩⟩) | (go_at_call 15; exact (hrf.out q.w).mono fun e w'' h => ⟨h.1, ⟨⟨w'', Ext.trans q.ok h.2⟩, rfl⟩⟩))))
  go_big_quiet_want
  refine loadQ 30 (.tmp 4) _ 0 8 (wv s) rfl rfl (fun w' hw' => (HA.out.drew.carry hw').range) Tryd.underlying30 rfl info30 ?_
  simp only [Act.put, List.setIfInBounds_toArray, List.set_cons_zero, List.set_cons_succ]
  go_big_quiet_on
  go_big_quiet_want
  refine loadQ 31 (.tmp 5) _ 0 128 (yv p) rfl rfl (fun w' hw' => (HP.out.drew.carry hw').range) Tryd.underlying31 rfl info31 ?_
  simp only [Act.put, List.setIfInBounds_toArray, List.set_cons_zero, List.set_cons_succ]
  go_big_quiet_on
  repeat (go_big_quiet_step ((rename_i q; first | (go_at_call 11; exact (hlv.out q.w q.ok).mono fun e w'' h => ⟨h.1, ⟨⟨w'', Ext.trans q.ok h.2⟩, rfl⟩⟩) | (go_at_call 12; exact (hbl.out q.w q.ok).mono fun e w'' h => ⟨h.1, ⟨⟨w'', Ext.trans q.ok h.2⟩, rfl⟩⟩) | (go_at_call 13; exact (hrb.out q.w).mono fun e w'' h => ⟨h.1, ⟨⟨w'', Ext.trans q.ok h.2⟩, rfl⟩⟩) | (go_at_call 14; exact (hf.out q.w).mono fun e w'' h => ⟨h.1, ⟨⟨w'', Ext.trans q.ok h.2⟩, rfl⟩⟩) | (go_at_call 15; exact (hrf.out q.w).mono fun e w'' h => ⟨h.1, ⟨⟨w'', Ext.trans q.ok h.2⟩, rfl⟩⟩))))
  refine wpQuiet_nil ?_
  intro _ hw'
  obtain ⟨Z, hZ⟩ := hw'
  subst hZ
  go_wp2
  go_ret
  exact ⟨rfl, Ext.trans (Ext.trans HE.out (Ext.refl _).draw) Z.ok⟩

theorem contract (H : Type) (enc : TypeId × Value → H) (W : World) (base : Nat) (args : Array Value) (ds gs : List (DataW H)) (before : List MemPlace)
    (hval0 : ∀ (j : Nat) t v, Tryd.f4.params[j]? = some t → args[j]? = some v → Value.okWide Tryd.prog W .any base t v)
    (hW : DataW.Whole enc Tryd.prog Tryd.f4.params.toList Rows.blakePiecesSpec.vars false W args.toList ds gs before) (hL : laidMetH Tryd.prog Rows.blakePiecesRow.laid W) :
    Calls Tryd.prog 4 args W fun e W' => ∃ v, e = .returned v ∧ Rows.blakePiecesSpec.post enc Tryd.prog Tryd.f4 false true false false W args v W' := by
  have hval := hval0
  have hW' := hW
  obtain ⟨p, q, hA0, hV, rfl, hfz, hnd⟩ := hW
  have hA : DataW.TrodAll enc Tryd.prog W 0 (fun _ => true) true Tryd.f4.params.toList args.toList ds p := hA0
  rw [Tryd.params4] at hA hval
  obtain ⟨v0, vs0, d0, ds0, p0, q0, hargs, rfl, rfl, h0, r0⟩ := trodAll_cons hA
  obtain ⟨v1, vs1, d1, ds1, p1, q1, rfl, rfl, rfl, h1, r1⟩ := trodAll_cons r0
  obtain ⟨v2, vs2, d2, ds2, p2, q2, rfl, rfl, rfl, h2, r2⟩ := trodAll_cons r1
  obtain ⟨v3, vs3, d3, ds3, p3, q3, rfl, rfl, rfl, h3, r3⟩ := trodAll_cons r2
  obtain ⟨rfl, rfl, rfl⟩ := trodAll_nil r3
  obtain rfl : args = #[v0, v1, v2, v3] := by cases args; simp_all
  obtain ⟨rfl, rfl⟩ := trodVars_none hV
  have h0s : 0 < W.heap.size := by
    have hc := tab_places hL 0 (by decide)
    rcases Nat.lt_or_ge 0 W.heap.size with h | h
    · exact h
    · exfalso
      have : W.heap[0]? = none := Array.getElem?_eq_none h
      simp [World.cell?, this] at hc
  have hC : TabC W := tabC hL h0s
  have k0 := h0
  have lt0 : ∀ x ∈ p0, x.block < W.heap.size := by obtain ⟨m, hm⟩ := k0; exact DataW.trod_lt m _ _ _ hm
  have k1 := h1
  have lt1 : ∀ x ∈ p1, x.block < W.heap.size := by obtain ⟨m, hm⟩ := k1; exact DataW.trod_lt m _ _ _ hm
  have k2 := h2
  have lt2 : ∀ x ∈ p2, x.block < W.heap.size := by obtain ⟨m, hm⟩ := k2; exact DataW.trod_lt m _ _ _ hm
  have k3 := h3
  have lt3 : ∀ x ∈ p3, x.block < W.heap.size := by obtain ⟨m, hm⟩ := k3; exact DataW.trod_lt m _ _ _ hm
  obtain ⟨a0, rfl⟩ := open_arru64_8 (hval 0 30 v0 rfl rfl) h0
  obtain ⟨a1, rfl⟩ := open_arru8_128 (hval 1 31 v1 rfl rfl) h1
  obtain ⟨a2, rfl, rfl, rfl, w2⟩ := open_int Tryd.underlying29 (hval 2 29 v2 rfl rfl) h2
  obtain ⟨a3, rfl, rfl, rfl⟩ := open_bool Tryd.underlying4 (hval 3 4 v3 rfl rfl) h3
  clear hA0 hval0
  refine (walk a0 a1 a2 w2 a3 W  hC).mono fun e W' ⟨he, bel⟩ => ?_
  subst he
  exact ⟨_, rfl, _, _, _, [], _, [], hW', trodAll_mk1 (shut_bool Tryd.underlying4 _), (trodAll_cons_mk (Below.trod laidOut (by kernel_rfl) (of_decide_eq_true (by kernel_rfl)) k0 bel lt0) (trodAll_cons_mk (Below.trod laidOut (by kernel_rfl) (of_decide_eq_true (by kernel_rfl)) k1 bel lt1) (trodAll_cons_mk (Below.trod laidOut (by kernel_rfl) (of_decide_eq_true (by kernel_rfl)) k2 bel lt2) (trodAll_cons_mk (Below.trod laidOut (by kernel_rfl) (of_decide_eq_true (by kernel_rfl)) k3 bel lt3) trodAll_mk0)))), rfl, bel.frame _, fun h => by cases h⟩

def wit : Array Value := #[.agg (List.replicate 8 (.int .u64 0)).toArray, .agg (List.replicate 128 (.int .u8 0)).toArray, .int .u64 0, .bool false]
def dat {H : Type} : List (DataW H) := [.agg (List.replicate 8 (.lit (.int .u64 0))), .agg (List.replicate 128 (.lit (.int .u8 0))), .lit (.int .u64 0), .lit (.bool false)]
def setTab : Obj → Obj
  | .cells _ t frozen => .cells (row 32 (iv plF)).toArray t frozen
  | o => o
theorem laid_met (os : Os) : laidMet Tryd.prog Rows.blakePiecesRow.laid (({ World.holding Tryd.prog os ⟨#[], #[], []⟩ with heap := (World.holding Tryd.prog os ⟨#[], #[], []⟩).heap.modify 0 setTab } : World).forCall (fun _ _ => 0) ⟨#[], wit, []⟩).memory :=
  laidMet_of_run' 8 (by kernel_rfl) (by kernel_rfl)
theorem reads (os : Os) {H : Type} (enc : TypeId × Value → H) : ∃ places, DataW.whole enc Tryd.prog (({ World.holding Tryd.prog os ⟨#[], #[], []⟩ with heap := (World.holding Tryd.prog os ⟨#[], #[], []⟩).heap.modify 0 setTab } : World).forCall (fun _ _ => 0) ⟨#[], wit, []⟩).memory Tryd.f4.params.toList Rows.blakePiecesSpec.vars false wit.toList 8 = some (dat, [], places) :=
  ⟨[], by kernel_rfl⟩

set_option maxRecDepth 100000 in
theorem lifted (os : Os) (started : os.Started) (H : Type) (enc : TypeId × Value → H) (F : Stop.Interp) :
    ReturnsInHanded {} Tryd.checked os 4 .any ((OpenSpec.ofChange Rows.blakePiecesSpec).preRow enc Tryd.prog Tryd.f4 Rows.blakePiecesRow.domain false Rows.blakePiecesRow.laid) (((OpenSpec.ofChange Rows.blakePiecesSpec).at F).post enc Tryd.prog Tryd.f4 false true false false) := by
  obtain ⟨places, hx⟩ := reads os enc
  refine returnsInHanded_of_row (C := Tryd.checked) (s := (OpenSpec.ofChange Rows.blakePiecesSpec)) own started (by kernel_rfl) Tryd.func4
    (witness_row_at (enc := enc) (C := Tryd.checked) false ({ World.holding Tryd.prog os ⟨#[], #[], []⟩ with heap := (World.holding Tryd.prog os ⟨#[], #[], []⟩).heap.modify 0 setTab } : World) wit rfl (by kernel_rfl) (by kernel_rfl) (by kernel_rfl)
      (OpenSpec.preRow_of_cond 8 hx (by kernel_rfl) (fun k hk => by cases hk) (by kernel_rfl) (laid_met os))) ?_
  intro W base args ds gs before hval hW _ hcond hsz hL _ _
  exact contract H enc W base args ds gs before hval hW hL

theorem said : Rows.BlakePiecesSaid :=
  OpenClaim.holds_of_cond 4 Tryd.f4 rfl rfl rfl rfl rfl rfl rfl ⟨rfl, rfl, rfl, rfl, rfl⟩ rfl rfl rfl rfl rfl (by kernel_rfl) Tryd.func4 (by kernel_rfl)
    (of_decide_eq_true (by kernel_rfl)) (by unfold Func.isWrapper; first | (rw [if_pos (by decide +kernel)]; kernel_rfl) | (rw [if_neg (by decide +kernel)]; exact ⟨rfl, rfl⟩))
    (fun os started H enc _ F => by rw [OpenClaim.pre_eq_preRow]; exact lifted os started H enc F)

theorem plain (f : FuncId) (fn : Func) (hf : Tryd.pinned.checked.prog.funcNamed "casket/casketlaw06.BlakePieces" = some f) (hfn : Tryd.pinned.checked.prog.funcs[f]? = some fn) :
    false = Tryd.pinned.checked.prog.looks [] ∧ ∀ (j : Nat) t, fn.params[j]? = some t → Tryd.pinned.checked.prog.wantsStandIn t = false := by
  obtain rfl : f = 4 := Option.some.inj ((show Tryd.prog.funcNamed "casket/casketlaw06.BlakePieces" = some 4 by kernel_rfl).symm.trans hf) |>.symm
  obtain rfl : fn = Tryd.f4 := (Option.some.inj (Tryd.func4.symm.trans hfn)).symm
  refine ⟨by kernel_rfl, fun j t ht => ?_⟩
  rw [Tryd.params4] at ht
  have hm : t ∈ [30, 31, 29, 4] := by simpa using Array.mem_of_getElem? ht
  have hall : ([30, 31, 29, 4].all fun u => !Tryd.prog.wantsStandIn u) = true := by kernel_rfl
  exact (show Tryd.prog.wantsStandIn t = false by simpa using List.all_eq_true.1 hall t hm)

theorem card : Rows.BlakePiecesCardSaid :=
  Claim7.holds_tied_plain_at .later [] _ _ _ _ said (fun _ h => by cases h) (by kernel_rfl) (fun _ h => by cases h) blakePieces_row_tie rfl ⟨rfl, rfl⟩ (by kernel_rfl) rfl plain (by kernel_rfl)
end Go.Proofs.YtbnbjhainkjknaaDoor.blakePieces
namespace Go.Proofs.YtbnbjhainkjknaaDoor
theorem blakePieces_holds : Rows.BlakePiecesCardSaid := blakePieces.card
end Go.Proofs.YtbnbjhainkjknaaDoor
