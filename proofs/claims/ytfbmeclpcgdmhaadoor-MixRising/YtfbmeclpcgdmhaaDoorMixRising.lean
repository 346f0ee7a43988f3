/-
  For every length of a window and any two numbers the law MixRising returns true, and its arguments read behind the call as they read before; the package-level table of places is as the program lays it.
-/
import Derived.Test.YtfbmeclpcgdmhaaDoorCards
import Derived.Test.YtfbmeclpcgdmhaaDoorTie
import Derived.WalkKit
import Derived.ProofKit
import Derived.OpenShut
import Derived.ShutString
import Derived.ChangeOld
import Derived.Below
import Derived.Deep.DeepHandedRow
import Derived.Lib.LaidTab
import Derived.Test.YtfbmeclpcgdmhaaDoorLives
import Derived.Test.YtfbmeclpcgdmhaaDoorTabP
namespace Go.Proofs.YtfbmeclpcgdmhaaDoor.mixRising
open Go.ChangeShapes Go.WideShapes Go.ChangeAt Go.RowKit
set_option linter.unusedVariables false

theorem own : ownKnob Tryd.prog.godebug = none := by kernel_rfl
theorem laidOut : laidOutB Tryd.prog = true := by kernel_rfl
theorem gTab : Tryd.prog.globalNamed "casket/blake.places" = some 1 := by kernel_rfl
theorem gTabType : (Tryd.prog.globals[1]?).map (·.type) = some 55 := by kernel_rfl
theorem cellsG : Tryd.prog.cellsOf 55 = 32 := by kernel_rfl
theorem tabC {W : World} (h : laidMetH Tryd.prog Rows.mixRisingRow.laid W) (h0 : 1 < W.heap.size) : TabC W := ⟨fun j hj => tab_places h j hj, h0⟩

open Go.BigFrame
set_option maxRecDepth 20000 in
set_option maxHeartbeats 2000000 in
theorem core (n a b : Int) (a0 : 0 ≤ a) (a1 : a ≤ 4294967295) (b0 : 0 ≤ b) (b1 : b ≤ 4294967295) (w : World) (hC : TabC w) : Calls Tryd.prog 7 #[.int .i64 n, .int .u32 a, .int .u32 b] w fun e w' => e = .returned (.bool true) ∧ Below w.heap.size w w' := by
  have hlv := hideit (lives_any w hC)
  clear hC
  by_cases h1 : 1 ≤ n
  · by_cases h2 : n ≤ 2147483647
    · have ka := fun X : World => which_any n a h1 h2 a0 a1 X
      have kb := fun X : World => which_any n b h1 h2 b0 b1 X
      have hr1 := fun h : a ≤ b => wh_rising n a b h1 a0 h
      have hr2 := fun h : b ≤ a => wh_rising n b a h1 b0 h
      obtain ⟨p, hp⟩ : ∃ p, p = whI n a := ⟨_, rfl⟩
      obtain ⟨q, hq⟩ : ∃ q, q = whI n b := ⟨_, rfl⟩
      rw [← hp] at ka hr1 hr2
      rw [← hq] at kb hr1 hr2
      replace ka := hideit ka
      replace kb := hideit kb
      clear hp hq
      by_cases hab : b < a
      · have r := hr2 (by omega)
        clear hr1 hr2
        go_enter Tryd.func7, Tryd.ntmps7
        go_wp2_with (first
          | (go_at_call 11; refine hlv.out.mono ?_; rintro e w1 ⟨rfl, hE1⟩; replace hE1 := hideit hE1)
          | (go_at_call 16; refine (kb.out _).mono ?_; rintro e w' ⟨rfl, hw'⟩; rw [hw']; clear hw' kb)
          | (go_at_call 16; refine (ka.out _).mono ?_; rintro e w' ⟨rfl, hw'⟩; rw [hw']; clear hw' ka))
        go_ret
        exact ⟨rfl, hE1.out⟩
      · have r := hr1 (by omega)
        clear hr1 hr2
        go_enter Tryd.func7, Tryd.ntmps7
        go_wp2_with (first
          | (go_at_call 11; refine hlv.out.mono ?_; rintro e w1 ⟨rfl, hE1⟩; replace hE1 := hideit hE1)
          | (go_at_call 16; refine (ka.out _).mono ?_; rintro e w' ⟨rfl, hw'⟩; rw [hw']; clear hw' ka)
          | (go_at_call 16; refine (kb.out _).mono ?_; rintro e w' ⟨rfl, hw'⟩; rw [hw']; clear hw' kb))
        go_ret
        exact ⟨rfl, hE1.out⟩
    · have h3 : 2147483647 < n := by omega
      by_cases hab : b < a
      all_goals
        go_enter Tryd.func7, Tryd.ntmps7
        go_wp2_with (go_at_call 11; refine hlv.out.mono ?_; rintro e w1 ⟨rfl, hE1⟩; replace hE1 := hideit hE1)
        go_ret
        exact ⟨rfl, hE1.out⟩
  · have h3 : n < 1 := by omega
    clear h1
    by_cases hab : b < a
    all_goals
      go_enter Tryd.func7, Tryd.ntmps7
      go_wp2_with (go_at_call 11; refine hlv.out.mono ?_; rintro e w1 ⟨rfl, hE1⟩; replace hE1 := hideit hE1)
      go_ret
      exact ⟨rfl, hE1.out⟩
theorem walk (n : Int) (_ : (Lit.int .i64 n).wf = true) (a : Int) (ha : (Lit.int .u32 a).wf = true) (b : Int) (hb : (Lit.int .u32 b).wf = true) (w : World) (hC : TabC w) : Calls Tryd.prog 7 #[.int .i64 n, .int .u32 a, .int .u32 b] w fun e w' => e = .returned (.bool true) ∧ Below w.heap.size w w' := by
  have h1 := bounds_u32 ha
  have h2 := bounds_u32 hb
  exact core n a b (by omega) (by omega) (by omega) (by omega) w hC

theorem contract (H : Type) (enc : TypeId × Value → H) (W : World) (base : Nat) (args : Array Value) (ds gs : List (DataW H)) (before : List MemPlace)
    (hval0 : ∀ (j : Nat) t v, Tryd.f7.params[j]? = some t → args[j]? = some v → Value.okWide Tryd.prog W .any base t v)
    (hW : DataW.Whole enc Tryd.prog Tryd.f7.params.toList Rows.mixRisingSpec.vars false W args.toList ds gs before) (hL : laidMetH Tryd.prog Rows.mixRisingRow.laid W) :
    Calls Tryd.prog 7 args W fun e W' => ∃ v, e = .returned v ∧ Rows.mixRisingSpec.post enc Tryd.prog Tryd.f7 false true false false W args v W' := by
  have hval := hval0
  have hW' := hW
  obtain ⟨p, q, hA0, hV, rfl, hfz, hnd⟩ := hW
  have hA : DataW.TrodAll enc Tryd.prog W 0 (fun _ => true) true Tryd.f7.params.toList args.toList ds p := hA0
  rw [Tryd.params7] at hA hval
  obtain ⟨v0, vs0, d0, ds0, p0, q0, hargs, rfl, rfl, h0, r0⟩ := trodAll_cons hA
  obtain ⟨v1, vs1, d1, ds1, p1, q1, rfl, rfl, rfl, h1, r1⟩ := trodAll_cons r0
  obtain ⟨v2, vs2, d2, ds2, p2, q2, rfl, rfl, rfl, h2, r2⟩ := trodAll_cons r1
  obtain ⟨rfl, rfl, rfl⟩ := trodAll_nil r2
  obtain rfl : args = #[v0, v1, v2] := by cases args; simp_all
  obtain ⟨rfl, rfl⟩ := trodVars_none hV
  have h0s : 1 < W.heap.size := by
    have hc := tab_places hL 0 (by decide)
    rcases Nat.lt_or_ge 1 W.heap.size with h | h
    · exact h
    · exfalso
      have : W.heap[1]? = none := Array.getElem?_eq_none h
      simp [World.cell?, this] at hc
  have hC : TabC W := tabC hL h0s
  have k0 := h0
  have lt0 : ∀ x ∈ p0, x.block < W.heap.size := by obtain ⟨m, hm⟩ := k0; exact DataW.trod_lt m _ _ _ hm
  have k1 := h1
  have lt1 : ∀ x ∈ p1, x.block < W.heap.size := by obtain ⟨m, hm⟩ := k1; exact DataW.trod_lt m _ _ _ hm
  have k2 := h2
  have lt2 : ∀ x ∈ p2, x.block < W.heap.size := by obtain ⟨m, hm⟩ := k2; exact DataW.trod_lt m _ _ _ hm
  obtain ⟨a0, rfl, rfl, rfl, w0⟩ := open_int Tryd.underlying3 (hval 0 3 v0 rfl rfl) h0
  obtain ⟨a1, rfl, rfl, rfl, w1⟩ := open_int Tryd.underlying36 (hval 1 36 v1 rfl rfl) h1
  obtain ⟨a2, rfl, rfl, rfl, w2⟩ := open_int Tryd.underlying36 (hval 2 36 v2 rfl rfl) h2
  clear hA0 hval0
  refine (walk a0 w0 a1 w1 a2 w2 W  hC).mono fun e W' ⟨he, bel⟩ => ?_
  subst he
  exact ⟨_, rfl, _, _, _, [], _, [], hW', trodAll_mk1 (shut_bool Tryd.underlying4 _), (trodAll_cons_mk (Below.trod laidOut (by kernel_rfl) (of_decide_eq_true (by kernel_rfl)) k0 bel lt0) (trodAll_cons_mk (Below.trod laidOut (by kernel_rfl) (of_decide_eq_true (by kernel_rfl)) k1 bel lt1) (trodAll_cons_mk (Below.trod laidOut (by kernel_rfl) (of_decide_eq_true (by kernel_rfl)) k2 bel lt2) trodAll_mk0))), rfl, bel.frame _, fun h => by cases h⟩

def wit : Array Value := #[.int .i64 0, .int .u32 0, .int .u32 0]
def dat {H : Type} : List (DataW H) := [.lit (.int .i64 0), .lit (.int .u32 0), .lit (.int .u32 0)]
def setTab : Obj → Obj
  | .cells _ t frozen => .cells (row 32 (iv plF)).toArray t frozen
  | o => o
theorem laid_met (os : Os) : laidMet Tryd.prog Rows.mixRisingRow.laid (({ World.holding Tryd.prog os ⟨#[], #[], []⟩ with heap := (World.holding Tryd.prog os ⟨#[], #[], []⟩).heap.modify 1 setTab } : World).forCall (fun _ _ => 0) ⟨#[], wit, []⟩).memory :=
  laidMet_of_run' 8 (by kernel_rfl) (by kernel_rfl)
theorem reads (os : Os) {H : Type} (enc : TypeId × Value → H) : ∃ places, DataW.whole enc Tryd.prog (({ World.holding Tryd.prog os ⟨#[], #[], []⟩ with heap := (World.holding Tryd.prog os ⟨#[], #[], []⟩).heap.modify 1 setTab } : World).forCall (fun _ _ => 0) ⟨#[], wit, []⟩).memory Tryd.f7.params.toList Rows.mixRisingSpec.vars false wit.toList 8 = some (dat, [], places) :=
  ⟨[], by kernel_rfl⟩

set_option maxRecDepth 100000 in
theorem lifted (os : Os) (started : os.Started) (H : Type) (enc : TypeId × Value → H) (F : Stop.Interp) :
    ReturnsInHanded {} Tryd.checked os 7 .any ((OpenSpec.ofChange Rows.mixRisingSpec).preRow enc Tryd.prog Tryd.f7 Rows.mixRisingRow.domain false Rows.mixRisingRow.laid) (((OpenSpec.ofChange Rows.mixRisingSpec).at F).post enc Tryd.prog Tryd.f7 false true false false) := by
  obtain ⟨places, hx⟩ := reads os enc
  refine returnsInHanded_of_row (C := Tryd.checked) (s := (OpenSpec.ofChange Rows.mixRisingSpec)) own started (by kernel_rfl) Tryd.func7
    (witness_row_at (enc := enc) (C := Tryd.checked) false ({ World.holding Tryd.prog os ⟨#[], #[], []⟩ with heap := (World.holding Tryd.prog os ⟨#[], #[], []⟩).heap.modify 1 setTab } : World) wit rfl (by kernel_rfl) (by kernel_rfl) (by kernel_rfl)
      (OpenSpec.preRow_of_cond 8 hx (by kernel_rfl) (fun k hk => by cases hk) (by kernel_rfl) (laid_met os))) ?_
  intro W base args ds gs before hval hW _ hcond hsz hL _ _
  exact contract H enc W base args ds gs before hval hW hL

theorem said : Rows.MixRisingSaid :=
  OpenClaim.holds_of_cond 7 Tryd.f7 rfl rfl rfl rfl rfl rfl rfl ⟨rfl, rfl, rfl, rfl, rfl⟩ rfl rfl rfl rfl rfl (by kernel_rfl) Tryd.func7 (by kernel_rfl)
    (of_decide_eq_true (by kernel_rfl)) (by unfold Func.isWrapper; first | (rw [if_pos (by decide +kernel)]; kernel_rfl) | (rw [if_neg (by decide +kernel)]; exact ⟨rfl, rfl⟩))
    (fun os started H enc _ F => by rw [OpenClaim.pre_eq_preRow]; exact lifted os started H enc F)

theorem plain (f : FuncId) (fn : Func) (hf : Tryd.pinned.checked.prog.funcNamed "casket/casketlaw07.MixRising" = some f) (hfn : Tryd.pinned.checked.prog.funcs[f]? = some fn) :
    false = Tryd.pinned.checked.prog.looks [] ∧ ∀ (j : Nat) t, fn.params[j]? = some t → Tryd.pinned.checked.prog.wantsStandIn t = false := by
  obtain rfl : f = 7 := Option.some.inj ((show Tryd.prog.funcNamed "casket/casketlaw07.MixRising" = some 7 by kernel_rfl).symm.trans hf) |>.symm
  obtain rfl : fn = Tryd.f7 := (Option.some.inj (Tryd.func7.symm.trans hfn)).symm
  refine ⟨by kernel_rfl, fun j t ht => ?_⟩
  rw [Tryd.params7] at ht
  have hm : t ∈ [3, 36, 36] := by simpa using Array.mem_of_getElem? ht
  have hall : ([3, 36, 36].all fun u => !Tryd.prog.wantsStandIn u) = true := by kernel_rfl
  exact (show Tryd.prog.wantsStandIn t = false by simpa using List.all_eq_true.1 hall t hm)

theorem card : Rows.MixRisingCardSaid :=
  Claim7.holds_tied_plain_at .later [] _ _ _ _ said (fun _ h => by cases h) (by kernel_rfl) (fun _ h => by cases h) mixRising_row_tie rfl ⟨rfl, rfl⟩ (by kernel_rfl) rfl plain (by kernel_rfl)
end Go.Proofs.YtfbmeclpcgdmhaaDoor.mixRising
namespace Go.Proofs.YtfbmeclpcgdmhaaDoor
theorem mixRising_holds : Rows.MixRisingCardSaid := mixRising.card
end Go.Proofs.YtfbmeclpcgdmhaaDoor
