/-
  Each level of a tree has a sixteenth of the nodes of the one ahead, rounded up, and the last one has one; of a number that no tree has there is no level: whatever the number.
-/
import Derived.Test.YtapmheocllicnaaDoorCards
import Derived.Test.YtapmheocllicnaaDoorTie
import Derived.WalkKit
import Derived.ProofKit
import Derived.OpenShut
import Derived.ShutString
import Derived.ChangeOld
import Derived.Below
import Derived.Deep.DeepHandedRow
import Derived.Lib.LaidTab
import Derived.Test.YtapmheocllicnaaDoorLiv
import Derived.Test.YtapmheocllicnaaDoorOpen
namespace Go.Proofs.YtapmheocllicnaaDoor.treeCounts
open Go.ChangeShapes Go.WideShapes Go.ChangeAt Go.RowKit
set_option linter.unusedVariables false

theorem own : ownKnob Tryd.prog.godebug = none := by kernel_rfl
theorem laidOut : laidOutB Tryd.prog = true := by kernel_rfl
theorem gTab : Tryd.prog.globalNamed "casket/sha.constants" = some 0 := by kernel_rfl
theorem gTabType : (Tryd.prog.globals[0]?).map (·.type) = some 77 := by kernel_rfl
theorem cellsG : Tryd.prog.cellsOf 77 = 64 := by kernel_rfl
theorem cellsE : Tryd.prog.cellsOf 67 = 1 := by kernel_rfl
def tabL : List Int := [1116352408, 1899447441, 3049323471, 3921009573, 961987163, 1508970993, 2453635748, 2870763221, 3624381080, 310598401, 607225278, 1426881987, 1925078388, 2162078206, 2614888103, 3248222580, 3835390401, 4022224774, 264347078, 604807628, 770255983, 1249150122, 1555081692, 1996064986, 2554220882, 2821834349, 2952996808, 3210313671, 3336571891, 3584528711, 113926993, 338241895, 666307205, 773529912, 1294757372, 1396182291, 1695183700, 1986661051, 2177026350, 2456956037, 2730485921, 2820302411, 3259730800, 3345764771, 3516065817, 3600352804, 4094571909, 275423344, 430227734, 506948616, 659060556, 883997877, 958139571, 1322822218, 1537002063, 1747873779, 1955562222, 2024104815, 2227730452, 2361852424, 2428436474, 2756734187, 3204031479, 3329325298]
theorem table {W : World} (h : laidMetH Tryd.prog Rows.treeCountsRow.laid W) : Lib.TabIs Tryd.prog W "casket/sha.constants" .u32 tabL :=
  Lib.tabIs_of_head (rest := []) gTab gTabType Tryd.underlying77 Tryd.underlying67 cellsE cellsG h
theorem tab_kT : ∀ j, j < 64 → tabL.getD j 0 = ((kT j).toNat : Int) := by decide +kernel
theorem tabC {W : World} (h : laidMetH Tryd.prog Rows.treeCountsRow.laid W) (h0 : 0 < W.heap.size) : TabC W :=
  ⟨fun j hj => by
    rw [← tab_kT j hj]
    exact (table h).cell gTab j hj, h0⟩

open Go.BigFrame
theorem lc_eq (n i : Nat) : lc n i = (lcP n i + 15) / 16 := by cases i <;> rfl
set_option maxRecDepth 20000 in
set_option maxHeartbeats 4000000 in
theorem walk (n : Int) (_ : (Lit.int .i64 n).wf = true) (w : World) (hC : TabC w) : Calls Tryd.prog 8 #[.int .i64 n] w fun e w' => e = .returned (.bool true) ∧ Below w.heap.size w w' := by
  by_cases hn : n < 1 ∨ 4096 < n
  · have kl := hideit (levels_no n hn w)
    have kv := hideit (lives_any w hC)
    clear hC
    by_cases h1 : n < 1
    · clear hn
      go_enter Tryd.func8, Tryd.ntmps8
      go_upto_region 2 with (go_at_call 17; refine kl.out.mono ?_; rintro e w9 ⟨rfl, hw9⟩; rw [hw9]; clear hw9)
      clear kl
      go_upto_region 4 with (go_at_call 11; refine kv.out.mono ?_; rintro e w3 ⟨rfl, hX3⟩; replace hX3 := hideit hX3)
      clear kv
      go_wp2
      go_ret
      exact ⟨rfl, hX3.out⟩
    · have h2 : 4096 < n := by omega
      clear hn
      go_enter Tryd.func8, Tryd.ntmps8
      go_upto_region 2 with (go_at_call 17; refine kl.out.mono ?_; rintro e w9 ⟨rfl, hw9⟩; rw [hw9]; clear hw9)
      clear kl
      go_upto_region 4 with (go_at_call 11; refine kv.out.mono ?_; rintro e w3 ⟨rfl, hX3⟩; replace hX3 := hideit hX3)
      clear kv
      go_wp2
      go_ret
      exact ⟨rfl, hX3.out⟩
  · obtain ⟨m, rfl⟩ : ∃ m : Nat, n = (m : Int) := ⟨n.toNat, by omega⟩
    have h1 : 1 ≤ m := by omega
    have h2 : m ≤ 4096 := by omega
    have kl := hideit (levels_any m w h1 h2)
    have hlv := hideit (bld_lv m h1 h2)
    have htop := bld_top m h1 h2
    have hN := lvN_pos m
    obtain ⟨N, hNN⟩ : ∃ N, N = lvN m := ⟨_, rfl⟩
    rw [← hNN] at kl hlv htop hN
    replace htop := hideit htop
    replace hC := hideit hC
    clear hNN hn
    have i1 : ¬ (m : Int) < 1 := by omega
    have i2 : ¬ (4096 : Int) < (m : Int) := by omega
    go_enter Tryd.func8, Tryd.ntmps8
    go_upto_region 1 with (fail)
    refine wp_region_lit ?_
    refine wpList_run rfl (.int .i64 (m : Int)) (by simp [go_sem]) ?_
    simp only [Act.put, List.setIfInBounds_toArray, List.set_cons_zero, List.set_cons_succ]
    refine wpList_call rfl (by simp [go_sem]) (kl.out.mono ?_)
    rintro e w1 ⟨v1, rfl, hO, hE⟩
    refine ⟨_, rfl, ?_⟩
    simp only [Act.put, List.setIfInBounds_toArray, List.set_cons_zero, List.set_cons_succ]
    obtain ⟨cb, ccap, rfl, -, -, -, hcb⟩ := hO.lies (by omega)
    have kv := hideit (lives_any w1 (hC.out.ext hE))
    replace hcb := hideit hcb
    replace hE := hideit hE
    clear hO kl
    go_upto_region 4 with (go_at_call 11; refine kv.out.mono ?_; rintro e w3 ⟨rfl, hX3⟩; have R3 := hideit (hcb.out.carry hX3); have E3 := hideit (Ext.trans hE.out hX3); clear hcb hE hX3)
    clear kv hC
    go_wp2
    go_loopw [4, 5] (fun bv iv X => ∃ i q : Nat, i ≤ N ∧ iv = .int .i64 (i : Int) ∧ bv = .int .i64 (q : Int) ∧ q = lcP m i ∧ X = w3) (fun _ iv _ => N - (intOf iv).toNat)
    case atStart => exact ⟨0, m, Nat.zero_le _, rfl, rfl, rfl, rfl⟩
    case round =>
      obtain ⟨i, q, hi, rfl, rfl, hq, rfl⟩ := hrel
      by_cases hlt : i < N
      · have j0 : (0 : Int) ≤ (i : Int) := by omega
        have j1 : (i : Int) < (N : Int) := by omega
        have e1 := R3.out.1 i hlt
        obtain ⟨c, hc⟩ : ∃ c, c = lc m i := ⟨_, rfl⟩
        rw [show lcV m i = .int .i64 (c : Int) by rw [hc]; rfl] at e1
        have hce := lc_eq m i
        rw [← hc, ← hq] at hce
        obtain ⟨g1, g2, g3, g4⟩ := hlv.out i hlt
        rw [← hc] at g1 g2
        have k1 : ¬ (c : Int) * 16 < (q : Int) := by omega
        have k2 : ¬ (q : Int) ≤ ((c : Int) - 1) * 16 := by omega
        have g2' : (c : Int) ≤ 256 := by omega
        have g1' : (1 : Int) ≤ (c : Int) := by omega
        replace hc := hideit hc
        replace hq := hideit hq
        replace hce := hideit hce
        clear g3 g4
        go_wp2
        exact ⟨⟨i + 1, c, by omega, by go_num, rfl, hc.out, by first | rfl | trivial⟩, by simp [intOf]; omega⟩
      · obtain rfl : i = N := by omega
        have j1 : ¬ (i : Int) < (i : Int) := by omega
        have hq1 : q = 1 := by rw [hq]; exact htop.out
        subst hq1
        clear hq
        go_wp2
        go_ret
        exact ⟨rfl, E3.out⟩

theorem contract (H : Type) (enc : TypeId × Value → H) (W : World) (base : Nat) (args : Array Value) (ds gs : List (DataW H)) (before : List MemPlace)
    (hval0 : ∀ (j : Nat) t v, Tryd.f8.params[j]? = some t → args[j]? = some v → Value.okWide Tryd.prog W .any base t v)
    (hW : DataW.Whole enc Tryd.prog Tryd.f8.params.toList Rows.treeCountsSpec.vars false W args.toList ds gs before) (hL : laidMetH Tryd.prog Rows.treeCountsRow.laid W) :
    Calls Tryd.prog 8 args W fun e W' => ∃ v, e = .returned v ∧ Rows.treeCountsSpec.post enc Tryd.prog Tryd.f8 false true false false W args v W' := by
  have hval := hval0
  have hW' := hW
  obtain ⟨p, q, hA0, hV, rfl, hfz, hnd⟩ := hW
  have hA : DataW.TrodAll enc Tryd.prog W 0 (fun _ => true) true Tryd.f8.params.toList args.toList ds p := hA0
  rw [Tryd.params8] at hA hval
  obtain ⟨v0, vs0, d0, ds0, p0, q0, hargs, rfl, rfl, h0, r0⟩ := trodAll_cons hA
  obtain ⟨rfl, rfl, rfl⟩ := trodAll_nil r0
  obtain rfl : args = #[v0] := by cases args; simp_all
  obtain ⟨rfl, rfl⟩ := trodVars_none hV
  have h0s : 0 < W.heap.size := by
    have hc := (table hL).cell gTab 0 (by decide)
    rcases Nat.lt_or_ge 0 W.heap.size with h | h
    · exact h
    · exfalso
      have : W.heap[0]? = none := Array.getElem?_eq_none h
      simp [World.cell?, this] at hc
  have hC : TabC W := tabC hL h0s
  have k0 := h0
  have lt0 : ∀ x ∈ p0, x.block < W.heap.size := by obtain ⟨m, hm⟩ := k0; exact DataW.trod_lt m _ _ _ hm
  obtain ⟨a0, rfl, rfl, rfl, w0⟩ := open_int Tryd.underlying3 (hval 0 3 v0 rfl rfl) h0
  clear hA0 hval0
  refine (walk a0 w0 W  hC).mono fun e W' ⟨he, bel⟩ => ?_
  subst he
  exact ⟨_, rfl, _, _, _, [], _, [], hW', trodAll_mk1 (shut_bool Tryd.underlying4 _), (trodAll_cons_mk (Below.trod laidOut (by kernel_rfl) (of_decide_eq_true (by kernel_rfl)) k0 bel lt0) trodAll_mk0), rfl, bel.frame _, fun h => by cases h⟩

def wit : Array Value := #[.int .i64 0]
def dat {H : Type} : List (DataW H) := [.lit (.int .i64 0)]
def setTab : Obj → Obj
  | .cells _ t frozen => .cells (tabL.map fun z => Value.int .u32 z).toArray t frozen
  | o => o
theorem laid_met (os : Os) : laidMet Tryd.prog Rows.treeCountsRow.laid (({ World.holding Tryd.prog os ⟨#[], #[], []⟩ with heap := (World.holding Tryd.prog os ⟨#[], #[], []⟩).heap.modify 0 setTab } : World).forCall (fun _ _ => 0) ⟨#[], wit, []⟩).memory :=
  laidMet_of_run' 8 (by kernel_rfl) (by kernel_rfl)
theorem reads (os : Os) {H : Type} (enc : TypeId × Value → H) : ∃ places, DataW.whole enc Tryd.prog (({ World.holding Tryd.prog os ⟨#[], #[], []⟩ with heap := (World.holding Tryd.prog os ⟨#[], #[], []⟩).heap.modify 0 setTab } : World).forCall (fun _ _ => 0) ⟨#[], wit, []⟩).memory Tryd.f8.params.toList Rows.treeCountsSpec.vars false wit.toList 8 = some (dat, [], places) :=
  ⟨[], by kernel_rfl⟩

set_option maxRecDepth 100000 in
theorem lifted (os : Os) (started : os.Started) (H : Type) (enc : TypeId × Value → H) (F : Stop.Interp) :
    ReturnsInHanded {} Tryd.checked os 8 .any ((OpenSpec.ofChange Rows.treeCountsSpec).preRow enc Tryd.prog Tryd.f8 Rows.treeCountsRow.domain false Rows.treeCountsRow.laid) (((OpenSpec.ofChange Rows.treeCountsSpec).at F).post enc Tryd.prog Tryd.f8 false true false false) := by
  obtain ⟨places, hx⟩ := reads os enc
  refine returnsInHanded_of_row (C := Tryd.checked) (s := (OpenSpec.ofChange Rows.treeCountsSpec)) own started (by kernel_rfl) Tryd.func8
    (witness_row_at (enc := enc) (C := Tryd.checked) false ({ World.holding Tryd.prog os ⟨#[], #[], []⟩ with heap := (World.holding Tryd.prog os ⟨#[], #[], []⟩).heap.modify 0 setTab } : World) wit rfl (by kernel_rfl) (by kernel_rfl) (by kernel_rfl)
      (OpenSpec.preRow_of_cond 8 hx (by kernel_rfl) (fun k hk => by cases hk) (by kernel_rfl) (laid_met os))) ?_
  intro W base args ds gs before hval hW _ hcond hsz hL _ _
  exact contract H enc W base args ds gs before hval hW hL

theorem said : Rows.TreeCountsSaid :=
  OpenClaim.holds_of_cond 8 Tryd.f8 rfl rfl rfl rfl rfl rfl rfl ⟨rfl, rfl, rfl, rfl, rfl⟩ rfl rfl rfl rfl rfl (by kernel_rfl) Tryd.func8 (by kernel_rfl)
    (of_decide_eq_true (by kernel_rfl)) (by unfold Func.isWrapper; first | (rw [if_pos (by decide +kernel)]; kernel_rfl) | (rw [if_neg (by decide +kernel)]; exact ⟨rfl, rfl⟩))
    (fun os started H enc _ F => by rw [OpenClaim.pre_eq_preRow]; exact lifted os started H enc F)

theorem plain (f : FuncId) (fn : Func) (hf : Tryd.pinned.checked.prog.funcNamed "casket/casketlaw16.TreeCounts" = some f) (hfn : Tryd.pinned.checked.prog.funcs[f]? = some fn) :
    false = Tryd.pinned.checked.prog.looks [] ∧ ∀ (j : Nat) t, fn.params[j]? = some t → Tryd.pinned.checked.prog.wantsStandIn t = false := by
  obtain rfl : f = 8 := Option.some.inj ((show Tryd.prog.funcNamed "casket/casketlaw16.TreeCounts" = some 8 by kernel_rfl).symm.trans hf) |>.symm
  obtain rfl : fn = Tryd.f8 := (Option.some.inj (Tryd.func8.symm.trans hfn)).symm
  refine ⟨by kernel_rfl, fun j t ht => ?_⟩
  rw [Tryd.params8] at ht
  have hm : t ∈ [3] := by simpa using Array.mem_of_getElem? ht
  have hall : ([3].all fun u => !Tryd.prog.wantsStandIn u) = true := by kernel_rfl
  exact (show Tryd.prog.wantsStandIn t = false by simpa using List.all_eq_true.1 hall t hm)

theorem card : Rows.TreeCountsCardSaid :=
  Claim7.holds_tied_plain_at .later [] _ _ _ _ said (fun _ h => by cases h) (by kernel_rfl) (fun _ h => by cases h) treeCounts_row_tie rfl ⟨rfl, rfl⟩ (by kernel_rfl) rfl plain (by kernel_rfl)
end Go.Proofs.YtapmheocllicnaaDoor.treeCounts
namespace Go.Proofs.YtapmheocllicnaaDoor
theorem treeCounts_holds : Rows.TreeCountsCardSaid := treeCounts.card
end Go.Proofs.YtapmheocllicnaaDoor
