/-
  The library's sort, at the entries of a Sorted.
-/
import Derived.Test.YtboncdlihgpepaaSo2
import Derived.Shelf.SlSortCmp.WholeK
import Derived.Shelf.SlGeneric
import Derived.Ground.SlsfProg
namespace Go.Proofs.Ytboncdlihgpepaa
open Go.RowKit Go.BigFrame Go.Maps Go.ChangeMaps Go.MapKept
set_option linter.unusedVariables false
open Go.Shelf Go.Lib Go.Sort
def sortKv_ren : Go.Shelf.Ren := ⟨fun | 6 => 50 | 15 => 54 | 14 => 53 | 28 => 64 | 29 => 65 | 20 => 56 | 21 => 57 | 22 => 58 | 23 => 59 | 24 => 60 | 25 => 61 | 26 => 62 | 27 => 63 | 46 => 66 | 47 => 67 | 48 => 68 | 49 => 69 | 50 => 70 | 57 => 71 | n => n, fun | 22 => 85 | 24 => 88 | 25 => 93 | 3 => 3 | 39 => 55 | 0 => 0 | 53 => 105 | 55 => 29 | 4 => 4 | 46 => 98 | 45 => 97 | 50 => 102 | 5 => 5 | 9 => 9 | 66 => 107 | 70 => 111 | 76 => 113 | 77 => 114 | n => n, fun | n => n⟩
theorem sortKv : Go.Proofs.SlLaysF0.n6 Try.prog sortKv_ren := {
  mixed := by kernel_rfl
  f6 := ⟨Try.f50.name, by decide, Try.func50.trans (congrArg some (by kernel_rfl))⟩
  f14 := ⟨Try.f53.name, by decide, Try.func53.trans (congrArg some (by kernel_rfl))⟩
  f15 := Try.func54.trans (congrArg some (by kernel_rfl))
  f20 := ⟨Try.f56.name, by decide, Try.func56.trans (congrArg some (by kernel_rfl))⟩
  f21 := ⟨Try.f57.name, by decide, Try.func57.trans (congrArg some (by kernel_rfl))⟩
  f22 := ⟨Try.f58.name, by decide, Try.func58.trans (congrArg some (by kernel_rfl))⟩
  f23 := ⟨Try.f59.name, by decide, Try.func59.trans (congrArg some (by kernel_rfl))⟩
  f24 := ⟨Try.f60.name, by decide, Try.func60.trans (congrArg some (by kernel_rfl))⟩
  f25 := ⟨Try.f61.name, by decide, Try.func61.trans (congrArg some (by kernel_rfl))⟩
  f26 := ⟨Try.f62.name, by decide, Try.func62.trans (congrArg some (by kernel_rfl))⟩
  f27 := ⟨Try.f63.name, by decide, Try.func63.trans (congrArg some (by kernel_rfl))⟩
  f28 := Try.func64.trans (congrArg some (by kernel_rfl))
  f29 := Try.func65.trans (congrArg some (by kernel_rfl))
  f46 := ⟨Try.f66.name, by decide, Try.func66.trans (congrArg some (by kernel_rfl))⟩
  f47 := Try.func67.trans (congrArg some (by kernel_rfl))
  f48 := Try.func68.trans (congrArg some (by kernel_rfl))
  f49 := ⟨Try.f69.name, by decide, Try.func69.trans (congrArg some (by kernel_rfl))⟩
  f50 := ⟨Try.f70.name, by decide, Try.func70.trans (congrArg some (by kernel_rfl))⟩
  f57 := ⟨Try.f71.name, by decide, Try.func71.trans (congrArg some (by kernel_rfl))⟩
  t0 := Try.underlying0
  a0 := Try.isAgg0
  z0 := Try.sizeOf0
  v0 := Try.zeroValue0
  t3 := Try.underlying3
  a3 := Try.isAgg3
  z3 := Try.sizeOf3
  v3 := Try.zeroValue3
  t4 := Try.underlying4
  a4 := Try.isAgg4
  z4 := Try.sizeOf4
  v4 := Try.zeroValue4
  t5 := Try.underlying5
  a5 := Try.isAgg5
  z5 := Try.sizeOf5
  v5 := Try.zeroValue5
  t9 := Try.underlying9
  a9 := Try.isAgg9
  z9 := Try.sizeOf9
  v9 := Try.zeroValue9
  t22 := Try.underlying85
  a22 := Try.isAgg85
  z22 := Try.sizeOf85
  v22 := Try.zeroValue85
  t25 := Try.underlying93
  a25 := Try.isAgg93
  z25 := Try.sizeOf93
  v25 := Try.zeroValue93
  t39 := Try.underlying55
  a39 := Try.isAgg55
  z39 := Try.sizeOf55
  v39 := Try.zeroValue55
  t45 := Try.underlying97
  a45 := Try.isAgg97
  z45 := Try.sizeOf97
  v45 := Try.zeroValue97
  t46 := Try.underlying98
  a46 := Try.isAgg98
  z46 := Try.sizeOf98
  v46 := Try.zeroValue98
  t50 := Try.underlying102
  a50 := Try.isAgg102
  z50 := Try.sizeOf102
  v50 := Try.zeroValue102
  t53 := Try.underlying105
  a53 := Try.isAgg105
  z53 := Try.sizeOf105
  v53 := Try.zeroValue105
  t55 := Try.underlying29
  a55 := Try.isAgg29
  z55 := Try.sizeOf29
  v55 := Try.zeroValue29
  t66 := Try.underlying107
  a66 := Try.isAgg107
  z66 := Try.sizeOf107
  v66 := Try.zeroValue107
  t70 := Try.underlying111
  a70 := Try.isAgg111
  z70 := Try.sizeOf111
  v70 := Try.zeroValue111
  t76 := Try.underlying113
  a76 := Try.isAgg113
  z76 := Try.sizeOf113
  v76 := Try.zeroValue113
  t77 := Try.underlying114
  a77 := Try.isAgg114
  z77 := Try.sizeOf114
  v77 := Try.zeroValue114 }
theorem nan55 (a : Int) (W : World) : Calls Try.prog 55 #[.int .i64 a] W fun e w' => e = .returned (.bool false) ∧ w' = W := by
  go_enter Try.func55, Try.ntmps55
  go_wp2
  go_ret
  exact ⟨by simp, rfl⟩
theorem cmp52 (a b : Int) (W : World) : Calls Try.prog 52 #[.int .i64 a, .int .i64 b] W fun e w' => e = .returned (.int .i64 (compareInt a b)) ∧ w' = W := by
  have ka := hideit (nan55 a W)
  have kb := hideit (nan55 b W)
  unfold compareInt
  by_cases h1 : a < b
  · rw [if_pos h1]
    go_enter Try.func52, Try.ntmps52
    go_wp2_with (first | (go_at_call 55; refine ka.out.mono ?_; rintro e w9 ⟨rfl, hw9⟩; rw [hw9]; clear hw9) | (go_at_call 55; refine kb.out.mono ?_; rintro e w9 ⟨rfl, hw9⟩; rw [hw9]; clear hw9))
    go_ret
    exact ⟨rfl, rfl⟩
  · rw [if_neg h1]
    by_cases h2 : a > b
    · rw [if_pos h2]
      have h2' : b < a := h2
      clear h2
      go_enter Try.func52, Try.ntmps52
      go_wp2_with (first | (go_at_call 55; refine ka.out.mono ?_; rintro e w9 ⟨rfl, hw9⟩; rw [hw9]; clear hw9) | (go_at_call 55; refine kb.out.mono ?_; rintro e w9 ⟨rfl, hw9⟩; rw [hw9]; clear hw9))
      go_ret
      exact ⟨rfl, rfl⟩
    · rw [if_neg h2]
      have h2' : ¬ b < a := h2
      clear h2
      go_enter Try.func52, Try.ntmps52
      go_wp2_with (first | (go_at_call 55; refine ka.out.mono ?_; rintro e w9 ⟨rfl, hw9⟩; rw [hw9]; clear hw9) | (go_at_call 55; refine kb.out.mono ?_; rintro e w9 ⟨rfl, hw9⟩; rw [hw9]; clear hw9))
      go_ret
      exact ⟨rfl, rfl⟩
def encKp (x : KV) : List Value := [.int .i64 x.1, .string x.2]
instance : Inhabited KV := ⟨kd⟩
set_option maxHeartbeats 1000000 in
theorem closure51 (x y : KV) (W : World) : Calls Try.prog 51 #[.agg #[.int .i64 x.1, .string x.2], .agg #[.int .i64 y.1, .string y.2]] W fun e w' => e = .returned (.int .i64 (compareInt x.1 y.1)) ∧ ∃ q os', w' = grow (W.drewN q) os' := by
  have hcon := fun W' => cmp52 x.1 y.1 W'
  generalize compareInt x.1 y.1 = r at hcon ⊢
  go_enter Try.func51, Try.ntmps51
  go_wp2_with (go_at_call 52; refine (hcon _).mono ?_; rintro e w' ⟨rfl, rfl⟩)
  go_ret
  exact ⟨rfl, 0, _, by rw [alloc_eq_grow, alloc_eq_grow, grow_grow]; rfl⟩
theorem cmpLays51 (blk off size : Nat) (w : World) : CmpLays Try.prog 51 #[] encKp 2 (fun x y => compareInt x.1 y.1) blk off size w :=
  fun _ _ _ _ x y => closure51 x y _
theorem ltKp (x y : KV) : ltOf (fun x y : KV => compareInt x.1 y.1) x y = decide (x.1 < y.1) := by
  unfold ltOf compareInt
  by_cases h1 : x.1 < y.1
  · simp [h1]
  · by_cases h2 : y.1 < x.1 <;> simp [h1, h2]
theorem swoKp : SWO (ltOf fun x y : KV => compareInt x.1 y.1) := { irrefl := fun x => by rw [ltKp]; simp, trans := fun x y z h1 h2 => by rw [ltKp] at *; simp at *; omega, ntrans := fun x y z h1 h2 => by rw [ltKp] at *; simp at *; omega }
theorem isAgg88 (w : World) : (isAgg 88).run Try.prog w = .ok true w := by kernel_rfl
theorem sizeOf88 (w : World) : (sizeOf 88).run Try.prog w = .ok 2 w := by kernel_rfl
/-- the sort, of a list of any length -/
theorem sort_any (blk cap : Nat) (d : Array (KV)) (w : World) (hH : HoldsK encKp 2 w blk 0 d) (hblk : blk < w.heap.size) (hsz : d.size < 4611686018427387904) :
    Calls Try.prog 50 #[.slice (some ⟨blk, 0, none⟩) d.size cap, .func (.func 51) #[] #[]] w fun e w' => e = .returned (.tuple #[]) ∧ ∃ d' n os, PermIn 0 d.size d d' ∧ SortedIn (ltOf fun x y : KV => compareInt x.1 y.1) 0 d.size d' ∧ w' = sortWorldK encKp 2 w blk 0 n d' os := by
  have eg : ∀ args w, (callFunc 51 args).run Try.prog w = .ok (.enter 51 args) w := enters_of Try.func51 (by kernel_rfl) rfl
  have hcon := AnyQ.slices_SortFunc sortKv 2 isAgg88 sizeOf88 encKp (fun _ => rfl) (fun x v hv => by simp [encKp] at hv; rcases hv with rfl | rfl <;> rfl) (fun x y => compareInt x.1 y.1) swoKp 51 #[] blk 0 cap d w eg (cmpLays51 blk 0 d.size w) hH hblk hsz
  exact hcon
set_option maxRecDepth 20000 in
theorem len64_0 (w : World) : Calls Try.prog 65 #[.int .u64 0] w fun e w' => ∃ z, e = .returned (.int .i64 z) ∧ w' = w := by
  go_enter Try.func65, Try.ntmps65
  go_wp2
  go_ret
  exact ⟨_, rfl, rfl⟩
set_option maxRecDepth 20000 in
theorem len64_1 (w : World) : Calls Try.prog 65 #[.int .u64 1] w fun e w' => ∃ z, e = .returned (.int .i64 z) ∧ w' = w := by
  go_enter Try.func65, Try.ntmps65
  go_wp2
  go_ret
  exact ⟨_, rfl, rfl⟩
theorem len_tiny (n : Nat) (hn : n ≤ 1) (w : World) : Calls Try.prog 54 #[.int .u64 (n : Int)] w fun e w' => ∃ z, e = .returned (.int .i64 z) ∧ w' = w := by
  rcases (by omega : n = 0 ∨ n = 1) with rfl | rfl
  · have k := hideit (len64_0 w)
    go_enter Try.func54, Try.ntmps54
    go_wp2_with (go_at_call 65; refine k.out.mono ?_; rintro e w9 ⟨z, rfl, hw9⟩; rw [hw9]; clear hw9)
    go_ret
    exact ⟨_, rfl, rfl⟩
  · have k := hideit (len64_1 w)
    go_enter Try.func54, Try.ntmps54
    go_wp2_with (go_at_call 65; refine k.out.mono ?_; rintro e w9 ⟨z, rfl, hw9⟩; rw [hw9]; clear hw9)
    go_ret
    exact ⟨_, rfl, rfl⟩
theorem ins_tiny (o : Option Addr) (n cap : Nat) (hn : n ≤ 1) (fv : Value) (w : World) : Calls Try.prog 56 #[.slice o n cap, .int .i64 0, .int .i64 (n : Int), fv] w fun e w' => e = .returned (.tuple #[]) ∧ w' = w := by
  have h1 : ¬ (1 : Int) < (n : Int) := by omega
  go_enter Try.func56, Try.ntmps56
  go_wp2
  refine wp_loop_rounds 1 ?_
  rw [rounds_succ]
  go_wp2
  exact bodyPost_end (v := .tuple #[]) (by simp [results, Try.results56]) rfl ⟨rfl, rfl⟩
theorem pdq_tiny (o : Option Addr) (n cap : Nat) (hn : n ≤ 1) (z : Int) (fv : Value) (w : World) : Calls Try.prog 53 #[.slice o n cap, .int .i64 0, .int .i64 (n : Int), .int .i64 z, fv] w fun e w' => e = .returned (.tuple #[]) ∧ w' = w := by
  have h1 : (n : Int) ≤ 12 := by omega
  have hs : IntKind.i64.wrap (n : Int) = (n : Int) := by rw [IntKind.wrap_i64]; omega
  have k := hideit (ins_tiny o n cap hn fv w)
  go_enter Try.func53, Try.ntmps53
  go_wp2
  refine wp_loop_rounds 1 ?_
  rw [rounds_succ]
  go_wp2_with (go_at_call 56; refine k.out.mono ?_; rintro e w9 ⟨rfl, hw9⟩; rw [hw9]; clear hw9)
  exact bodyPost_ret (v := .tuple #[]) (by simp [results, Try.results53]) rfl ⟨rfl, rfl⟩
theorem sort_tiny (o : Option Addr) (n cap : Nat) (hn : n ≤ 1) (fv : Value) (w : World) : Calls Try.prog 50 #[.slice o n cap, fv] w fun e w' => e = .returned (.tuple #[]) ∧ w' = w := by
  have k := hideit (len_tiny n hn w)
  have k2 := hideit fun z => pdq_tiny o n cap hn z fv w
  have hw : IntKind.u64.wrap (n : Int) = (n : Int) := by rw [IntKind.wrap_u64]; omega
  go_enter Try.func50, Try.ntmps50
  go_wp2_with (first | (go_at_call 54; refine k.out.mono ?_; rintro e w9 ⟨z, rfl, hw9⟩; rw [hw9]; clear hw9) | (go_at_call 53; refine (k2.out _).mono ?_; rintro e w9 ⟨rfl, hw9⟩; rw [hw9]; clear hw9))
  exact bodyPost_end (v := .tuple #[]) (by simp [results, Try.results50]) rfl ⟨rfl, rfl⟩
end Go.Proofs.Ytboncdlihgpepaa
