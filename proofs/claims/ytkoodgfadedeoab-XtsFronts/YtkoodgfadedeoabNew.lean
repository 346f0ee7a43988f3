/-
  New: what it makes of any key; nothing that was there turns.
-/
import Derived.Test.YtkoodgfadedeoabFillKeys
import Derived.Test.YtkoodgfadedeoabFill
namespace Go.Proofs.Ytkoodgfadedeoab
open Go.RowKit Go.BigFrame
def schedK (k : Nat) (key : Nat → BitVec 8) : Nat → BitVec 8 := keyP (wordsF k bxT twT key) (16 * (k + 7))
def z8 : Nat → BitVec 8 := fun _ => 0#8
def zc : List Value := row 1009 (cv 0 z8 z8 z8 z8)
theorem zero59 (w : World) : Sem.run Try.prog (zeroValue 54) w = .ok (.agg zc.toArray) w := by kernel_rfl
theorem zc_at (w : World) (r : Nat) : CipherAt w.heap.size r (fun _ => 0#8) (fun _ => 0#8) (fun _ => 0#8) (fun _ => 0#8) (w.alloc (.cells (zc.set 0 (.int .i64 (r : Int))).toArray 54)) := by
  refine RowAt.newOf w 1009 _ 54 _ fun j hj => ?_
  rw [List.getElem?_toArray, List.getElem?_set]
  by_cases e : 0 = j
  · subst e
    rw [if_pos rfl, if_pos (by unfold zc; rw [row_length]; omega)]
    rfl
  · rw [if_neg e]
    unfold zc
    rw [row_get 1009 _ j hj]
    simp only [cv, if_neg (Ne.symm e)]
    rfl
set_option maxRecDepth 20000 in
set_option maxHeartbeats 1000000 in
theorem new_bad (a : Option Addr) (len cap : Nat) (h1 : len ≠ 16) (h2 : len ≠ 32) (w : World) :
    Calls Try.prog 8 #[.slice a len cap] w fun e w' => e = .returned (.tuple #[.pointer none, .int .i64 20]) ∧ w' = w := by
  have h1' : ¬ ((len : Int) = 16) := by omega
  have h2' : ¬ ((len : Int) = 32) := by omega
  have h3 : ((len : Int) != 16) = true := by simp; omega
  have h4 : ((len : Int) != 32) = true := by simp; omega
  go_enter Try.func8, Try.ntmps8
  go_wp2
  refine bodyPost_ret (results_tmp2 Try.results8 _ _ _) rfl ?_
  exact ⟨rfl, rfl⟩
set_option maxRecDepth 20000 in
set_option maxHeartbeats 1000000 in
theorem new4_any (a : Addr) (cap : Nat) (key : Nat → BitVec 8) (w : World) (hk : KeyAt a 16 key w) (hcap : 16 ≤ cap) :
    Calls Try.prog 8 #[.slice (some a) 16 cap] w fun e w' => e = .returned (.tuple #[.pointer (some ⟨w.heap.size, 0, none⟩), .int .i64 0]) ∧ CipherAt w.heap.size 10 (schedK 4 key) bxT ubT twT w' ∧ Below w.heap.size w w' := by
  have hz := zero59
  have HN := hideit (zc_at w 10)
  have HK := hideit (KeyAt.carry hk ((Below.refl _ _).alloc (Nat.le_refl _) (.cells (zc.set 0 (.int .i64 (10 : Int))).toArray 54)))
  have hkb : a.block < w.heap.size := hk.2
  clear hk
  go_enter Try.func8, Try.ntmps8
  go_wp2_with (first | (go_at_call 17; refine (fillTables_any w.heap.size 10 (fun _ => 0#8) _ HN.out).mono ?_; rintro e w2 ⟨rfl, h2, h3⟩; have H2 := hideit h2; have H3 := hideit h3; clear h2 h3) | (go_at_call 18; refine (fillKeys4_any w.heap.size cap bxT ubT twT key a _ H2.out (HK.out.below hkb H3.out) hcap).mono ?_; rintro e w3 ⟨rfl, h4, h5⟩; have H4 := hideit h4; have H5 := hideit h5; clear h4 h5))
  refine bodyPost_ret (results_tmp2 Try.results8 _ _ _) rfl ?_
  exact ⟨rfl, H4.out, Below.trans (Below.trans ((Below.refl _ _).alloc (Nat.le_refl _) _) H3.out) H5.out⟩
set_option maxRecDepth 20000 in
set_option maxHeartbeats 1000000 in
theorem new8_any (a : Addr) (cap : Nat) (key : Nat → BitVec 8) (w : World) (hk : KeyAt a 32 key w) (hcap : 32 ≤ cap) :
    Calls Try.prog 8 #[.slice (some a) 32 cap] w fun e w' => e = .returned (.tuple #[.pointer (some ⟨w.heap.size, 0, none⟩), .int .i64 0]) ∧ CipherAt w.heap.size 14 (schedK 8 key) bxT ubT twT w' ∧ Below w.heap.size w w' := by
  have hz := zero59
  have HN := hideit (zc_at w 14)
  have HK := hideit (KeyAt.carry hk ((Below.refl _ _).alloc (Nat.le_refl _) (.cells (zc.set 0 (.int .i64 (14 : Int))).toArray 54)))
  have hkb : a.block < w.heap.size := hk.2
  clear hk
  go_enter Try.func8, Try.ntmps8
  go_wp2_with (first | (go_at_call 17; refine (fillTables_any w.heap.size 14 (fun _ => 0#8) _ HN.out).mono ?_; rintro e w2 ⟨rfl, h2, h3⟩; have H2 := hideit h2; have H3 := hideit h3; clear h2 h3) | (go_at_call 18; refine (fillKeys8_any w.heap.size cap bxT ubT twT key a _ H2.out (HK.out.below hkb H3.out) hcap).mono ?_; rintro e w3 ⟨rfl, h4, h5⟩; have H4 := hideit h4; have H5 := hideit h5; clear h4 h5))
  refine bodyPost_ret (results_tmp2 Try.results8 _ _ _) rfl ?_
  exact ⟨rfl, H4.out, Below.trans (Below.trans ((Below.refl _ _).alloc (Nat.le_refl _) _) H3.out) H5.out⟩
end Go.Proofs.Ytkoodgfadedeoab
