/-
  New: what it makes of any key; nothing that was there turns. Pairs of ciphers.
-/
import Derived.Test.YtgjabfjkokpkiaaDoorQ37
import Derived.Test.YtgjabfjkokpkiaaDoorQ35
namespace Go.Proofs.YtgjabfjkokpkiaaDoor
set_option maxRecDepth 20000
open Go.RowKit Go.BigFrame
def schedK (k : Nat) (key : Nat → BitVec 8) : Nat → BitVec 8 := keyP (wordsF k bxT twT key) (16 * (k + 7))
def z8 : Nat → BitVec 8 := fun _ => 0#8
def zc : List Value := row 1009 (cv 0 z8 z8 z8 z8)
theorem zero59 (w : World) : Sem.run Tryd.prog (zeroValue 129) w = .ok (.agg zc.toArray) w := by kernel_rfl
theorem zc_at (w : World) (r : Nat) : CipherAt w.heap.size r (fun _ => 0#8) (fun _ => 0#8) (fun _ => 0#8) (fun _ => 0#8) (w.alloc (.cells (zc.set 0 (.int .i64 (r : Int))).toArray 129)) := by
  refine RowAt.newOf w 1009 _ 129 _ fun j hj => ?_
  rw [List.getElem?_toArray, List.getElem?_set]
  by_cases e : 0 = j
  · subst e
    rw [if_pos rfl, if_pos (by unfold zc; rw [row_length]; omega)]
    rfl
  · rw [if_neg e]
    unfold zc
    rw [row_get 1009 _ j hj]
    simp only [cv, if_neg (Ne.symm e)]
    rfl
set_option maxRecDepth 20000 in
set_option maxHeartbeats 1000000 in
theorem new4_any (a : Addr) (cap : Nat) (key : Nat → BitVec 8) (w : World) (hk : KeyAt a 16 key w) (hcap : 16 ≤ cap) :
    Calls Tryd.prog 75 #[.slice (some a) 16 cap] w fun e w' => e = .returned (.tuple #[.pointer (some ⟨w.heap.size, 0, none⟩), .int .i64 0]) ∧ CipherAt w.heap.size 10 (schedK 4 key) bxT ubT twT w' ∧ Below w.heap.size w w' := by
  have hz := zero59
  have HN := hideit (zc_at w 10)
  have HK := hideit (KeyAt.carry hk ((Below.refl _ _).alloc (Nat.le_refl _) (.cells (zc.set 0 (.int .i64 (10 : Int))).toArray 129)))
  have hkb : a.block < w.heap.size := hk.2
  clear hk
  go_enter Tryd.func75, Tryd.ntmps75
  go_wp2_with (first | (go_at_call 94; refine (fillTables_any w.heap.size 10 (fun _ => 0#8) _ HN.out).mono ?_; rintro e w2 ⟨rfl, h2, h3⟩; have H2 := hideit h2; have H3 := hideit h3; clear h2 h3) | (go_at_call 95; refine (fillKeys4_any w.heap.size cap bxT ubT twT key a _ H2.out (HK.out.below hkb H3.out) hcap).mono ?_; rintro e w3 ⟨rfl, h4, h5⟩; have H4 := hideit h4; have H5 := hideit h5; clear h4 h5))
  refine bodyPost_ret (results_tmp2 Tryd.results75 _ _ _) rfl ?_
  exact ⟨rfl, H4.out, Below.trans (Below.trans ((Below.refl _ _).alloc (Nat.le_refl _) _) H3.out) H5.out⟩
end Go.Proofs.YtgjabfjkokpkiaaDoor
namespace Go.Proofs.YtgjabfjkokpkiaaDoor
set_option maxRecDepth 20000
open Go.RowKit Go.BigFrame
set_option maxRecDepth 20000 in
set_option maxHeartbeats 2000000 in
theorem xnew4_any (a : Addr) (cap : Nat) (key : Nat → BitVec 8) (w : World) (hk : LieAt a 32 (yv key) w) (hcap : 32 ≤ cap) :
    Calls Tryd.prog 56 #[.slice (some a) 32 cap] w fun e w' => ∃ q c1 c2, e = .returned (.tuple #[.pointer (some ⟨q, 0, none⟩), .int .i64 0]) ∧ PairAt q c1 c2 10 (schedK 4 key) (schedK 4 fun j => key (16 + j)) w' ∧ Below w.heap.size w w' ∧ w.heap.size ≤ q ∧ w.heap.size ≤ c1 ∧ w.heap.size ≤ c2 := by
  have i1 : (16 : Int) ≤ (cap : Int) := by omega
  have i2 : ¬ cap = 16 := by omega
  have i3 : 16 ≤ cap := by omega
  obtain ⟨S1, hS1⟩ : ∃ S1, S1 = schedK 4 key := ⟨_, rfl⟩
  obtain ⟨S2, hS2⟩ : ∃ S2, S2 = schedK 4 (fun j => key (16 + j)) := ⟨_, rfl⟩
  obtain ⟨sa, hsa⟩ : ∃ sa : Addr, sa = a.add 16 := ⟨_, rfl⟩
  have hn1 : Calls Tryd.prog 75 #[.slice (some a) 16 cap] w fun e w' => e = .returned (.tuple #[.pointer (some ⟨w.heap.size, 0, none⟩), .int .i64 0]) ∧ CipherAt w.heap.size 10 S1 bxT ubT twT w' ∧ Below w.heap.size w w' := by
    rw [hS1]
    exact new4_any a cap key w ⟨fun j hj => hk.1 j (by omega), hk.2⟩ i3
  have hn2 : ∀ X, Ext w X → Calls Tryd.prog 75 #[.slice (some sa) 16 (cap - 16)] X fun e w' => e = .returned (.tuple #[.pointer (some ⟨X.heap.size, 0, none⟩), .int .i64 0]) ∧ CipherAt X.heap.size 10 S2 bxT ubT twT w' ∧ Below X.heap.size X w' := fun X hX => by
    rw [hS2]
    have h1 := hk.carry hX
    refine new4_any sa (cap - 16) (fun j => key (16 + j)) X ⟨fun j hj => ?_, by rw [hsa, add_block]; exact h1.2⟩ (by omega)
    rw [hsa, add_add', h1.1 (16 + j) (by omega)]
    rfl
  replace hn1 := hideit hn1
  replace hn2 := hideit hn2
  rw [← hS1, ← hS2]
  replace hS1 := hideit hS1
  replace hS2 := hideit hS2
  clear hk
  have hsa' : (⟨a.block, a.off + 16, none⟩ : Addr) = sa := by rw [hsa]; rfl
  clear hsa
  go_enter Tryd.func56, Tryd.ntmps56
  go_upto_region 3 with (go_at_call 75; refine hn1.out.mono ?_; rintro e w1 ⟨rfl, h1, h2⟩; have HC1 := hideit h1; have HX1 : Hid (Ext w w1) := hideit h2; clear h1 h2)
  have hn2' := hideit (hn2.out w1 HX1.out)
  go_upto_region 6 with (go_at_call 75; refine hn2'.out.mono ?_; rintro e w2 ⟨rfl, h1, h2⟩; have HC2 := hideit h1; have HX2 : Hid (Ext w1 w2) := hideit h2; clear h1 h2)
  have hsw := Below.size HX1.out
  have hsw2 := Below.size HX2.out
  clear hn1 hn2 hn2'
  obtain ⟨W, hW⟩ : ∃ W, W = w2.alloc (.cells #[.pointer (some ⟨w.heap.size, 0, none⟩), .pointer (some ⟨w1.heap.size, 0, none⟩)] 103) := ⟨_, rfl⟩
  have HEx : Ext w2 W := by rw [hW]; exact (Below.refl _ _).alloc (Nat.le_refl _) _
  have HP : PairAt w2.heap.size w.heap.size w1.heap.size 10 S1 S2 W := ⟨by rw [hW]; simp [go_sem], by rw [hW]; simp [go_sem], CipherAt.carry (CipherAt.carry HC1.out HX2.out) HEx, CipherAt.carry HC2.out HEx, by rw [hW]; simp⟩
  have HB : Ext w W := Ext.trans (Ext.trans HX1.out HX2.out) HEx
  replace HP := hideit HP
  replace HB := hideit HB
  replace hW := hideit hW
  clear HEx HC1 HC2 HX1 HX2
  go_wp2
  refine bodyPost_ret (results_tmp2 Tryd.results56 _ _ _) rfl ?_
  rw [← hW.out]
  exact ⟨_, _, _, rfl, HP.out, HB.out, by omega, by omega, by omega⟩
end Go.Proofs.YtgjabfjkokpkiaaDoor
