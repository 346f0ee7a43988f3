/-
  The digest of the document's example, step by step against tables. sha.Sum: the digest of any bytes, in every world that holds the constants, of which nothing that was there turns.
-/
import Derived.Test.YtgjabfjkokpkiaaDoorQ8
import Derived.Test.YtgjabfjkokpkiaaDoorQ1
namespace Go.Proofs.YtgjabfjkokpkiaaDoor
set_option maxRecDepth 20000
theorem rnd_congr (k w : BitVec 32) (s s' : Nat → BitVec 32) (h : ∀ j, j < 8 → s j = s' j) (j : Nat) (hj : j < 8) : rnd k w s j = rnd k w s' j := by
  rcases (by omega : j = 0 ∨ j = 1 ∨ j = 2 ∨ j = 3 ∨ j = 4 ∨ j = 5 ∨ j = 6 ∨ j = 7) with rfl | rfl | rfl | rfl | rfl | rfl | rfl | rfl <;> simp only [rnd, h 0 (by omega), h 1 (by omega), h 2 (by omega), h 3 (by omega), h 4 (by omega), h 5 (by omega), h 6 (by omega), h 7 (by omega)]
theorem pend_zero (m : Nat → BitVec 8) : pend m 0 = fun _ => 0#8 := by
  funext j
  unfold pend
  rw [if_neg (by omega)]
theorem fillF_congr (m m' : Nat → BitVec 8) (n : Nat) (h : ∀ j, j < n → m j = m' j) : fillF m n = fillF m' n := by
  funext j
  unfold fillF
  split
  · exact h j ‹_›
  · rfl
theorem shaF_congr (m m' : Nat → BitVec 8) (n : Nat) (h : ∀ j, j < n → m j = m' j) : shaF m n = shaF m' n := by
  unfold shaF
  rw [fillF_congr m m' n h]
end Go.Proofs.YtgjabfjkokpkiaaDoor
namespace Go.Proofs.YtgjabfjkokpkiaaDoor
set_option maxRecDepth 20000
open Go.RowKit Go.BigFrame
set_option maxHeartbeats 400000 in
theorem write_none (c : Nat) (w : World) : Calls Tryd.prog 71 #[.pointer (some ⟨c, 0, none⟩), .slice none 0 0] w fun e w' => e = .returned (.tuple #[]) ∧ w' = w := by
  go_enter Tryd.func71, Tryd.ntmps71
  go_wp2
  go_loopw [1] (fun v wr => v = .slice none 0 0 ∧ wr = w) (fun _ _ => 0)
  case atStart => exact ⟨rfl, rfl⟩
  case round =>
    obtain ⟨rfl, rfl⟩ := hrel
    go_wp2
    exact bodyPost_end (v := .tuple #[]) (by simp [results, Tryd.results71]) rfl ⟨rfl, rfl⟩
set_option maxRecDepth 20000 in
set_option maxHeartbeats 1000000 in
theorem shasum_any (l cap : Nat) (b : Nat → BitVec 8) (a : Addr) (w : World) (hb : LieAt a l (yv b) w) (hcap : l ≤ cap) (hl : l < 1152921504606846976) (hC : TabC w) :
    Calls Tryd.prog 86 #[.slice (some a) l cap] w fun e w' => e = .returned (.agg (row 32 (yv (shaF b l))).toArray) ∧ Below w.heap.size w w' := by
  have hz := zero24
  have HR0 := hideit (RowAt.new w 32 (yv fun _ => 0#8) 31)
  have HE0 : Ext w (w.alloc (.cells (row 32 (yv fun _ => 0#8)).toArray 31)) := (Below.refl _ _).alloc (Nat.le_refl _) _
  replace HE0 := hideit HE0
  replace hC := hideit hC
  replace hb := hideit hb
  obtain ⟨R, hR⟩ : ∃ R, R = shaF b l := ⟨_, rfl⟩
  rw [← hR]
  replace hR := hideit hR
  go_enter Tryd.func86, Tryd.ntmps86
  go_upto_region 2 with (go_at_call 87; refine (new_any _).mono ?_; rintro e w2 ⟨c, hc, rfl, hH, hE⟩; have HH := hideit hH; have HE := hideit (Ext.trans HE0.out hE); have HR1 := hideit (HR0.out.carry hE); clear hH hE HR0 HE0)
  have hsz : w.heap.size + 1 ≤ c := by simpa using hc
  have hc0 : c ≠ 0 := by omega
  have HO : HashOf c (fun _ => 0#8) 0 w2 := by
    unfold HashOf
    rw [pend_zero]
    exact HH.out
  replace HO := hideit HO
  clear HH hc
  have hwq := write_any c 0 l cap (fun _ => 0#8) b a w2 HO.out (hC.out.ext HE.out) (hb.out.carry HE.out) hcap (by have := hb.out.2; omega) hc0 (by omega)
  replace hwq := hideit hwq
  go_upto_region 3 with (go_at_call 71; refine hwq.out.mono ?_; rintro e w3 ⟨rfl, h3, hB3⟩; have H3' := hideit h3; clear h3)
  have H3 : HashOf c b l w3 := by
    have h4 := H3'.out
    rw [Nat.zero_add] at h4
    exact h4.congr fun j _ => by unfold catF; rw [if_neg (by omega), Nat.sub_zero]
  replace H3 := hideit H3
  clear H3' hwq
  have HE3 := hideit (Ext.but HE.out hB3 (by omega))
  have HR3 := hideit (HR1.out.but hB3 (by omega))
  clear HR1 HE hB3 HO
  have hs := sum_any c l b w3 H3.out (hC.out.ext HE3.out) hl
  rw [← hR.out] at hs
  replace hs := hideit hs
  clear H3 hR
  go_upto_region 3 with (fail)
  refine wp_region_lit ?_
  refine wpList_run rfl (.pointer (some ⟨c, 0, none⟩)) (by simp [go_sem]) ?_
  simp only [zp0, zp1, zp2, zp3]
  refine wpList_call rfl (by simp [go_sem]) (hs.out.mono ?_)
  rintro e w4 ⟨rfl, hw4⟩
  refine ⟨_, rfl, ?_⟩
  simp only [zp0, zp1, zp2, zp3]
  have HR4 := hideit (HR3.out.carry hw4)
  have HE4 := hideit (Ext.trans HE3.out hw4)
  clear hs hw4 HR3 HE3
  refine wpList_store_mid rfl 31 (.tmp 2) (.tmp 9) rfl _ 0 (row 32 (yv R)).toArray rfl rfl (by rw [row_size]; exact HR4.out.there) (by rw [row_size]; exact info24) (row_one fun _ _ => rfl) ?_
  go_wp2
  exact bodyPost_ret (ret_row Tryd.results86 rfl (HR4.out.cells (g' := yv R)) Tryd.underlying31 rfl info24) rfl ⟨rfl, below_setCells _ (Nat.le_refl _) _ _ _ HE4.out⟩
end Go.Proofs.YtgjabfjkokpkiaaDoor
