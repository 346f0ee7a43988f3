/-
  A copy of a Hash.
-/
import Derived.Test.YtbnbjhainkjknaaDoorNew
namespace Go.Proofs.YtbnbjhainkjknaaDoor
open Go.RowKit Go.BigFrame
theorem zero55f (w : World) : Sem.run Tryd.prog (zeroValue 55) w = .ok (.agg (row 139 (hv 0 (fun _ => 0#64) 0#64 (fun _ => 0#8) 0)).toArray) w := by kernel_rfl
theorem info55f : (Tryd.prog.info? 55).map (·.size) = some 139 := by kernel_rfl
set_option maxRecDepth 20000 in
set_option maxHeartbeats 1000000 in
theorem fork_any (c sz n : Nat) (h0 : Nat → BitVec 64) (m : Nat → BitVec 8) (w : World) (h : HashOf c sz h0 m n w) :
    Calls Tryd.prog 17 #[.pointer (some ⟨c, 0, none⟩)] w fun e w' => ∃ d, w.heap.size ≤ d ∧ e = .returned (.pointer (some ⟨d, 0, none⟩)) ∧ HashOf d sz h0 m n w' ∧ Ext w w' := by
  obtain ⟨q, wt, hq1, hq2, hq3, hS⟩ := h
  have hz := zero55f
  obtain ⟨G, hG⟩ : ∃ G, G = hv sz (chainB h0 m q) (BitVec.ofNat 64 (128 * q)) (pendB m q wt) wt := ⟨_, rfl⟩
  have HH : Hid (RowAt c 139 G w) := by rw [hG]; exact hS
  have h1 : Hid (∀ j, j < 139 → (G j).oneCell' = true) := fun j _ => by
    rw [hG]
    unfold hv
    repeat' split
    all_goals rfl
  have HN : RowAt w.heap.size 139 (hv 0 (fun _ => 0#64) 0#64 (fun _ => 0#8) 0) (w.alloc (.cells (row 139 (hv 0 (fun _ => 0#64) 0#64 (fun _ => 0#8) 0)).toArray 55)) := RowAt.new w 139 _ 55
  replace HN := hideit HN
  clear hS
  replace hG := hideit hG
  replace hq1 := hideit hq1
  go_enter Tryd.func17, Tryd.ntmps17
  go_wp2_with (first | (refine wpList_load_mid rfl 55 (.tmp 7) rfl _ 0 rfl (row 139 G) _ (RowAt.range HH.out) Tryd.underlying55 rfl (by rw [row_length]; exact info55f) ?_) | (refine wpList_store_mid rfl 55 (.tmp 3) (.tmp 8) rfl _ 0 (row 139 G).toArray rfl rfl (by rw [row_size]; exact HN.out.there) (by rw [row_size]; exact info55f) (row_one h1.out) ?_))
  go_ret
  refine ⟨w.heap.size, Nat.le_refl _, rfl, ⟨q, wt, hq1.out, hq2, hq3, ?_⟩, below_setCells _ (Nat.le_refl _) _ _ _ ((Below.refl _ _).alloc (Nat.le_refl _) _)⟩
  show RowAt _ 139 _ _
  rw [← hG.out]
  exact HN.out.cells
end Go.Proofs.YtbnbjhainkjknaaDoor
