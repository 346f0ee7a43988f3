/-
  The known answer: what a Writer and a Reader of four bytes tell.
-/
import Derived.Test.YtboncdlihgpepaaWr
namespace Go.Proofs.Ytboncdlihgpepaa
open Go.RowKit Go.BigFrame
def f4 : Nat → BitVec 8 := padF (catF (fun _ => 0#8) 0 (byB 258#64)) (0 + 2)
theorem f4_str : bstr 4 (fun j => ((f4 j).toNat : Int)) = ⟨#[2, 1, 0, 0]⟩ := by decide +kernel
theorem f4_num : ((leN f4 2).toNat : Int) = 258 := by decide +kernel
theorem f4_rest : zB (shF f4 2) (4 - 2) = true := by decide +kernel
theorem conv4 (g : Nat) (X : World) (h : RowAt g 4 (yv f4) X) : (convert 22 9 (.slice (some ⟨g, 0, none⟩) 4 4)).run Try.prog X = .ok (.string ⟨#[2, 1, 0, 0]⟩) X := by
  rw [convV (.slice (some ⟨g, 0, none⟩) 4 4) 4 f4 X (.inr ⟨_, 4, rfl, by omega, h.lie 4 (by omega)⟩), f4_str]
set_option maxRecDepth 20000 in
set_option maxHeartbeats 2000000 in
theorem lives_any (w : World) : Calls Try.prog 11 #[] w fun e w' => e = .returned (.bool true) ∧ Ext w w' := by
  have k1 := fun X : World => hideit (neww_any 4 (fun _ => 0#8) X (by omega))
  have k2 := fun (c : Nat) (X : World) (h : Wr c 4 0 (fun _ => 0#8) false X) => hideit (wuint_ok c 4 0 2 (fun _ => 0#8) false 258#64 X h (by omega) (by omega) (by decide) (by omega) (by decide))
  have k3 := fun (c : Nat) (X : World) (h : Wr c 4 (0 + 2) (catF (fun _ => 0#8) 0 (byB 258#64)) false X) => hideit (wdone_ok c 4 (0 + 2) _ X h (by omega) (by omega))
  have k4 := fun (g : Nat) (X : World) (h : RowAt g 4 (yv f4) X) => hideit (newr_any (.slice (some ⟨g, 0, none⟩) 4 4) 4 f4 X (.inr ⟨_, 4, rfl, by omega, h.lie 4 (by omega)⟩) (by omega))
  have k5 := fun (lo r : Nat) (X : World) (h : Rd lo r 4 f4 false X) => hideit (ruint_ok lo r 4 2 f4 X h (by omega) (by decide) (by omega))
  have k6 := fun (lo r : Nat) (X : World) (h : Rd lo r (4 - 2) (shF f4 2) false X) => hideit (rdone_any lo r (4 - 2) (shF f4 2) false X h (by omega))
  have k7 := fun (lo r : Nat) (X : World) (h : Rd lo r (4 - 2) (shF f4 2) false X) => hideit (rleft_any lo r (4 - 2) (shF f4 2) false X h)
  go_enter Try.func11, Try.ntmps11
  go_wp2_with (first
    | (go_at_call 21; refine (k1 _).out.mono ?_; rintro e w1 ⟨rfl, hW1, hE1⟩; replace hW1 := hideit hW1; replace hE1 := hideit hE1; have hw1 := hideit hW1.out.lt)
    | (go_at_call 22; refine (k2 _ _ hW1.out).out.mono ?_; rintro e w2 ⟨rfl, hW2, hB2⟩; replace hW2 := hideit hW2; replace hB2 := hideit (Below.trans hE1.out hB2); clear hW1 hE1)
    | (go_at_call 24; refine (k3 _ _ hW2.out).out.mono ?_; rintro e w3 ⟨g, rfl, hg, hR3, hE3⟩; replace hR3 := hideit hR3; replace hE3 := hideit (Ext.trans hB2.out hE3); clear hW2 hB2)
    | (go_at_call 9; refine (k4 _ _ hR3.out).out.mono ?_; rintro e w4 ⟨r, rfl, hr, hR4, hE4⟩; have hcv := conv4 g w4 (RowAt.carry hR3.out hE4); replace hR4 := hideit hR4; have hr2 : Hid (w.heap.size ≤ r) := Nat.le_trans (Below.size hE3.out) hr; replace hE4 := hideit (Ext.trans hE3.out hE4); clear hR3 hE3)
    | (go_at_call 12; refine (k5 _ _ _ hR4.out).out.mono ?_; rw [f4_num]; rintro e w5 ⟨rfl, hR5, hB5⟩; replace hR5 := hideit hR5; replace hB5 := hideit (Ext.but hE4.out hB5 hr2.out); clear hR4 hE4)
    | (go_at_call 19; refine (k6 _ _ _ hR5.out).out.mono ?_; rw [f4_rest, show dnI (false || !true) = 0 from rfl]; rintro e w6 ⟨rfl, rfl⟩)
    | (go_at_call 18; refine (k7 _ _ _ hR5.out).out.mono ?_; rintro e w7 ⟨rfl, rfl⟩))
  go_ret
  exact ⟨rfl, hB5.out⟩
end Go.Proofs.Ytboncdlihgpepaa
