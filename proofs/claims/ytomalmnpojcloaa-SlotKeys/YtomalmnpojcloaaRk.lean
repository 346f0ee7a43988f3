/-
  May keys be, by the document.
-/
import Derived.Test.YtomalmnpojcloaaRs3
namespace Go.Proofs.Ytomalmnpojcloaa
open Go.RowKit Go.BigFrame
set_option maxRecDepth 20000 in
set_option maxHeartbeats 2000000 in
theorem right_len (oa : Option Addr) (n cp : Nat) (t : Nat → BitVec 8) (hn : ¬ (n = 1 ∨ n = 2)) (hn9 : n ≤ 9223372036854775807) (w : World) :
    Calls Try.prog 33 #[.agg (row 33 (kyv (.slice oa n cp) t)).toArray] w fun e w' => e = .returned (.bool false) ∧ Ext w w' := by
  have H0 : Hid (RowAt w.heap.size 33 (kyv (.slice oa n cp) t) (w.alloc (.cells (row 33 (kyv (.slice oa n cp) t)).toArray 37))) := RowAt.new w 33 _ 37
  have hE0 : Hid (Ext w (w.alloc (.cells (row 33 (kyv (.slice oa n cp) t)).toArray 37))) := (Below.refl _ _).alloc (Nat.le_refl _) _
  have n0 : (0 : Int) ≤ (n : Int) := by omega
  go_enter Try.func33, Try.ntmps33
  go_upto_region 1 with (fail)
  generalize w.alloc (.cells (row 33 (kyv (.slice oa n cp) t)).toArray 37) = w1 at *
  obtain ⟨c, hc⟩ : ∃ c, c = w.heap.size := ⟨_, rfl⟩
  rw [← hc] at H0 ⊢
  clear hc
  have e0 : w1.cell? ⟨c, 0, none⟩ = some (.slice oa n cp) := H0.out.1 0 (by decide)
  by_cases h1 : (n : Int) < 1
  · clear hn
    go_wp2
    go_ret
    exact ⟨rfl, hE0.out⟩
  · have h2 : (2 : Int) < (n : Int) := by omega
    clear hn
    go_wp2
    go_ret
    exact ⟨rfl, hE0.out⟩
set_option maxRecDepth 20000 in
set_option maxHeartbeats 2000000 in
theorem right_1 (a o n cp : Nat) (xs : Nat → Int) (fs : Nat → Nat → BitVec 8) (t : Nat → BitVec 8) (w : World) (h : EpAt a o n xs fs w) (hn : n = 1 ∨ n = 2) (hw : inW n xs) (R : Bool) (hR : Hid (R = true ↔ okE n xs)) :
    Calls Try.prog 33 #[.agg (row 33 (kyv (.slice (some ⟨a, o, none⟩) n cp) t)).toArray] w fun e w' => e = .returned (.bool R) ∧ Ext w w' := by
  have H0 : Hid (RowAt w.heap.size 33 (kyv (.slice (some ⟨a, o, none⟩) n cp) t) (w.alloc (.cells (row 33 (kyv (.slice (some ⟨a, o, none⟩) n cp) t)).toArray 37))) := RowAt.new w 33 _ 37
  have hE0 : Hid (Ext w (w.alloc (.cells (row 33 (kyv (.slice (some ⟨a, o, none⟩) n cp) t)).toArray 37))) := (Below.refl _ _).alloc (Nat.le_refl _) _
  have E0 := hideit (h.ext hE0.out)
  have n0 : (1 : Int) ≤ (n : Int) := by omega
  have n2 : (n : Int) ≤ 2 := by omega
  have n3 : ¬ (n : Int) < 1 := by omega
  have n4 : (0 : Int) < (n : Int) := by omega
  obtain ⟨z1, z2⟩ := hw 0 (by omega)
  have e1 := E0.out 0 (by omega) 0 (by decide)
  clear h
  obtain ⟨X, hX⟩ : ∃ X, X = xs 0 := ⟨_, rfl⟩
  replace e1 : (w.alloc (.cells (row 33 (kyv (.slice (some ⟨a, o, none⟩) n cp) t)).toArray 37)).cell? ⟨a, o, none⟩ = some (.int .i64 X) := by rw [hX]; exact e1
  rw [← hX] at z1 z2
  replace hX := hideit hX
  replace hw := hideit hw
  replace hn := hideit hn
  go_enter Try.func33, Try.ntmps33
  go_upto_region 1 with (fail)
  generalize w.alloc (.cells (row 33 (kyv (.slice (some ⟨a, o, none⟩) n cp) t)).toArray 37) = w1 at *
  obtain ⟨c, hc⟩ : ∃ c, c = w.heap.size := ⟨_, rfl⟩
  rw [← hc] at H0 ⊢
  clear hc
  have e0 : w1.cell? ⟨c, 0, none⟩ = some (.slice (some ⟨a, o, none⟩) n cp) := H0.out.1 0 (by decide)
  have hno : ∀ (_ : ¬ (1 ≤ X ∧ X ≤ 4294967295)), R = false := fun hh => by
    cases hRR : R with
    | false => rfl
    | true => have := (hR.out.1 hRR).2 0 (by have := hn.out; omega); unfold okX at this; rw [← hX.out] at this; omega
  replace hno := hideit hno
  by_cases c1 : X < 1
  · have hf := hideit (hno.out (by omega))
    go_wp2
    go_ret
    exact ⟨ret_bool hf.out.symm, hE0.out⟩
  · by_cases c2 : (4294967295 : Int) < X
    · have hf := hideit (hno.out (by omega))
      go_wp2
      go_ret
      exact ⟨ret_bool hf.out.symm, hE0.out⟩
    · by_cases hn1 : n = 1
      · have m1 : ((n : Int) == 1) = true := by rw [hn1]; rfl
        have hRt : Hid (R = true) := hideit (hR.out.2 ⟨hn.out, fun i hi => by
          obtain rfl : i = 0 := by omega
          unfold okX
          rw [← hX.out]
          exact ⟨by omega, by omega, by simp⟩⟩)
        clear hn1
        go_upto_region 4 with (fail)
        go_quiet (fail)
        go_wp2
        go_ret
        exact ⟨ret_bool hRt.out.symm, hE0.out.trans (ext_drewN _ _)⟩
      · have hn2 : Hid (n = 2) := hideit (by have := hn.out; omega)
        have m1 : ((n : Int) == 1) = false := by rw [hn2.out]; rfl
        have m2 : (1 : Int) < (n : Int) := by have := hn2.out; omega
        obtain ⟨y1, y2⟩ := hw.out 1 (by have := hn2.out; omega)
        have e2 := E0.out 1 (by have := hn2.out; omega) 0 (by decide)
        obtain ⟨Y, hY⟩ : ∃ Y, Y = xs 1 := ⟨_, rfl⟩
        replace e2 : w1.cell? ⟨a, o + 65, none⟩ = some (.int .i64 Y) := by rw [hY]; exact e2
        rw [← hY] at y1 y2
        replace hY := hideit hY
        have hiff : Hid (R = true ↔ (Y = X + 1 ∧ Y ≤ 4294967295)) := hideit (by
          rw [hR.out]
          constructor
          · intro hh
            have k1 := hh.2 1 (by have := hn2.out; omega)
            unfold okX at k1
            rw [← hY.out, ← hX.out] at k1
            exact ⟨by omega, by omega⟩
          · rintro ⟨k1, k2⟩
            refine ⟨hn.out, fun i hi => ?_⟩
            have := hn2.out
            rcases (by omega : i = 0 ∨ i = 1) with rfl | rfl
            · unfold okX
              rw [← hX.out]
              exact ⟨by omega, by omega, by simp⟩
            · unfold okX
              rw [← hX.out, ← hY.out]
              exact ⟨by omega, by omega, by omega⟩)
        clear hn1
        go_upto_region 4 with (fail)
        by_cases c3 : Y = X + 1
        · have hc3 := hideit c3
          have c4 : (Y == X + 1) = true := by rw [c3]; exact beq_self_eq_true _
          clear c3
          by_cases c5 : Y ≤ 4294967295
          · have hRt : Hid (R = true) := hideit (hiff.out.2 ⟨hc3.out, c5⟩)
            go_quiet (fail)
            go_wp2
            go_ret
            exact ⟨ret_bool hRt.out.symm, hE0.out.trans (ext_drewN _ _)⟩
          · have hRf : Hid (R = false) := hideit (by
              rw [Bool.eq_false_iff]
              exact fun hh => c5 (hiff.out.1 hh).2)
            go_quiet (fail)
            go_wp2
            go_ret
            exact ⟨ret_bool hRf.out.symm, hE0.out.trans (ext_drewN _ _)⟩
        · have c4 : (Y == X + 1) = false := by rw [beq_eq_false_iff_ne]; exact c3
          have hRf : Hid (R = false) := hideit (by
            rw [Bool.eq_false_iff]
            exact fun hh => c3 (hiff.out.1 hh).1)
          go_quiet (fail)
          go_wp2
          go_ret
          exact ⟨ret_bool hRf.out.symm, hE0.out.trans (ext_drewN _ _)⟩
theorem right_any (u : Value) (n : Nat) (xs : Nat → Int) (fs : Nat → Nat → BitVec 8) (t : Nat → BitVec 8) (w : World) (h : EV u n xs fs w) (hw : inW n xs) (hn : n ≤ 9223372036854775807) (R : Bool) (hR : R = true ↔ okE n xs) : Calls Try.prog 33 #[.agg (row 33 (kyv u t)).toArray] w fun e w' => e = .returned (.bool R) ∧ Ext w w' := by
  by_cases h1 : n = 1 ∨ n = 2
  · rcases h with ⟨_, h0⟩ | ⟨a, o, cap, rfl, _, h⟩
    · omega
    · exact right_1 a o n cap xs fs t w h h1 hw R hR
  · obtain ⟨oa, cp, rfl⟩ := h.form
    have hf : R = false := by
      cases hRR : R with
      | false => rfl
      | true => have := (hR.1 hRR).1; omega
    rw [hf]
    exact right_len oa n cp t h1 hn w
end Go.Proofs.Ytomalmnpojcloaa
