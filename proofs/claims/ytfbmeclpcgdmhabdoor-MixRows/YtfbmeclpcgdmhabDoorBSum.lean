/-
  The digest of all parts of a message.
-/
import Derived.Test.YtfbmeclpcgdmhabDoorNew
namespace Go.Proofs.YtfbmeclpcgdmhabDoor
open Go.RowKit Go.BigFrame
set_option maxRecDepth 20000 in
theorem bsum_bad (z : Int) (oa : Option Addr) (l cp : Nat) (pv : Value) (hz : z < 1 ∨ 64 < z ∨ 64 < l) (w : World) : Calls Tryd.prog 41 #[.int .i64 z, .slice oa l cp, pv] w fun e w' => e = .returned (.tuple #[.slice none 0 0, .int .i64 1]) ∧ w' = w := by
  have hn := hideit (new_bad z oa l cp hz w)
  go_enter Tryd.func41, Tryd.ntmps41
  go_wp2_with (go_at_call 57; refine hn.out.mono ?_; rintro e w' ⟨rfl, hw'⟩; subst hw')
  exact bodyPost_ret (v := .tuple #[.slice none 0 0, .int .i64 1]) (by simp [results, Tryd.results41]) rfl ⟨rfl, rfl⟩
set_option maxRecDepth 20000 in
set_option maxHeartbeats 2000000 in
theorem bsum_any (nn l k : Nat) (hn1 : 1 ≤ nn) (hn2 : nn ≤ 64) (hl : l ≤ 64) (v pv : Value) (key : Nat → BitVec 8) (us : Nat → Value) (ls : Nat → Nat) (bs : Nat → Nat → BitVec 8) (w : World) (h : BV v l key w) (hP : Parts pv k us ls bs w) (hC : TabC w) (hk : k ≤ 140737488351232) :
    Calls Tryd.prog 41 #[.int .i64 (nn : Int), v, pv] w fun e w' => ∃ v', e = .returned (.tuple #[v', .int .i64 0]) ∧ OwnB w.heap.size 5 v' nn (yv (blakeF (h0F nn l) (joinF (keyF l key) (keyN l) ls bs k) (keyN l + sumL ls k))) w' ∧ Ext w w' := by
  obtain ⟨oa, cp, rfl⟩ := h.form
  obtain ⟨ov, cap, rfl⟩ : ∃ ov cap, pv = .slice ov k cap := by
    rcases hP.1 with ⟨h, h0⟩ | ⟨a, cap, h, _⟩
    · exact ⟨none, 0, by rw [h, h0]⟩
    · exact ⟨_, cap, h⟩
  have hnw := hideit (new_any nn l hn1 hn2 hl _ key w h)
  obtain ⟨H0, hH0⟩ : ∃ H0, H0 = h0F nn l := ⟨_, rfl⟩
  obtain ⟨J, hJ⟩ : ∃ J, J = joinF (keyF l key) (keyN l) ls bs := ⟨_, rfl⟩
  have hJ0 : Hid (J 0 = keyF l key) := by rw [hJ]; rfl
  have hJs : Hid (∀ i, J (i + 1) = catF (J i) (keyN l + sumL ls i) (bs i)) := fun i => by rw [hJ]; rfl
  rw [← hH0] at hnw ⊢
  rw [← hJ]
  obtain ⟨N0, hN0⟩ : ∃ N0, N0 = keyN l := ⟨_, rfl⟩
  rw [← hN0] at hnw hJs ⊢
  obtain ⟨K0, hK0⟩ : ∃ K0, K0 = keyF l key := ⟨_, rfl⟩
  rw [← hK0] at hnw hJ0
  clear hH0 hJ h hN0 hK0
  replace hC := hideit hC
  replace hP := hideit hP
  go_enter Tryd.func41, Tryd.ntmps41
  go_upto_region 4 with (go_at_call 57; refine hnw.out.mono ?_; rintro e w1 ⟨c, hc, rfl, h1, hE1⟩; have H1 := hideit h1; have HE1 := hideit hE1; clear h1 hE1 hnw)
  have HT0 : HashOf c nn H0 (J 0) (N0 + sumL ls 0) w1 := by
    rw [hJ0.out, show N0 + sumL ls 0 = N0 from Nat.add_zero N0]
    exact H1.out
  replace HT0 := hideit HT0
  have hc0 : c ≠ 1 := by have := hC.out.2; omega
  clear H1
  go_wp2
  go_loopw [23] (fun iv wr => ∃ i : Nat, i ≤ k ∧ iv = .int .i64 (i : Int) ∧ HashOf c nn H0 (J i) (N0 + sumL ls i) wr ∧ Ext w wr) (fun iv _ => k - (intOf iv).toNat)
  case atStart => exact ⟨0, by omega, rfl, HT0.out, HE1.out⟩
  case round =>
    clear HT0 HE1
    obtain ⟨i, hi, rfl, hT, hE⟩ := hrel
    have HT := hideit hT
    have HE := hideit hE
    clear hT hE
    by_cases hlt : i < k
    · have i0 : (0 : Int) ≤ (i : Int) := by omega
      have i1 : (i : Int) < (k : Int) := by omega
      obtain ⟨a, rfl, hcell⟩ : ∃ a, ov = some a ∧ wr.cell? (a.add i) = some (us i) := by
        rcases hP.out.1 with ⟨h, h0⟩ | ⟨a, cap', h, _, h3⟩
        · omega
        · injection h with e1 e2 e3
          exact ⟨a, e1, (h3.carry HE.out).1 i hlt⟩
      have hwp := hideit (writeV c nn (N0 + sumL ls i) (ls i) H0 (J i) (bs i) (us i) w wr (hP.out.2 i hlt) HE.out HT.out (hC.out.ext HE.out) hc hc0)
      go_upto_region 8 with (go_at_call 58; refine hwp.out.mono ?_; rintro e w7 ⟨rfl, h7, hB7⟩; have HT7 : HashOf c nn H0 (J (i + 1)) (N0 + sumL ls (i + 1)) w7 := (by rw [hJs.out i, show N0 + sumL ls (i + 1) = N0 + sumL ls i + ls i by simp only [sumL]; omega]; exact h7); replace HT7 := hideit HT7; have HE7 := hideit (Ext.but HE.out hB7 hc); clear h7 hB7 HT HE hwp)
      go_wp2
      exact ⟨⟨i + 1, by omega, by go_num, HT7.out, HE7.out⟩, by simp [intOf]; omega⟩
    · obtain rfl : i = k := by omega
      have i1 : ¬ (i : Int) < (i : Int) := by omega
      have hsm := hideit (sum_any c nn _ H0 _ wr HT.out (hC.out.ext HE.out) hn2)
      go_wp2_with (go_at_call 59; refine hsm.out.mono ?_; rintro e w8 ⟨v8, rfl, hO8, hE8⟩; have HO8 := hideit (OwnB.down hO8 (Below.size HE.out)); have HE8 := hideit (Ext.trans HE.out hE8); clear hO8 hE8 hsm)
      exact bodyPost_ret (v := .tuple #[v8, .int .i64 0]) (by simp [results, Tryd.results41]) rfl ⟨v8, rfl, HO8.out, HE8.out⟩
end Go.Proofs.YtfbmeclpcgdmhabDoor
