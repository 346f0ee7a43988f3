/-
  A digest begun with a ready key; the two of a tag.
-/
import Derived.Test.YthgflnjeojhgkaaDoorHKey
namespace Go.Proofs.YthgflnjeojhgkaaDoor
open Go.RowKit Go.BigFrame
set_option maxRecDepth 20000 in
set_option maxHeartbeats 1000000 in
theorem beginWith_any (r : Nat → BitVec 8) (x : BitVec 8) (w : World) (hC : TabC w) :
    Calls Tryd.prog 31 #[.agg (row 64 (yv r)).toArray, .int .u8 (x.toNat : Int)] w fun e w' => ∃ c, w.heap.size ≤ c ∧ e = .returned (.pointer (some ⟨c, 0, none⟩)) ∧ HashOf c (maskF r x) 64 w' ∧ Ext w w' := by
  have c54 := cutR54
  replace hC := hideit hC
  obtain ⟨M, hM⟩ : ∃ M, M = maskF r x := ⟨_, rfl⟩
  rw [← hM]
  have hm : ∀ n, xE8 (r n) x = M n := fun n => by rw [hM]; rfl
  replace hm := hideit hm
  clear hM
  go_enter Tryd.func31, Tryd.ntmps31
  go_wp2
  go_loopw [7] (fun i wr => ∃ n : Nat, n ≤ 64 ∧ i = .int .i64 n ∧ RowAt w.heap.size 64 (yv fun j => if j < n then M j else r j) wr ∧ Ext w wr) (fun i _ => 64 - (intOf i).toNat)
  case atStart =>
    exact ⟨0, by omega, rfl, (RowAt.new w 64 (yv r) 54).congr fun j _ => by simp [yv], (Below.refl _ _).alloc (Nat.le_refl _) _⟩
  case round =>
    obtain ⟨n, hn, rfl, h1, h2⟩ := hrel
    by_cases hlt : n < 64
    · have H1 := hideit h1
      have H2 := hideit h2
      have e1 := h1.1 n hlt
      have g1 := h1.2.1 n hlt
      clear h1 h2
      simp only [yv, if_neg (Nat.lt_irrefl n)] at e1
      have i0 : (0 : Int) ≤ (n : Int) := by omega
      have i1 : (n : Int) < 64 := by omega
      have hx := xor8' (r n) x
      rw [hm.out n] at hx
      go_wp2
      refine ⟨⟨n + 1, by omega, by go_num, (H1.out.set n (yv M n)).congr fun j _ => ?_, H2.out.setCell (Nat.le_refl _) _⟩, by simp [intOf]; omega⟩
      simp only [yv]
      by_cases e : j = n
      · subst e; rw [if_pos rfl, if_pos (by omega)]
      · rw [if_neg e]
        by_cases h : j < n
        · rw [if_pos h, if_pos (by omega)]
        · rw [if_neg h, if_neg (by omega)]
    · obtain rfl : n = 64 := by omega
      have HR := hideit (h1.congr (g' := yv M) fun j hj => by simp only [yv]; rw [if_pos hj])
      have HE := hideit h2
      clear h1 h2
      go_upto_region 7 with (go_at_call 26; refine (new_any _).mono ?_; rintro e w2 ⟨c, hc, rfl, hH, hE⟩; have HH := hideit hH; have HE2 := hideit (Ext.trans HE.out hE); have HR2 := hideit (HR.out.carry hE); have hlt2 : w.heap.size < wr.heap.size := HR.out.2.2; clear hH hE HR HE)
      have HO : HashOf c (fun _ => 0#8) 0 w2 := by
        unfold HashOf
        rw [pend_zero]
        exact HH.out
      have hwq := write_any c 0 64 64 (fun _ => 0#8) M ⟨w.heap.size, 0, none⟩ w2 HO (hC.out.ext HE2.out) (HR2.out.lie 64 (Nat.le_refl _)) (Nat.le_refl _) (by show w.heap.size ≠ c; omega) (by have := hC.out.2; omega) (by omega)
      replace hwq := hideit hwq
      clear HO HH
      go_upto_region 8 with (go_at_call 24; refine hwq.out.mono ?_; rintro e w3 ⟨rfl, h3, hB3⟩; have H3' := hideit h3; have HB3 := hideit hB3; clear h3 hB3)
      have H3 : HashOf c M 64 w3 := by
        have h4 := H3'.out
        rw [Nat.zero_add] at h4
        exact h4.congr fun j _ => by unfold catF; rw [if_neg (by omega), Nat.sub_zero]
      replace H3 := hideit H3
      have HE3 := hideit (Ext.but HE2.out HB3.out (by omega))
      clear H3' hwq HB3 HE2 HR2
      go_wp2
      go_ret
      exact ⟨c, by omega, rfl, H3.out, HE3.out⟩
end Go.Proofs.YthgflnjeojhgkaaDoor
