/-
  Behind a flush every block has what is sure; a fork has what the disk had, and a crash that keeps nothing leaves of it what was sure; there is no block behind the last: whatever was written.
-/
import Derived.Test.YtfaeieaelfjlpaaRows
import Derived.ProofKit
import Derived.OpenShut
import Derived.ShutString
import Derived.ChangeOld
import Derived.Below
import Derived.SizedLaws
import Derived.Test.YtfaeieaelfjlpaaDk21
namespace Go.Proofs.Ytfaeieaelfjlpaa.diskSure
open Go.ChangeShapes Go.WideShapes Go.ChangeAt Go.RowKit
set_option linter.unusedVariables false

theorem own : ownKnob Try.prog.godebug = none := by kernel_rfl
theorem laidOut : laidOutB Try.prog = true := by kernel_rfl

open Go.BigFrame Go.Maps
theorem has_fl (s : DSt) (j : Nat) : hasF (flS s) j = hasF s j := if_pos rfl
structure SuW (w : World) (p : Nat) (F : Nat → Prop) (s : DSt) (i : Nat) (M : DM) (X : World) : Prop where
  dk : DkM F p s i M X
  ext : Ext w X
  fw : ∀ j, F j → w.heap.size ≤ j
  n6 : s.N = 6
  s0 : s.S = fun _ _ => 0#8
  pw : s.pw = -1
theorem SuW.wrote {w : World} {p : Nat} {F F' : Nat → Prop} {s : DSt} {i : Nat} {M M' : DM} {X Y Z : World} {x : Int} {f : Nat → BitVec 8} (h : SuW w p F s i M X) (hE : Ext X Y) (hd : DkM F' p (wrX s x f) (i + 1) M' Z) (hk : Keeps F Y Z) (hF : ∀ j, F' j → F j ∨ Y.heap.size ≤ j) : SuW w p F' (wrX s x f) (i + 1) M' Z := by
  have hEY := Ext.trans h.ext hE
  refine ⟨hd, Below.trans hEY (hk.below (Below.size hEY) h.fw), fun j hj => ?_, ?_, ?_, ?_⟩
  · rcases hF j hj with e | e
    · exact h.fw j e
    · exact Nat.le_trans (Below.size hEY) e
  · unfold wrX
    split
    · exact h.n6
    · exact h.n6
  · unfold wrX
    split
    · exact h.s0
    · exact h.s0
  · unfold wrX
    split
    · show spE s.pw = -1
      rw [h.pw]
      rfl
    · exact h.pw
set_option maxRecDepth 20000 in
set_option maxHeartbeats 16000000 in
theorem walk (v : Value) (m : Int) (_ : (Lit.int .i64 m).wf = true) (w : World) (B0 : OpsA v w) : Calls Try.prog 6 #[v, .int .i64 m] w fun e w' => e = .returned (.bool true) ∧ Below w.heap.size w w' := by
  obtain ⟨o, n, cap, ks, ms, rfl, hn9, hops⟩ := B0
  have hn8 : n ≤ 9223372036854775807 := by unfold maxLen at hn9; exact hn9
  have kn := hideit (dnew 6 (by decide) (by decide) w)
  replace hops := hideit hops
  clear hn9
  go_enter Try.func6, Try.ntmps6
  go_upto_region 1 with (fail)
  refine wp_region_lit ?_
  refine wpList_call rfl (by simp [go_sem]) ((kn.out).mono ?_)
  rintro e w1 ⟨p, F0, M0, rfl, hd1, hX1, hF0⟩
  refine ⟨_, rfl, ?_⟩
  simp only [Act.put, List.setIfInBounds_toArray, List.set_cons_zero, List.set_cons_succ]
  refine wpList_run rfl (.tuple #[.pointer (some ⟨p, 0, none⟩), .int .i64 0]) (by simp [go_sem]) ?_
  simp only [Act.put, List.setIfInBounds_toArray, List.set_cons_zero, List.set_cons_succ]
  refine wpList_run rfl (.pointer (some ⟨p, 0, none⟩)) (by simp [go_sem]) ?_
  simp only [Act.put, List.setIfInBounds_toArray, List.set_cons_zero, List.set_cons_succ]
  refine wpList_run rfl (.int .i64 0) (by simp [go_sem]) ?_
  simp only [Act.put, List.setIfInBounds_toArray, List.set_cons_zero, List.set_cons_succ]
  refine wpList_run rfl (.pointer (some ⟨p, 0, none⟩)) (by simp [go_sem]) ?_
  simp only [Act.put, List.setIfInBounds_toArray, List.set_cons_zero, List.set_cons_succ]
  refine wpList_run rfl (.int .i64 0) (by simp [go_sem]) ?_
  simp only [Act.put, List.setIfInBounds_toArray, List.set_cons_zero, List.set_cons_succ]
  clear kn
  have klv := hideit (lives_any w1)
  go_upto_region 2 with (fail)
  refine wp_region_lit ?_
  refine wpList_call rfl (by simp [go_sem]) ((klv.out).mono ?_)
  rintro e w2 ⟨rfl, hX2⟩
  refine ⟨_, rfl, ?_⟩
  simp only [Act.put, List.setIfInBounds_toArray, List.set_cons_zero, List.set_cons_succ]
  refine wpList_run rfl (.bool false) (by simp [go_sem]) ?_
  simp only [Act.put, List.setIfInBounds_toArray, List.set_cons_zero, List.set_cons_succ]
  refine wpList_run rfl (.bool false) (by simp [go_sem]) ?_
  simp only [Act.put, List.setIfInBounds_toArray, List.set_cons_zero, List.set_cons_succ]
  refine wpList_runW rfl (.int .i64 0) (by simp [go_sem]) ?_
  simp only [Act.put, List.setIfInBounds_toArray, List.set_cons_zero, List.set_cons_succ]
  refine wpList_runW rfl (.bool false) (by simp [go_sem]) ?_
  simp only [Act.put, List.setIfInBounds_toArray, List.set_cons_zero, List.set_cons_succ]
  refine wpList_run rfl (.bool false) (by simp [go_sem]) ?_
  simp only [Act.put, List.setIfInBounds_toArray, List.set_cons_zero, List.set_cons_succ]
  refine wpList_run rfl (.bool false) (by simp [go_sem]) ?_
  simp only [Act.put, List.setIfInBounds_toArray, List.set_cons_zero, List.set_cons_succ]
  refine wpList_runW rfl (.pointer (some ⟨p, 0, none⟩)) (by simp [go_sem]) ?_
  simp only [Act.put, List.setIfInBounds_toArray, List.set_cons_zero, List.set_cons_succ]
  refine wpList_runW rfl (.bool false) (by simp [go_sem]) ?_
  simp only [Act.put, List.setIfInBounds_toArray, List.set_cons_zero, List.set_cons_succ]
  refine wpList_run rfl (.bool false) (by simp [go_sem]) ?_
  simp only [Act.put, List.setIfInBounds_toArray, List.set_cons_zero, List.set_cons_succ]
  have hS : Hid (SuW w p F0 (newS 6) 0 M0 w2) := ⟨hd1.ext hX2, Ext.trans hX1 hX2, hF0, rfl, rfl, rfl⟩
  clear klv hX2 hX1 hd1 hF0
  go_wp2
  go_loopw [7] (fun iv X => ∃ (i : Nat) (F : Nat → Prop) (s : DSt) (M : DM), i ≤ 100 ∧ i ≤ n ∧ iv = .int .i64 (i : Int) ∧ SuW w p F s i M X) (fun iv _ => 100 - (intOf iv).toNat)
  case atStart => exact ⟨0, _, _, _, by decide, Nat.zero_le _, rfl, hS.out⟩
  case round =>
    obtain ⟨i, F, s, M, hi, hin, rfl, hI⟩ := hrel
    clear hS
    by_cases hlt : i < n ∧ i < 100
    · obtain ⟨hlt, hl1⟩ := hlt
      have i0 : (0 : Int) ≤ (i : Int) := by omega
      have i1 : (i : Int) < (n : Int) := by omega
      have i2 : (i : Int) < 100 := by omega
      obtain ⟨ab, ao, u, bad, q, rfl, hcell, hokm, ⟨l, bf, hpv, hl9⟩, _⟩ := hops.out i hlt
      have fc : ∀ j, j < 5 → wr.cell? ⟨ab, ao + i * 5 + j, none⟩ = some (opc (ks i) (ms i) u bad q j) := fun j hj => cell_ext hI.ext (hcell j hj)
      have f0 := fc 0 (by decide)
      rw [show opc (ks i) (ms i) u bad q 0 = .int .i64 (ks i) from rfl, Nat.add_zero] at f0
      obtain ⟨uo, uc, rfl⟩ := hpv.form
      go_upto_region 7 with (fail)
      refine wp_region_lit ?_
      refine wpList_run rfl (.slice (some ⟨ab, ao, none⟩) n cap) (by simp [go_sem]) ?_
      simp only [Act.put, List.setIfInBounds_toArray, List.set_cons_zero, List.set_cons_succ]
      refine wpList_run rfl (.int .i64 (i : Int)) (by simp [go_sem]) ?_
      simp only [Act.put, List.setIfInBounds_toArray, List.set_cons_zero, List.set_cons_succ]
      refine wpList_run rfl (.pointer (some ⟨ab, ao + i * 5, none⟩)) (by simp [go_sem, i1]) ?_
      simp only [Act.put, List.setIfInBounds_toArray, List.set_cons_zero, List.set_cons_succ]
      refine wpList_run rfl (.pointer (some ⟨ab, ao + i * 5, none⟩)) (by simp [go_sem]) ?_
      simp only [Act.put, List.setIfInBounds_toArray, List.set_cons_zero, List.set_cons_succ]
      refine wpList_run rfl (.int .i64 (ks i)) (by simp [go_sem, f0]) ?_
      simp only [Act.put, List.setIfInBounds_toArray, List.set_cons_zero, List.set_cons_succ]
      by_cases hk1 : ks i = 1
      · have hD : Ext wr wr.drew := (Ext.refl wr).draw
        replace fc : ∀ j, j < 5 → wr.drew.cell? ⟨ab, ao + i * 5 + j, none⟩ = some (opc (ks i) (ms i) (.slice uo l uc) bad q j) := fun j hj => cell_ext hD (fc j hj)
        have kb := hideit (block_pv _ l bf wr.drew (hpv.ext (Ext.trans hI.ext hD)) hl9)
        refine wpList_run rfl (.bool true) (by simp [go_sem, hk1]) ?_
        simp only [Act.put, List.setIfInBounds_toArray, List.set_cons_zero, List.set_cons_succ]
        clear f0
        go_upto_region 8 with (fail)
        refine wp_region_ladz (fun X => Ext wr.drew X) [12] [(false, 0), (false, 1), (false, 2), (false, 3), (false, 4), (false, 5), (false, 6), (false, 7), (false, 8), (false, 9), (false, 10), (true, 11), (true, 12)] (by kernel_rfl) (by kernel_rfl) (by decide +kernel) (by decide +kernel) (by decide +kernel) (by decide +kernel) (Ext.refl _) ?_
        refine wpZ_f _ (.pointer (some ⟨p, 0, none⟩)) rfl rfl (fun X _ => by simp [go_sem]) ?_
        simp only [List.getElem_toArray, List.getElem_cons_zero, Act.put, List.setIfInBounds_toArray, List.set_cons_zero, List.set_cons_succ]
        refine wpZ_f _ (.slice (some ⟨ab, ao, none⟩) n cap) rfl rfl (fun X _ => by simp [go_sem]) ?_
        simp only [List.getElem_toArray, List.getElem_cons_zero, List.getElem_cons_succ, Act.put, List.setIfInBounds_toArray, List.set_cons_zero, List.set_cons_succ]
        refine wpZ_f _ (.int .i64 (i : Int)) rfl rfl (fun X _ => by simp [go_sem]) ?_
        simp only [List.getElem_toArray, List.getElem_cons_zero, List.getElem_cons_succ, Act.put, List.setIfInBounds_toArray, List.set_cons_zero, List.set_cons_succ]
        refine wpZ_f _ (.pointer (some ⟨ab, ao + i * 5, none⟩)) rfl rfl (fun X _ => by simp [go_sem, i1]) ?_
        simp only [List.getElem_toArray, List.getElem_cons_zero, List.getElem_cons_succ, Act.put, List.setIfInBounds_toArray, List.set_cons_zero, List.set_cons_succ]
        refine wpZ_f _ (.pointer (some ⟨ab, ao + i * 5 + 1, none⟩)) rfl rfl (fun X _ => by simp [go_sem]) ?_
        simp only [List.getElem_toArray, List.getElem_cons_zero, List.getElem_cons_succ, Act.put, List.setIfInBounds_toArray, List.set_cons_zero, List.set_cons_succ]
        refine wpZ_f _ (.int .i64 (ms i)) rfl rfl (fun X hX => by have e := cell_ext hX (fc 1 (by decide)); rw [show opc (ks i) (ms i) (.slice uo l uc) bad q 1 = .int .i64 (ms i) from rfl] at e; simp [go_sem, e]) ?_
        simp only [List.getElem_toArray, List.getElem_cons_zero, List.getElem_cons_succ, Act.put, List.setIfInBounds_toArray, List.set_cons_zero, List.set_cons_succ]
        refine wpZ_f _ (.slice (some ⟨ab, ao, none⟩) n cap) rfl rfl (fun X _ => by simp [go_sem]) ?_
        simp only [List.getElem_toArray, List.getElem_cons_zero, List.getElem_cons_succ, Act.put, List.setIfInBounds_toArray, List.set_cons_zero, List.set_cons_succ]
        refine wpZ_f _ (.int .i64 (i : Int)) rfl rfl (fun X _ => by simp [go_sem]) ?_
        simp only [List.getElem_toArray, List.getElem_cons_zero, List.getElem_cons_succ, Act.put, List.setIfInBounds_toArray, List.set_cons_zero, List.set_cons_succ]
        refine wpZ_f _ (.pointer (some ⟨ab, ao + i * 5, none⟩)) rfl rfl (fun X _ => by simp [go_sem, i1]) ?_
        simp only [List.getElem_toArray, List.getElem_cons_zero, List.getElem_cons_succ, Act.put, List.setIfInBounds_toArray, List.set_cons_zero, List.set_cons_succ]
        refine wpZ_f _ (.pointer (some ⟨ab, ao + i * 5 + 2, none⟩)) rfl rfl (fun X _ => by simp [go_sem]) ?_
        simp only [List.getElem_toArray, List.getElem_cons_zero, List.getElem_cons_succ, Act.put, List.setIfInBounds_toArray, List.set_cons_zero, List.set_cons_succ]
        refine wpZ_f _ (.slice uo l uc) rfl rfl (fun X hX => by have e := cell_ext hX (fc 2 (by decide)); rw [show opc (ks i) (ms i) (.slice uo l uc) bad q 2 = .slice uo l uc from rfl] at e; simp [go_sem, e]) ?_
        simp only [List.getElem_toArray, List.getElem_cons_zero, List.getElem_cons_succ, Act.put, List.setIfInBounds_toArray, List.set_cons_zero, List.set_cons_succ]
        refine wpZ_call _ rfl rfl (by simp [go_sem]) ((kb.out).mono ?_)
        rintro e w4 ⟨v4, rfl, hO4, hX4⟩
        obtain ⟨o4, c4, rfl⟩ := b512 hO4
        refine ⟨_, rfl, fun X => Ext wr.drew X, .inr fun X hX => hX, hX4, ?_⟩
        simp only [List.getElem_toArray, List.getElem_cons_zero, List.getElem_cons_succ, Act.put, List.setIfInBounds_toArray, List.set_cons_zero, List.set_cons_succ]
        have hE4 := Ext.trans hD hX4
        have kw := hideit (dwriteX (hI.dk.ext hE4) (by rw [hI.pw]; decide) (ms i) o4 c4 _ hO4.bv (by omega))
        refine wpZ_call _ rfl rfl (by simp [go_sem]) ((kw.out).mono ?_)
        rintro e w5 ⟨rfl, F5, M5, hd5, hk5, hF5⟩
        refine ⟨_, rfl, fun _ => True, .inl (by simp), trivial, ?_⟩
        simp only [List.getElem_toArray, List.getElem_cons_zero, List.getElem_cons_succ, Act.put, List.setIfInBounds_toArray, List.set_cons_zero, List.set_cons_succ]
        refine wpZ_nil ?_
        have hI5 : Hid (SuW w p F5 (wrX s (ms i) (blkF l bf)) (i + 1) M5 w5) := hI.wrote hE4 hd5 hk5 hF5
        clear hd5 hk5 hF5 kw kb hO4 hX4 hE4 hI fc hD hpv hcell
        go_wp2
        exact ⟨⟨i + 1, _, _, _, by omega, by omega, by go_num, hI5.out⟩, by simp [intOf]; omega⟩
      · refine wpList_run rfl (.bool false) (by simp [go_sem, hk1]) ?_
        simp only [Act.put, List.setIfInBounds_toArray, List.set_cons_zero, List.set_cons_succ]
        have hI5 : Hid (SuW w p F s (i + 1) M wr) := ⟨hI.dk.mono (by omega), hI.ext, hI.fw, hI.n6, hI.s0, hI.pw⟩
        clear hI fc f0 hpv hcell
        go_wp2
        exact ⟨⟨i + 1, _, _, _, by omega, by omega, by go_num, hI5.out⟩, by simp [intOf]; omega⟩
    · have hn6 := hI.n6
      have hpw := hI.pw
      have hs0 := hI.s0
      have kf := hideit (dfork hI.dk (by omega) (by omega))
      have hC : i ≤ 100 := hi
      have key : ¬ ((i : Int) < (n : Int) ∧ (i : Int) < 100) := by omega
      replace hI := hideit hI
      by_cases hlt2 : (i : Int) < (n : Int)
      · have hlt3 : ¬ (i : Int) < 100 := by omega
        clear key hlt
        go_upto_region 9 with (fail)
        refine wp_region_lit ?_
        refine wpList_run rfl (.pointer (some ⟨p, 0, none⟩)) (by simp [go_sem]) ?_
        simp only [Act.put, List.setIfInBounds_toArray, List.set_cons_zero, List.set_cons_succ]
        refine wpList_call rfl (by simp [go_sem]) ((kf.out).mono ?_)
        rintro e w6 ⟨c, G, N, rfl, hc6, hX6, hG⟩
        refine ⟨_, rfl, ?_⟩
        simp only [Act.put, List.setIfInBounds_toArray, List.set_cons_zero, List.set_cons_succ]
        refine wpList_run rfl (.pointer (some ⟨c, 0, none⟩)) (by simp [go_sem]) ?_
        simp only [Act.put, List.setIfInBounds_toArray, List.set_cons_zero, List.set_cons_succ]
        have hd6 := hI.out.dk.ext hX6
        have E6 := Ext.trans hI.out.ext hX6
        have hFG : ∀ j, F j → ¬ G j := fun j hj e => by have := hI.out.dk.lt j hj; have := hG j e; omega
        have hfw := hI.out.fw
        have kfl := hideit (dflush hd6 (by rw [hpw]; decide) (by omega))
        clear kf hX6
        go_upto_region 10 with (fail)
        refine wp_region_lit ?_
        refine wpList_run rfl (.pointer (some ⟨c, 0, none⟩)) (by simp [go_sem]) ?_
        simp only [Act.put, List.setIfInBounds_toArray, List.set_cons_zero, List.set_cons_succ]
        refine wpList_run rfl (.bool false) (by simp [go_sem]) ?_
        simp only [Act.put, List.setIfInBounds_toArray, List.set_cons_zero, List.set_cons_succ]
        refine wpList_run rfl (.bool false) (by simp [go_sem]) ?_
        simp only [Act.put, List.setIfInBounds_toArray, List.set_cons_zero, List.set_cons_succ]
        refine wpList_runW rfl (.pointer (some ⟨p, 0, none⟩)) (by simp [go_sem]) ?_
        simp only [Act.put, List.setIfInBounds_toArray, List.set_cons_zero, List.set_cons_succ]
        refine wpList_callW rfl (by simp [go_sem]) ((kfl.out).mono ?_)
        rintro e w7 ⟨rfl, M7, hd7, hk7⟩
        refine ⟨_, rfl, ?_⟩
        simp only [Act.put, List.setIfInBounds_toArray, List.set_cons_zero, List.set_cons_succ]
        refine wpList_runW rfl (.bool false) (by simp [go_sem]) ?_
        simp only [Act.put, List.setIfInBounds_toArray, List.set_cons_zero, List.set_cons_succ]
        refine wpList_run rfl (.bool false) (by simp [go_sem]) ?_
        simp only [Act.put, List.setIfInBounds_toArray, List.set_cons_zero, List.set_cons_succ]
        refine wpList_run rfl (.bool false) (by simp [go_sem]) ?_
        simp only [Act.put, List.setIfInBounds_toArray, List.set_cons_zero, List.set_cons_succ]
        refine wpList_runW rfl (.pointer (some ⟨p, 0, none⟩)) (by simp [go_sem]) ?_
        simp only [Act.put, List.setIfInBounds_toArray, List.set_cons_zero, List.set_cons_succ]
        have hc7 := hc6.keep hk7 (fun j hj e => hFG j e hj) hd6.nb
        have E7 : Ext w w7 := Below.trans E6 (hk7.below (Below.size E6) hfw)
        have hGw : ∀ j, G j → w.heap.size ≤ j := fun j hj => Nat.le_trans (Below.size hI.out.ext) (hG j hj)
        have kun := hideit (dunsure_none hd7 fun _ _ => rfl)
        clear kfl hc6 hk7 E6 hd6
        refine wpList_callW rfl (by simp [go_sem]) ((kun.out).mono ?_)
        rintro e w8 ⟨uv, rfl, hX8, uo, ucap, rfl⟩
        refine ⟨_, rfl, ?_⟩
        simp only [Act.put, List.setIfInBounds_toArray, List.set_cons_zero, List.set_cons_succ]
        refine wpList_runW rfl (.int .i64 0) (by simp [go_sem]) ?_
        simp only [Act.put, List.setIfInBounds_toArray, List.set_cons_zero, List.set_cons_succ]
        refine wpList_runW rfl (.bool false) (by simp [go_sem]) ?_
        simp only [Act.put, List.setIfInBounds_toArray, List.set_cons_zero, List.set_cons_succ]
        refine wpList_run rfl (.bool false) (by simp [go_sem]) ?_
        simp only [Act.put, List.setIfInBounds_toArray, List.set_cons_zero, List.set_cons_succ]
        have hd8 := hideit (hd7.ext hX8)
        have hc8 := hideit (hc7.ext hX8)
        have E8 := hideit (Ext.trans E7 hX8)
        replace hFG := hideit hFG
        replace hGw := hideit hGw
        clear kun hX8 hd7 hc7 E7 hG hI hfw
        go_wp2
        go_loopw [9] (fun jv X => ∃ j : Nat, j ≤ 6 ∧ jv = .int .i64 (j : Int) ∧ Ext w8 X) (fun jv _ => 6 - (intOf jv).toNat)
        case atStart => exact ⟨0, by decide, rfl, Ext.refl _⟩
        case round =>
          obtain ⟨j, hj, rfl, hE⟩ := hrel
          by_cases hj6 : j < 6
          · have j0 : (0 : Int) ≤ (j : Int) := by omega
            have j1 : (j : Int) < 6 := by omega
            have kr1 := dread (hd8.out.ext hE) j (by show j < s.N; rw [hn6]; exact hj6) (by show spE s.pw ≠ 0; rw [hpw]; decide) (by omega)
            rw [has_fl] at kr1
            replace kr1 := hideit kr1
            go_upto_region 15 with (fail)
            refine wp_region_lit ?_
            refine wpList_run rfl (.pointer (some ⟨p, 0, none⟩)) (by simp [go_sem]) ?_
            simp only [Act.put, List.setIfInBounds_toArray, List.set_cons_zero, List.set_cons_succ]
            refine wpList_run rfl (.int .i64 (j : Int)) (by simp [go_sem]) ?_
            simp only [Act.put, List.setIfInBounds_toArray, List.set_cons_zero, List.set_cons_succ]
            refine wpList_call rfl (by simp [go_sem]) ((kr1.out).mono ?_)
            rintro e w9 ⟨v9, rfl, hO9, hX9⟩
            refine ⟨_, rfl, ?_⟩
            simp only [Act.put, List.setIfInBounds_toArray, List.set_cons_zero, List.set_cons_succ]
            obtain ⟨o9, c9, rfl⟩ := b512 hO9
            refine wpList_run rfl (.tuple #[.slice o9 512 c9, .int .i64 0]) (by simp [go_sem]) ?_
            simp only [Act.put, List.setIfInBounds_toArray, List.set_cons_zero, List.set_cons_succ]
            refine wpList_run rfl (.slice o9 512 c9) (by simp [go_sem]) ?_
            simp only [Act.put, List.setIfInBounds_toArray, List.set_cons_zero, List.set_cons_succ]
            refine wpList_run rfl (.int .i64 0) (by simp [go_sem]) ?_
            simp only [Act.put, List.setIfInBounds_toArray, List.set_cons_zero, List.set_cons_succ]
            refine wpList_run rfl (.slice o9 512 c9) (by simp [go_sem]) ?_
            simp only [Act.put, List.setIfInBounds_toArray, List.set_cons_zero, List.set_cons_succ]
            refine wpList_run rfl (.int .i64 0) (by simp [go_sem]) ?_
            simp only [Act.put, List.setIfInBounds_toArray, List.set_cons_zero, List.set_cons_succ]
            have hE9 := Ext.trans hE hX9
            have kr2 := hideit (dread (hc8.out.ext hE9) j (by rw [hn6]; exact hj6) (by rw [hpw]; decide) (by omega))
            go_upto_region 16 with (fail)
            refine wp_region_lit ?_
            refine wpList_run rfl (.pointer (some ⟨c, 0, none⟩)) (by simp [go_sem]) ?_
            simp only [Act.put, List.setIfInBounds_toArray, List.set_cons_zero, List.set_cons_succ]
            refine wpList_run rfl (.int .i64 (j : Int)) (by simp [go_sem]) ?_
            simp only [Act.put, List.setIfInBounds_toArray, List.set_cons_zero, List.set_cons_succ]
            refine wpList_call rfl (by simp [go_sem]) ((kr2.out).mono ?_)
            rintro e w10 ⟨v10, rfl, hO10, hX10⟩
            refine ⟨_, rfl, ?_⟩
            simp only [Act.put, List.setIfInBounds_toArray, List.set_cons_zero, List.set_cons_succ]
            obtain ⟨o10, c10, rfl⟩ := b512 hO10
            refine wpList_run rfl (.tuple #[.slice o10 512 c10, .int .i64 0]) (by simp [go_sem]) ?_
            simp only [Act.put, List.setIfInBounds_toArray, List.set_cons_zero, List.set_cons_succ]
            refine wpList_run rfl (.slice o10 512 c10) (by simp [go_sem]) ?_
            simp only [Act.put, List.setIfInBounds_toArray, List.set_cons_zero, List.set_cons_succ]
            refine wpList_run rfl (.int .i64 0) (by simp [go_sem]) ?_
            simp only [Act.put, List.setIfInBounds_toArray, List.set_cons_zero, List.set_cons_succ]
            refine wpList_run rfl (.slice o10 512 c10) (by simp [go_sem]) ?_
            simp only [Act.put, List.setIfInBounds_toArray, List.set_cons_zero, List.set_cons_succ]
            refine wpList_run rfl (.int .i64 0) (by simp [go_sem]) ?_
            simp only [Act.put, List.setIfInBounds_toArray, List.set_cons_zero, List.set_cons_succ]
            obtain ⟨s1, hs1⟩ : ∃ s1, s1 = bstr 512 (fun t => ((hasF s j t).toNat : Int)) := ⟨_, rfl⟩
            have hD : Ext w10 w10.drew := (Ext.refl w10).draw
            have ca : ∀ X, Ext w10.drew X → (convert 31 9 (.slice o9 512 c9)).run Try.prog X = .ok (.string s1) X := fun X hX => by rw [hs1]; exact convV _ _ _ X (((hO9.bv.ext hX10).ext hD).ext hX)
            have cb : ∀ X, Ext w10.drew X → (convert 31 9 (.slice o10 512 c10)).run Try.prog X = .ok (.string s1) X := fun X hX => by rw [hs1]; exact convV _ _ _ X ((hO10.bv.ext hD).ext hX)
            have hE10 := Ext.trans (Ext.trans hE9 hX10) hD
            have ksu := hideit (dsure (hd8.out.ext hE10) j (by show j < s.N; rw [hn6]; exact hj6))
            replace hs1 := hideit hs1
            clear kr1 kr2 hO9 hO10 hX9 hE9 hX10
            go_upto_region 17 with (fail)
            refine wp_region_lad (fun X => Ext w10.drew X) [(false, 0), (false, 1), (false, 2), (false, 3), (false, 4), (false, 5), (false, 6), (false, 7), (false, 8), (false, 9), (false, 10), (false, 11), (false, 12), (false, 13), (false, 14), (false, 15), (false, 16), (false, 17), (true, 18), (false, 19), (false, 20), (false, 21)] (by kernel_rfl) (by kernel_rfl) (by decide +kernel) (by decide +kernel) (by decide +kernel) (by decide +kernel) (Ext.refl _) ?_
            refine wpX_f _ (.int .i64 0) rfl rfl (fun X _ => by simp [go_sem]) ?_
            simp only [List.getElem_toArray, List.getElem_cons_zero, Act.put, List.setIfInBounds_toArray, List.set_cons_zero, List.set_cons_succ]
            refine wpX_f _ (.bool false) rfl rfl (fun X _ => by simp [go_sem]) ?_
            simp only [List.getElem_toArray, List.getElem_cons_zero, List.getElem_cons_succ, Act.put, List.setIfInBounds_toArray, List.set_cons_zero, List.set_cons_succ]
            refine wpX_f _ (.bool false) rfl rfl (fun X _ => by simp [go_sem]) ?_
            simp only [List.getElem_toArray, List.getElem_cons_zero, List.getElem_cons_succ, Act.put, List.setIfInBounds_toArray, List.set_cons_zero, List.set_cons_succ]
            refine wpX_f _ (.int .i64 0) rfl rfl (fun X _ => by simp [go_sem]) ?_
            simp only [List.getElem_toArray, List.getElem_cons_zero, List.getElem_cons_succ, Act.put, List.setIfInBounds_toArray, List.set_cons_zero, List.set_cons_succ]
            refine wpX_f _ (.bool false) rfl rfl (fun X _ => by simp [go_sem]) ?_
            simp only [List.getElem_toArray, List.getElem_cons_zero, List.getElem_cons_succ, Act.put, List.setIfInBounds_toArray, List.set_cons_zero, List.set_cons_succ]
            refine wpX_f _ (.bool false) rfl rfl (fun X _ => by simp [go_sem]) ?_
            simp only [List.getElem_toArray, List.getElem_cons_zero, List.getElem_cons_succ, Act.put, List.setIfInBounds_toArray, List.set_cons_zero, List.set_cons_succ]
            refine wpX_f _ (.bool false) rfl rfl (fun X _ => by simp [go_sem]) ?_
            simp only [List.getElem_toArray, List.getElem_cons_zero, List.getElem_cons_succ, Act.put, List.setIfInBounds_toArray, List.set_cons_zero, List.set_cons_succ]
            refine wpX_f _ (.slice o9 512 c9) rfl rfl (fun X _ => by simp [go_sem]) ?_
            simp only [List.getElem_toArray, List.getElem_cons_zero, List.getElem_cons_succ, Act.put, List.setIfInBounds_toArray, List.set_cons_zero, List.set_cons_succ]
            refine wpX_f _ (.string s1) rfl rfl (fun X hX => by have e := ca X hX; simp [go_sem, e]) ?_
            simp only [List.getElem_toArray, List.getElem_cons_zero, List.getElem_cons_succ, Act.put, List.setIfInBounds_toArray, List.set_cons_zero, List.set_cons_succ]
            refine wpX_f _ (.slice o10 512 c10) rfl rfl (fun X _ => by simp [go_sem]) ?_
            simp only [List.getElem_toArray, List.getElem_cons_zero, List.getElem_cons_succ, Act.put, List.setIfInBounds_toArray, List.set_cons_zero, List.set_cons_succ]
            refine wpX_f _ (.string s1) rfl rfl (fun X hX => by have e := cb X hX; simp [go_sem, e]) ?_
            simp only [List.getElem_toArray, List.getElem_cons_zero, List.getElem_cons_succ, Act.put, List.setIfInBounds_toArray, List.set_cons_zero, List.set_cons_succ]
            refine wpX_f _ (.bool false) rfl rfl (fun X _ => by simp [go_sem]) ?_
            simp only [List.getElem_toArray, List.getElem_cons_zero, List.getElem_cons_succ, Act.put, List.setIfInBounds_toArray, List.set_cons_zero, List.set_cons_succ]
            refine wpX_f _ (.bool false) rfl rfl (fun X _ => by simp [go_sem]) ?_
            simp only [List.getElem_toArray, List.getElem_cons_zero, List.getElem_cons_succ, Act.put, List.setIfInBounds_toArray, List.set_cons_zero, List.set_cons_succ]
            refine wpX_f _ (.bool false) rfl rfl (fun X _ => by simp [go_sem]) ?_
            simp only [List.getElem_toArray, List.getElem_cons_zero, List.getElem_cons_succ, Act.put, List.setIfInBounds_toArray, List.set_cons_zero, List.set_cons_succ]
            refine wpX_f _ (.slice o9 512 c9) rfl rfl (fun X _ => by simp [go_sem]) ?_
            simp only [List.getElem_toArray, List.getElem_cons_zero, List.getElem_cons_succ, Act.put, List.setIfInBounds_toArray, List.set_cons_zero, List.set_cons_succ]
            refine wpX_f _ (.string s1) rfl rfl (fun X hX => by have e := ca X hX; simp [go_sem, e]) ?_
            simp only [List.getElem_toArray, List.getElem_cons_zero, List.getElem_cons_succ, Act.put, List.setIfInBounds_toArray, List.set_cons_zero, List.set_cons_succ]
            refine wpX_f _ (.pointer (some ⟨p, 0, none⟩)) rfl rfl (fun X _ => by simp [go_sem]) ?_
            simp only [List.getElem_toArray, List.getElem_cons_zero, List.getElem_cons_succ, Act.put, List.setIfInBounds_toArray, List.set_cons_zero, List.set_cons_succ]
            refine wpX_f _ (.int .i64 (j : Int)) rfl rfl (fun X _ => by simp [go_sem]) ?_
            simp only [List.getElem_toArray, List.getElem_cons_zero, List.getElem_cons_succ, Act.put, List.setIfInBounds_toArray, List.set_cons_zero, List.set_cons_succ]
            refine wpX_call _ rfl rfl (by simp [go_sem]) ((ksu.out).mono ?_)
            rintro e w11 ⟨v11, rfl, hO11, hX11⟩
            obtain ⟨o11, c11, rfl⟩ := b512 hO11
            have cd : ∀ X, Ext w11 X → (convert 31 9 (.slice o11 512 c11)).run Try.prog X = .ok (.string s1) X := fun X hX => by rw [hs1.out]; exact convV _ _ _ X (hO11.bv.ext hX)
            refine ⟨_, rfl, fun X => Ext w11 X, fun X hX => Ext.trans hX11 hX, Ext.refl _, ?_⟩
            simp only [List.getElem_toArray, List.getElem_cons_zero, List.getElem_cons_succ, Act.put, List.setIfInBounds_toArray, List.set_cons_zero, List.set_cons_succ]
            refine wpX_f _ (.string s1) rfl rfl (fun X hX => by have e := cd X hX; simp [go_sem, e]) ?_
            simp only [List.getElem_toArray, List.getElem_cons_zero, List.getElem_cons_succ, Act.put, List.setIfInBounds_toArray, List.set_cons_zero, List.set_cons_succ]
            refine wpX_f _ (.bool false) rfl rfl (fun X _ => by simp [go_sem]) ?_
            simp only [List.getElem_toArray, List.getElem_cons_zero, List.getElem_cons_succ, Act.put, List.setIfInBounds_toArray, List.set_cons_zero, List.set_cons_succ]
            refine wpX_f _ (.bool false) rfl rfl (fun X _ => by simp [go_sem]) ?_
            simp only [List.getElem_toArray, List.getElem_cons_zero, List.getElem_cons_succ, Act.put, List.setIfInBounds_toArray, List.set_cons_zero, List.set_cons_succ]
            refine wpX_nil ?_
            have E11 := hideit (Ext.trans hE10 hX11)
            clear ca cb cd ksu hO11 hX11 hE10 hD hE
            go_wp2
            exact ⟨⟨j + 1, by omega, by go_num, E11.out⟩, by simp [intOf]; omega⟩
          · obtain rfl : j = 6 := by omega
            have hd9 := hd8.out.ext hE
            have hc9 := hc8.out.ext hE
            have E9 := Ext.trans E8.out hE
            have kcr := hideit (dcrash (kb := fun _ => 0) (kw := fun _ => 0) hc9 (.slice none 0 0) 0 (.inl ⟨rfl, rfl⟩) (fun i hi => by omega) (by decide) (fun i hi => by omega) (by omega))
            go_upto_region 19 with (fail)
            refine wp_region_lit ?_
            refine wpList_run rfl (.pointer (some ⟨c, 0, none⟩)) (by simp [go_sem]) ?_
            simp only [Act.put, List.setIfInBounds_toArray, List.set_cons_zero, List.set_cons_succ]
            refine wpList_call rfl (by simp [go_sem]) ((kcr.out).mono ?_)
            rintro e w12 ⟨rfl, M12, hc12, hk12⟩
            refine ⟨_, rfl, ?_⟩
            simp only [Act.put, List.setIfInBounds_toArray, List.set_cons_zero, List.set_cons_succ]
            refine wpList_run rfl (.bool false) (by simp [go_sem]) ?_
            simp only [Act.put, List.setIfInBounds_toArray, List.set_cons_zero, List.set_cons_succ]
            have hd12 := hd9.keep hk12 hFG.out hc9.nb
            have E12 : Ext w w12 := Below.trans E9 (hk12.below (Below.size E9) hGw.out)
            clear kcr hk12 hd9 hc9 E9 hE
            have kr := dread hc12 0 (by show 0 < s.N; rw [hn6]; decide) (by show (-1 : Int) ≠ 0; decide) (by omega)
            rw [show hasF (crS s (fun _ => 0) (fun _ => 0) 0) 0 = fun _ => 0#8 by show s.S 0 = _; rw [hs0]] at kr
            replace kr := hideit kr
            go_upto_region 21 with (fail)
            refine wp_region_lit ?_
            refine wpList_run rfl (.pointer (some ⟨c, 0, none⟩)) (by simp [go_sem]) ?_
            simp only [Act.put, List.setIfInBounds_toArray, List.set_cons_zero, List.set_cons_succ]
            refine wpList_call rfl (by simp [go_sem]) ((kr.out).mono ?_)
            rintro e w13 ⟨v13, rfl, hO13, hX13⟩
            refine ⟨_, rfl, ?_⟩
            simp only [Act.put, List.setIfInBounds_toArray, List.set_cons_zero, List.set_cons_succ]
            obtain ⟨o13, c13, rfl⟩ := b512 hO13
            refine wpList_run rfl (.tuple #[.slice o13 512 c13, .int .i64 0]) (by simp [go_sem]) ?_
            simp only [Act.put, List.setIfInBounds_toArray, List.set_cons_zero, List.set_cons_succ]
            refine wpList_run rfl (.slice o13 512 c13) (by simp [go_sem]) ?_
            simp only [Act.put, List.setIfInBounds_toArray, List.set_cons_zero, List.set_cons_succ]
            refine wpList_run rfl (.int .i64 0) (by simp [go_sem]) ?_
            simp only [Act.put, List.setIfInBounds_toArray, List.set_cons_zero, List.set_cons_succ]
            refine wpList_run rfl (.slice o13 512 c13) (by simp [go_sem]) ?_
            simp only [Act.put, List.setIfInBounds_toArray, List.set_cons_zero, List.set_cons_succ]
            refine wpList_run rfl (.int .i64 0) (by simp [go_sem]) ?_
            simp only [Act.put, List.setIfInBounds_toArray, List.set_cons_zero, List.set_cons_succ]
            obtain ⟨s1, hs1⟩ : ∃ s1, s1 = bstr 512 (fun t => (((fun _ => 0#8 : Nat → BitVec 8) t).toNat : Int)) := ⟨_, rfl⟩
            have hD : Ext w13 w13.drew := (Ext.refl w13).draw
            have ca : ∀ X, Ext w13.drew X → (convert 31 9 (.slice o13 512 c13)).run Try.prog X = .ok (.string s1) X := fun X hX => by rw [hs1]; exact convV _ _ _ X ((hO13.bv.ext hD).ext hX)
            have hd14 := hd12.ext (Ext.trans hX13 hD)
            have E14 := Ext.trans (Ext.trans E12 hX13) hD
            have hmk : (w13.drew.alloc (.cells (madeCells (Value.int .u8 0).cells (512 * 1)) 5)).heap.size = w13.drew.heap.size + 1 := by simp
            have hXm : Ext w13.drew (w13.drew.alloc (.cells (madeCells (Value.int .u8 0).cells (512 * 1)) 5)) := (Below.refl _ _).alloc (Nat.le_refl _) _
            have hRm := RowAt.newOf w13.drew 512 (yv fun _ => 0#8) 5 (madeCells (Value.int .u8 0).cells (512 * 1)) fun j hj => made_at (Value.int .u8 0).cells (512 * 1) (.int .u8 0) (fun k hk => by
              have : k = 0 := by simpa [Value.cells] using hk
              subst this
              rfl) (by decide) j (by omega)
            have hBm : BV (.slice (some ⟨w13.drew.heap.size, 0, none⟩) 512 512) 512 (fun _ => 0#8) (w13.drew.alloc (.cells (madeCells (Value.int .u8 0).cells (512 * 1)) 5)) := .inr ⟨_, 512, rfl, Nat.le_refl _, RowAt.lie hRm _ (Nat.le_refl _)⟩
            replace hs1 := hideit hs1
            clear kr hO13 hX13 hd12 hc12 E12 hRm hmk
            go_upto_region 22 with (fail)
            refine wp_region_lad (fun X => Ext w13.drew X) [(false, 0), (false, 1), (true, 2), (false, 3), (false, 4), (false, 5), (false, 6), (true, 7), (false, 8), (false, 9), (false, 10), (false, 11), (false, 12), (true, 13), (false, 14), (false, 15), (false, 16), (false, 17)] (by kernel_rfl) (by kernel_rfl) (by decide +kernel) (by decide +kernel) (by decide +kernel) (by decide +kernel) (Ext.refl _) ?_
            generalize w13.drew = wd at *
            refine wpX_f _ (.slice o13 512 c13) rfl rfl (fun X _ => by simp [go_sem]) ?_
            simp only [List.getElem_toArray, List.getElem_cons_zero, Act.put, List.setIfInBounds_toArray, List.set_cons_zero, List.set_cons_succ]
            refine wpX_f _ (.string s1) rfl rfl (fun X hX => by have e := ca X hX; simp [go_sem, e]) ?_
            simp only [List.getElem_toArray, List.getElem_cons_zero, List.getElem_cons_succ, Act.put, List.setIfInBounds_toArray, List.set_cons_zero, List.set_cons_succ]
            refine wpX_to _ (.slice (some ⟨wd.heap.size, 0, none⟩) 512 512) (wd.alloc (.cells (madeCells (Value.int .u8 0).cells (512 * 1)) 5)) rfl rfl (exec_made 31 5 (.const (.int .i64 512)) (.const (.int .i64 512)) rfl _ 1 1 512 Try.underlying31 info5 rfl rfl (by decide) (by decide)) (fun X => Ext (wd.alloc (.cells (madeCells (Value.int .u8 0).cells (512 * 1)) 5)) X) (fun X hX => Ext.trans hXm hX) (Ext.refl _) ?_
            simp only [List.getElem_toArray, List.getElem_cons_zero, List.getElem_cons_succ, Act.put, List.setIfInBounds_toArray, List.set_cons_zero, List.set_cons_succ]
            have hd15 := hd14.ext hXm
            have E15 := Ext.trans E14 hXm
            generalize wd.alloc (.cells (madeCells (Value.int .u8 0).cells (512 * 1)) 5) = we at *
            have cb : ∀ X, Ext we X → (convert 31 9 (.slice (some ⟨wd.heap.size, 0, none⟩) 512 512)).run Try.prog X = .ok (.string s1) X := fun X hX => by rw [hs1.out]; exact convV _ _ _ X (hBm.ext hX)
            have ks6 := hideit (dsure_bad hd15 6 (by show inN s.N 6 = false; rw [hn6]; decide))
            have ksm := hideit (dsure_bad hd15 (-1) (by show inN s.N (-1) = false; rw [hn6]; decide))
            replace E15 := hideit E15
            refine wpX_f _ (.string s1) rfl rfl (fun X hX => by have e := cb X hX; simp [go_sem, e]) ?_
            simp only [List.getElem_toArray, List.getElem_cons_zero, List.getElem_cons_succ, Act.put, List.setIfInBounds_toArray, List.set_cons_zero, List.set_cons_succ]
            refine wpX_f _ (.bool true) rfl rfl (fun X _ => by simp [go_sem]) ?_
            simp only [List.getElem_toArray, List.getElem_cons_zero, List.getElem_cons_succ, Act.put, List.setIfInBounds_toArray, List.set_cons_zero, List.set_cons_succ]
            refine wpX_f _ (.bool true) rfl rfl (fun X _ => by simp [go_sem]) ?_
            simp only [List.getElem_toArray, List.getElem_cons_zero, List.getElem_cons_succ, Act.put, List.setIfInBounds_toArray, List.set_cons_zero, List.set_cons_succ]
            refine wpX_f _ (.pointer (some ⟨p, 0, none⟩)) rfl rfl (fun X _ => by simp [go_sem]) ?_
            simp only [List.getElem_toArray, List.getElem_cons_zero, List.getElem_cons_succ, Act.put, List.setIfInBounds_toArray, List.set_cons_zero, List.set_cons_succ]
            refine wpX_call _ rfl rfl (by simp [go_sem]) ((ks6.out).mono ?_)
            rintro e w16 ⟨rfl, hw16⟩
            rw [hw16]
            refine ⟨_, rfl, fun X => Ext we X, fun X hX => hX, Ext.refl _, ?_⟩
            simp only [List.getElem_toArray, List.getElem_cons_zero, List.getElem_cons_succ, Act.put, List.setIfInBounds_toArray, List.set_cons_zero, List.set_cons_succ]
            refine wpX_f _ (.int .i64 0) rfl rfl (fun X _ => by simp [go_sem]) ?_
            simp only [List.getElem_toArray, List.getElem_cons_zero, List.getElem_cons_succ, Act.put, List.setIfInBounds_toArray, List.set_cons_zero, List.set_cons_succ]
            refine wpX_f _ (.bool true) rfl rfl (fun X _ => by simp [go_sem]) ?_
            simp only [List.getElem_toArray, List.getElem_cons_zero, List.getElem_cons_succ, Act.put, List.setIfInBounds_toArray, List.set_cons_zero, List.set_cons_succ]
            refine wpX_f _ (.bool true) rfl rfl (fun X _ => by simp [go_sem]) ?_
            simp only [List.getElem_toArray, List.getElem_cons_zero, List.getElem_cons_succ, Act.put, List.setIfInBounds_toArray, List.set_cons_zero, List.set_cons_succ]
            refine wpX_f _ (.bool true) rfl rfl (fun X _ => by simp [go_sem]) ?_
            simp only [List.getElem_toArray, List.getElem_cons_zero, List.getElem_cons_succ, Act.put, List.setIfInBounds_toArray, List.set_cons_zero, List.set_cons_succ]
            refine wpX_f _ (.pointer (some ⟨p, 0, none⟩)) rfl rfl (fun X _ => by simp [go_sem]) ?_
            simp only [List.getElem_toArray, List.getElem_cons_zero, List.getElem_cons_succ, Act.put, List.setIfInBounds_toArray, List.set_cons_zero, List.set_cons_succ]
            refine wpX_call _ rfl rfl (by simp [go_sem]) ((ksm.out).mono ?_)
            rintro e w17 ⟨rfl, hw17⟩
            rw [hw17]
            refine ⟨_, rfl, fun X => Ext we X, fun X hX => hX, Ext.refl _, ?_⟩
            simp only [List.getElem_toArray, List.getElem_cons_zero, List.getElem_cons_succ, Act.put, List.setIfInBounds_toArray, List.set_cons_zero, List.set_cons_succ]
            refine wpX_f _ (.int .i64 0) rfl rfl (fun X _ => by simp [go_sem]) ?_
            simp only [List.getElem_toArray, List.getElem_cons_zero, List.getElem_cons_succ, Act.put, List.setIfInBounds_toArray, List.set_cons_zero, List.set_cons_succ]
            refine wpX_f _ (.bool true) rfl rfl (fun X _ => by simp [go_sem]) ?_
            simp only [List.getElem_toArray, List.getElem_cons_zero, List.getElem_cons_succ, Act.put, List.setIfInBounds_toArray, List.set_cons_zero, List.set_cons_succ]
            refine wpX_f _ (.bool true) rfl rfl (fun X _ => by simp [go_sem]) ?_
            simp only [List.getElem_toArray, List.getElem_cons_zero, List.getElem_cons_succ, Act.put, List.setIfInBounds_toArray, List.set_cons_zero, List.set_cons_succ]
            refine wpX_f _ (.bool true) rfl rfl (fun X _ => by simp [go_sem]) ?_
            simp only [List.getElem_toArray, List.getElem_cons_zero, List.getElem_cons_succ, Act.put, List.setIfInBounds_toArray, List.set_cons_zero, List.set_cons_succ]
            refine wpX_nil ?_
            clear ca cb ks6 ksm hw16 hw17 hBm hXm hd14 E14 hd15 hD
            go_wp2
            go_ret
            exact ⟨rfl, E15.out⟩
      · clear key hlt
        go_upto_region 9 with (fail)
        refine wp_region_lit ?_
        refine wpList_run rfl (.pointer (some ⟨p, 0, none⟩)) (by simp [go_sem]) ?_
        simp only [Act.put, List.setIfInBounds_toArray, List.set_cons_zero, List.set_cons_succ]
        refine wpList_call rfl (by simp [go_sem]) ((kf.out).mono ?_)
        rintro e w6 ⟨c, G, N, rfl, hc6, hX6, hG⟩
        refine ⟨_, rfl, ?_⟩
        simp only [Act.put, List.setIfInBounds_toArray, List.set_cons_zero, List.set_cons_succ]
        refine wpList_run rfl (.pointer (some ⟨c, 0, none⟩)) (by simp [go_sem]) ?_
        simp only [Act.put, List.setIfInBounds_toArray, List.set_cons_zero, List.set_cons_succ]
        have hd6 := hI.out.dk.ext hX6
        have E6 := Ext.trans hI.out.ext hX6
        have hFG : ∀ j, F j → ¬ G j := fun j hj e => by have := hI.out.dk.lt j hj; have := hG j e; omega
        have hfw := hI.out.fw
        have kfl := hideit (dflush hd6 (by rw [hpw]; decide) (by omega))
        clear kf hX6
        go_upto_region 10 with (fail)
        refine wp_region_lit ?_
        refine wpList_run rfl (.pointer (some ⟨c, 0, none⟩)) (by simp [go_sem]) ?_
        simp only [Act.put, List.setIfInBounds_toArray, List.set_cons_zero, List.set_cons_succ]
        refine wpList_run rfl (.bool false) (by simp [go_sem]) ?_
        simp only [Act.put, List.setIfInBounds_toArray, List.set_cons_zero, List.set_cons_succ]
        refine wpList_run rfl (.bool false) (by simp [go_sem]) ?_
        simp only [Act.put, List.setIfInBounds_toArray, List.set_cons_zero, List.set_cons_succ]
        refine wpList_runW rfl (.pointer (some ⟨p, 0, none⟩)) (by simp [go_sem]) ?_
        simp only [Act.put, List.setIfInBounds_toArray, List.set_cons_zero, List.set_cons_succ]
        refine wpList_callW rfl (by simp [go_sem]) ((kfl.out).mono ?_)
        rintro e w7 ⟨rfl, M7, hd7, hk7⟩
        refine ⟨_, rfl, ?_⟩
        simp only [Act.put, List.setIfInBounds_toArray, List.set_cons_zero, List.set_cons_succ]
        refine wpList_runW rfl (.bool false) (by simp [go_sem]) ?_
        simp only [Act.put, List.setIfInBounds_toArray, List.set_cons_zero, List.set_cons_succ]
        refine wpList_run rfl (.bool false) (by simp [go_sem]) ?_
        simp only [Act.put, List.setIfInBounds_toArray, List.set_cons_zero, List.set_cons_succ]
        refine wpList_run rfl (.bool false) (by simp [go_sem]) ?_
        simp only [Act.put, List.setIfInBounds_toArray, List.set_cons_zero, List.set_cons_succ]
        refine wpList_runW rfl (.pointer (some ⟨p, 0, none⟩)) (by simp [go_sem]) ?_
        simp only [Act.put, List.setIfInBounds_toArray, List.set_cons_zero, List.set_cons_succ]
        have hc7 := hc6.keep hk7 (fun j hj e => hFG j e hj) hd6.nb
        have E7 : Ext w w7 := Below.trans E6 (hk7.below (Below.size E6) hfw)
        have hGw : ∀ j, G j → w.heap.size ≤ j := fun j hj => Nat.le_trans (Below.size hI.out.ext) (hG j hj)
        have kun := hideit (dunsure_none hd7 fun _ _ => rfl)
        clear kfl hc6 hk7 E6 hd6
        refine wpList_callW rfl (by simp [go_sem]) ((kun.out).mono ?_)
        rintro e w8 ⟨uv, rfl, hX8, uo, ucap, rfl⟩
        refine ⟨_, rfl, ?_⟩
        simp only [Act.put, List.setIfInBounds_toArray, List.set_cons_zero, List.set_cons_succ]
        refine wpList_runW rfl (.int .i64 0) (by simp [go_sem]) ?_
        simp only [Act.put, List.setIfInBounds_toArray, List.set_cons_zero, List.set_cons_succ]
        refine wpList_runW rfl (.bool false) (by simp [go_sem]) ?_
        simp only [Act.put, List.setIfInBounds_toArray, List.set_cons_zero, List.set_cons_succ]
        refine wpList_run rfl (.bool false) (by simp [go_sem]) ?_
        simp only [Act.put, List.setIfInBounds_toArray, List.set_cons_zero, List.set_cons_succ]
        have hd8 := hideit (hd7.ext hX8)
        have hc8 := hideit (hc7.ext hX8)
        have E8 := hideit (Ext.trans E7 hX8)
        replace hFG := hideit hFG
        replace hGw := hideit hGw
        clear kun hX8 hd7 hc7 E7 hG hI hfw
        go_wp2
        go_loopw [9] (fun jv X => ∃ j : Nat, j ≤ 6 ∧ jv = .int .i64 (j : Int) ∧ Ext w8 X) (fun jv _ => 6 - (intOf jv).toNat)
        case atStart => exact ⟨0, by decide, rfl, Ext.refl _⟩
        case round =>
          obtain ⟨j, hj, rfl, hE⟩ := hrel
          by_cases hj6 : j < 6
          · have j0 : (0 : Int) ≤ (j : Int) := by omega
            have j1 : (j : Int) < 6 := by omega
            have kr1 := dread (hd8.out.ext hE) j (by show j < s.N; rw [hn6]; exact hj6) (by show spE s.pw ≠ 0; rw [hpw]; decide) (by omega)
            rw [has_fl] at kr1
            replace kr1 := hideit kr1
            go_upto_region 15 with (fail)
            refine wp_region_lit ?_
            refine wpList_run rfl (.pointer (some ⟨p, 0, none⟩)) (by simp [go_sem]) ?_
            simp only [Act.put, List.setIfInBounds_toArray, List.set_cons_zero, List.set_cons_succ]
            refine wpList_run rfl (.int .i64 (j : Int)) (by simp [go_sem]) ?_
            simp only [Act.put, List.setIfInBounds_toArray, List.set_cons_zero, List.set_cons_succ]
            refine wpList_call rfl (by simp [go_sem]) ((kr1.out).mono ?_)
            rintro e w9 ⟨v9, rfl, hO9, hX9⟩
            refine ⟨_, rfl, ?_⟩
            simp only [Act.put, List.setIfInBounds_toArray, List.set_cons_zero, List.set_cons_succ]
            obtain ⟨o9, c9, rfl⟩ := b512 hO9
            refine wpList_run rfl (.tuple #[.slice o9 512 c9, .int .i64 0]) (by simp [go_sem]) ?_
            simp only [Act.put, List.setIfInBounds_toArray, List.set_cons_zero, List.set_cons_succ]
            refine wpList_run rfl (.slice o9 512 c9) (by simp [go_sem]) ?_
            simp only [Act.put, List.setIfInBounds_toArray, List.set_cons_zero, List.set_cons_succ]
            refine wpList_run rfl (.int .i64 0) (by simp [go_sem]) ?_
            simp only [Act.put, List.setIfInBounds_toArray, List.set_cons_zero, List.set_cons_succ]
            refine wpList_run rfl (.slice o9 512 c9) (by simp [go_sem]) ?_
            simp only [Act.put, List.setIfInBounds_toArray, List.set_cons_zero, List.set_cons_succ]
            refine wpList_run rfl (.int .i64 0) (by simp [go_sem]) ?_
            simp only [Act.put, List.setIfInBounds_toArray, List.set_cons_zero, List.set_cons_succ]
            have hE9 := Ext.trans hE hX9
            have kr2 := hideit (dread (hc8.out.ext hE9) j (by rw [hn6]; exact hj6) (by rw [hpw]; decide) (by omega))
            go_upto_region 16 with (fail)
            refine wp_region_lit ?_
            refine wpList_run rfl (.pointer (some ⟨c, 0, none⟩)) (by simp [go_sem]) ?_
            simp only [Act.put, List.setIfInBounds_toArray, List.set_cons_zero, List.set_cons_succ]
            refine wpList_run rfl (.int .i64 (j : Int)) (by simp [go_sem]) ?_
            simp only [Act.put, List.setIfInBounds_toArray, List.set_cons_zero, List.set_cons_succ]
            refine wpList_call rfl (by simp [go_sem]) ((kr2.out).mono ?_)
            rintro e w10 ⟨v10, rfl, hO10, hX10⟩
            refine ⟨_, rfl, ?_⟩
            simp only [Act.put, List.setIfInBounds_toArray, List.set_cons_zero, List.set_cons_succ]
            obtain ⟨o10, c10, rfl⟩ := b512 hO10
            refine wpList_run rfl (.tuple #[.slice o10 512 c10, .int .i64 0]) (by simp [go_sem]) ?_
            simp only [Act.put, List.setIfInBounds_toArray, List.set_cons_zero, List.set_cons_succ]
            refine wpList_run rfl (.slice o10 512 c10) (by simp [go_sem]) ?_
            simp only [Act.put, List.setIfInBounds_toArray, List.set_cons_zero, List.set_cons_succ]
            refine wpList_run rfl (.int .i64 0) (by simp [go_sem]) ?_
            simp only [Act.put, List.setIfInBounds_toArray, List.set_cons_zero, List.set_cons_succ]
            refine wpList_run rfl (.slice o10 512 c10) (by simp [go_sem]) ?_
            simp only [Act.put, List.setIfInBounds_toArray, List.set_cons_zero, List.set_cons_succ]
            refine wpList_run rfl (.int .i64 0) (by simp [go_sem]) ?_
            simp only [Act.put, List.setIfInBounds_toArray, List.set_cons_zero, List.set_cons_succ]
            obtain ⟨s1, hs1⟩ : ∃ s1, s1 = bstr 512 (fun t => ((hasF s j t).toNat : Int)) := ⟨_, rfl⟩
            have hD : Ext w10 w10.drew := (Ext.refl w10).draw
            have ca : ∀ X, Ext w10.drew X → (convert 31 9 (.slice o9 512 c9)).run Try.prog X = .ok (.string s1) X := fun X hX => by rw [hs1]; exact convV _ _ _ X (((hO9.bv.ext hX10).ext hD).ext hX)
            have cb : ∀ X, Ext w10.drew X → (convert 31 9 (.slice o10 512 c10)).run Try.prog X = .ok (.string s1) X := fun X hX => by rw [hs1]; exact convV _ _ _ X ((hO10.bv.ext hD).ext hX)
            have hE10 := Ext.trans (Ext.trans hE9 hX10) hD
            have ksu := hideit (dsure (hd8.out.ext hE10) j (by show j < s.N; rw [hn6]; exact hj6))
            replace hs1 := hideit hs1
            clear kr1 kr2 hO9 hO10 hX9 hE9 hX10
            go_upto_region 17 with (fail)
            refine wp_region_lad (fun X => Ext w10.drew X) [(false, 0), (false, 1), (false, 2), (false, 3), (false, 4), (false, 5), (false, 6), (false, 7), (false, 8), (false, 9), (false, 10), (false, 11), (false, 12), (false, 13), (false, 14), (false, 15), (false, 16), (false, 17), (true, 18), (false, 19), (false, 20), (false, 21)] (by kernel_rfl) (by kernel_rfl) (by decide +kernel) (by decide +kernel) (by decide +kernel) (by decide +kernel) (Ext.refl _) ?_
            refine wpX_f _ (.int .i64 0) rfl rfl (fun X _ => by simp [go_sem]) ?_
            simp only [List.getElem_toArray, List.getElem_cons_zero, Act.put, List.setIfInBounds_toArray, List.set_cons_zero, List.set_cons_succ]
            refine wpX_f _ (.bool false) rfl rfl (fun X _ => by simp [go_sem]) ?_
            simp only [List.getElem_toArray, List.getElem_cons_zero, List.getElem_cons_succ, Act.put, List.setIfInBounds_toArray, List.set_cons_zero, List.set_cons_succ]
            refine wpX_f _ (.bool false) rfl rfl (fun X _ => by simp [go_sem]) ?_
            simp only [List.getElem_toArray, List.getElem_cons_zero, List.getElem_cons_succ, Act.put, List.setIfInBounds_toArray, List.set_cons_zero, List.set_cons_succ]
            refine wpX_f _ (.int .i64 0) rfl rfl (fun X _ => by simp [go_sem]) ?_
            simp only [List.getElem_toArray, List.getElem_cons_zero, List.getElem_cons_succ, Act.put, List.setIfInBounds_toArray, List.set_cons_zero, List.set_cons_succ]
            refine wpX_f _ (.bool false) rfl rfl (fun X _ => by simp [go_sem]) ?_
            simp only [List.getElem_toArray, List.getElem_cons_zero, List.getElem_cons_succ, Act.put, List.setIfInBounds_toArray, List.set_cons_zero, List.set_cons_succ]
            refine wpX_f _ (.bool false) rfl rfl (fun X _ => by simp [go_sem]) ?_
            simp only [List.getElem_toArray, List.getElem_cons_zero, List.getElem_cons_succ, Act.put, List.setIfInBounds_toArray, List.set_cons_zero, List.set_cons_succ]
            refine wpX_f _ (.bool false) rfl rfl (fun X _ => by simp [go_sem]) ?_
            simp only [List.getElem_toArray, List.getElem_cons_zero, List.getElem_cons_succ, Act.put, List.setIfInBounds_toArray, List.set_cons_zero, List.set_cons_succ]
            refine wpX_f _ (.slice o9 512 c9) rfl rfl (fun X _ => by simp [go_sem]) ?_
            simp only [List.getElem_toArray, List.getElem_cons_zero, List.getElem_cons_succ, Act.put, List.setIfInBounds_toArray, List.set_cons_zero, List.set_cons_succ]
            refine wpX_f _ (.string s1) rfl rfl (fun X hX => by have e := ca X hX; simp [go_sem, e]) ?_
            simp only [List.getElem_toArray, List.getElem_cons_zero, List.getElem_cons_succ, Act.put, List.setIfInBounds_toArray, List.set_cons_zero, List.set_cons_succ]
            refine wpX_f _ (.slice o10 512 c10) rfl rfl (fun X _ => by simp [go_sem]) ?_
            simp only [List.getElem_toArray, List.getElem_cons_zero, List.getElem_cons_succ, Act.put, List.setIfInBounds_toArray, List.set_cons_zero, List.set_cons_succ]
            refine wpX_f _ (.string s1) rfl rfl (fun X hX => by have e := cb X hX; simp [go_sem, e]) ?_
            simp only [List.getElem_toArray, List.getElem_cons_zero, List.getElem_cons_succ, Act.put, List.setIfInBounds_toArray, List.set_cons_zero, List.set_cons_succ]
            refine wpX_f _ (.bool false) rfl rfl (fun X _ => by simp [go_sem]) ?_
            simp only [List.getElem_toArray, List.getElem_cons_zero, List.getElem_cons_succ, Act.put, List.setIfInBounds_toArray, List.set_cons_zero, List.set_cons_succ]
            refine wpX_f _ (.bool false) rfl rfl (fun X _ => by simp [go_sem]) ?_
            simp only [List.getElem_toArray, List.getElem_cons_zero, List.getElem_cons_succ, Act.put, List.setIfInBounds_toArray, List.set_cons_zero, List.set_cons_succ]
            refine wpX_f _ (.bool false) rfl rfl (fun X _ => by simp [go_sem]) ?_
            simp only [List.getElem_toArray, List.getElem_cons_zero, List.getElem_cons_succ, Act.put, List.setIfInBounds_toArray, List.set_cons_zero, List.set_cons_succ]
            refine wpX_f _ (.slice o9 512 c9) rfl rfl (fun X _ => by simp [go_sem]) ?_
            simp only [List.getElem_toArray, List.getElem_cons_zero, List.getElem_cons_succ, Act.put, List.setIfInBounds_toArray, List.set_cons_zero, List.set_cons_succ]
            refine wpX_f _ (.string s1) rfl rfl (fun X hX => by have e := ca X hX; simp [go_sem, e]) ?_
            simp only [List.getElem_toArray, List.getElem_cons_zero, List.getElem_cons_succ, Act.put, List.setIfInBounds_toArray, List.set_cons_zero, List.set_cons_succ]
            refine wpX_f _ (.pointer (some ⟨p, 0, none⟩)) rfl rfl (fun X _ => by simp [go_sem]) ?_
            simp only [List.getElem_toArray, List.getElem_cons_zero, List.getElem_cons_succ, Act.put, List.setIfInBounds_toArray, List.set_cons_zero, List.set_cons_succ]
            refine wpX_f _ (.int .i64 (j : Int)) rfl rfl (fun X _ => by simp [go_sem]) ?_
            simp only [List.getElem_toArray, List.getElem_cons_zero, List.getElem_cons_succ, Act.put, List.setIfInBounds_toArray, List.set_cons_zero, List.set_cons_succ]
            refine wpX_call _ rfl rfl (by simp [go_sem]) ((ksu.out).mono ?_)
            rintro e w11 ⟨v11, rfl, hO11, hX11⟩
            obtain ⟨o11, c11, rfl⟩ := b512 hO11
            have cd : ∀ X, Ext w11 X → (convert 31 9 (.slice o11 512 c11)).run Try.prog X = .ok (.string s1) X := fun X hX => by rw [hs1.out]; exact convV _ _ _ X (hO11.bv.ext hX)
            refine ⟨_, rfl, fun X => Ext w11 X, fun X hX => Ext.trans hX11 hX, Ext.refl _, ?_⟩
            simp only [List.getElem_toArray, List.getElem_cons_zero, List.getElem_cons_succ, Act.put, List.setIfInBounds_toArray, List.set_cons_zero, List.set_cons_succ]
            refine wpX_f _ (.string s1) rfl rfl (fun X hX => by have e := cd X hX; simp [go_sem, e]) ?_
            simp only [List.getElem_toArray, List.getElem_cons_zero, List.getElem_cons_succ, Act.put, List.setIfInBounds_toArray, List.set_cons_zero, List.set_cons_succ]
            refine wpX_f _ (.bool false) rfl rfl (fun X _ => by simp [go_sem]) ?_
            simp only [List.getElem_toArray, List.getElem_cons_zero, List.getElem_cons_succ, Act.put, List.setIfInBounds_toArray, List.set_cons_zero, List.set_cons_succ]
            refine wpX_f _ (.bool false) rfl rfl (fun X _ => by simp [go_sem]) ?_
            simp only [List.getElem_toArray, List.getElem_cons_zero, List.getElem_cons_succ, Act.put, List.setIfInBounds_toArray, List.set_cons_zero, List.set_cons_succ]
            refine wpX_nil ?_
            have E11 := hideit (Ext.trans hE10 hX11)
            clear ca cb cd ksu hO11 hX11 hE10 hD hE
            go_wp2
            exact ⟨⟨j + 1, by omega, by go_num, E11.out⟩, by simp [intOf]; omega⟩
          · obtain rfl : j = 6 := by omega
            have hd9 := hd8.out.ext hE
            have hc9 := hc8.out.ext hE
            have E9 := Ext.trans E8.out hE
            have kcr := hideit (dcrash (kb := fun _ => 0) (kw := fun _ => 0) hc9 (.slice none 0 0) 0 (.inl ⟨rfl, rfl⟩) (fun i hi => by omega) (by decide) (fun i hi => by omega) (by omega))
            go_upto_region 19 with (fail)
            refine wp_region_lit ?_
            refine wpList_run rfl (.pointer (some ⟨c, 0, none⟩)) (by simp [go_sem]) ?_
            simp only [Act.put, List.setIfInBounds_toArray, List.set_cons_zero, List.set_cons_succ]
            refine wpList_call rfl (by simp [go_sem]) ((kcr.out).mono ?_)
            rintro e w12 ⟨rfl, M12, hc12, hk12⟩
            refine ⟨_, rfl, ?_⟩
            simp only [Act.put, List.setIfInBounds_toArray, List.set_cons_zero, List.set_cons_succ]
            refine wpList_run rfl (.bool false) (by simp [go_sem]) ?_
            simp only [Act.put, List.setIfInBounds_toArray, List.set_cons_zero, List.set_cons_succ]
            have hd12 := hd9.keep hk12 hFG.out hc9.nb
            have E12 : Ext w w12 := Below.trans E9 (hk12.below (Below.size E9) hGw.out)
            clear kcr hk12 hd9 hc9 E9 hE
            have kr := dread hc12 0 (by show 0 < s.N; rw [hn6]; decide) (by show (-1 : Int) ≠ 0; decide) (by omega)
            rw [show hasF (crS s (fun _ => 0) (fun _ => 0) 0) 0 = fun _ => 0#8 by show s.S 0 = _; rw [hs0]] at kr
            replace kr := hideit kr
            go_upto_region 21 with (fail)
            refine wp_region_lit ?_
            refine wpList_run rfl (.pointer (some ⟨c, 0, none⟩)) (by simp [go_sem]) ?_
            simp only [Act.put, List.setIfInBounds_toArray, List.set_cons_zero, List.set_cons_succ]
            refine wpList_call rfl (by simp [go_sem]) ((kr.out).mono ?_)
            rintro e w13 ⟨v13, rfl, hO13, hX13⟩
            refine ⟨_, rfl, ?_⟩
            simp only [Act.put, List.setIfInBounds_toArray, List.set_cons_zero, List.set_cons_succ]
            obtain ⟨o13, c13, rfl⟩ := b512 hO13
            refine wpList_run rfl (.tuple #[.slice o13 512 c13, .int .i64 0]) (by simp [go_sem]) ?_
            simp only [Act.put, List.setIfInBounds_toArray, List.set_cons_zero, List.set_cons_succ]
            refine wpList_run rfl (.slice o13 512 c13) (by simp [go_sem]) ?_
            simp only [Act.put, List.setIfInBounds_toArray, List.set_cons_zero, List.set_cons_succ]
            refine wpList_run rfl (.int .i64 0) (by simp [go_sem]) ?_
            simp only [Act.put, List.setIfInBounds_toArray, List.set_cons_zero, List.set_cons_succ]
            refine wpList_run rfl (.slice o13 512 c13) (by simp [go_sem]) ?_
            simp only [Act.put, List.setIfInBounds_toArray, List.set_cons_zero, List.set_cons_succ]
            refine wpList_run rfl (.int .i64 0) (by simp [go_sem]) ?_
            simp only [Act.put, List.setIfInBounds_toArray, List.set_cons_zero, List.set_cons_succ]
            obtain ⟨s1, hs1⟩ : ∃ s1, s1 = bstr 512 (fun t => (((fun _ => 0#8 : Nat → BitVec 8) t).toNat : Int)) := ⟨_, rfl⟩
            have hD : Ext w13 w13.drew := (Ext.refl w13).draw
            have ca : ∀ X, Ext w13.drew X → (convert 31 9 (.slice o13 512 c13)).run Try.prog X = .ok (.string s1) X := fun X hX => by rw [hs1]; exact convV _ _ _ X ((hO13.bv.ext hD).ext hX)
            have hd14 := hd12.ext (Ext.trans hX13 hD)
            have E14 := Ext.trans (Ext.trans E12 hX13) hD
            have hmk : (w13.drew.alloc (.cells (madeCells (Value.int .u8 0).cells (512 * 1)) 5)).heap.size = w13.drew.heap.size + 1 := by simp
            have hXm : Ext w13.drew (w13.drew.alloc (.cells (madeCells (Value.int .u8 0).cells (512 * 1)) 5)) := (Below.refl _ _).alloc (Nat.le_refl _) _
            have hRm := RowAt.newOf w13.drew 512 (yv fun _ => 0#8) 5 (madeCells (Value.int .u8 0).cells (512 * 1)) fun j hj => made_at (Value.int .u8 0).cells (512 * 1) (.int .u8 0) (fun k hk => by
              have : k = 0 := by simpa [Value.cells] using hk
              subst this
              rfl) (by decide) j (by omega)
            have hBm : BV (.slice (some ⟨w13.drew.heap.size, 0, none⟩) 512 512) 512 (fun _ => 0#8) (w13.drew.alloc (.cells (madeCells (Value.int .u8 0).cells (512 * 1)) 5)) := .inr ⟨_, 512, rfl, Nat.le_refl _, RowAt.lie hRm _ (Nat.le_refl _)⟩
            replace hs1 := hideit hs1
            clear kr hO13 hX13 hd12 hc12 E12 hRm hmk
            go_upto_region 22 with (fail)
            refine wp_region_lad (fun X => Ext w13.drew X) [(false, 0), (false, 1), (true, 2), (false, 3), (false, 4), (false, 5), (false, 6), (true, 7), (false, 8), (false, 9), (false, 10), (false, 11), (false, 12), (true, 13), (false, 14), (false, 15), (false, 16), (false, 17)] (by kernel_rfl) (by kernel_rfl) (by decide +kernel) (by decide +kernel) (by decide +kernel) (by decide +kernel) (Ext.refl _) ?_
            generalize w13.drew = wd at *
            refine wpX_f _ (.slice o13 512 c13) rfl rfl (fun X _ => by simp [go_sem]) ?_
            simp only [List.getElem_toArray, List.getElem_cons_zero, Act.put, List.setIfInBounds_toArray, List.set_cons_zero, List.set_cons_succ]
            refine wpX_f _ (.string s1) rfl rfl (fun X hX => by have e := ca X hX; simp [go_sem, e]) ?_
            simp only [List.getElem_toArray, List.getElem_cons_zero, List.getElem_cons_succ, Act.put, List.setIfInBounds_toArray, List.set_cons_zero, List.set_cons_succ]
            refine wpX_to _ (.slice (some ⟨wd.heap.size, 0, none⟩) 512 512) (wd.alloc (.cells (madeCells (Value.int .u8 0).cells (512 * 1)) 5)) rfl rfl (exec_made 31 5 (.const (.int .i64 512)) (.const (.int .i64 512)) rfl _ 1 1 512 Try.underlying31 info5 rfl rfl (by decide) (by decide)) (fun X => Ext (wd.alloc (.cells (madeCells (Value.int .u8 0).cells (512 * 1)) 5)) X) (fun X hX => Ext.trans hXm hX) (Ext.refl _) ?_
            simp only [List.getElem_toArray, List.getElem_cons_zero, List.getElem_cons_succ, Act.put, List.setIfInBounds_toArray, List.set_cons_zero, List.set_cons_succ]
            have hd15 := hd14.ext hXm
            have E15 := Ext.trans E14 hXm
            generalize wd.alloc (.cells (madeCells (Value.int .u8 0).cells (512 * 1)) 5) = we at *
            have cb : ∀ X, Ext we X → (convert 31 9 (.slice (some ⟨wd.heap.size, 0, none⟩) 512 512)).run Try.prog X = .ok (.string s1) X := fun X hX => by rw [hs1.out]; exact convV _ _ _ X (hBm.ext hX)
            have ks6 := hideit (dsure_bad hd15 6 (by show inN s.N 6 = false; rw [hn6]; decide))
            have ksm := hideit (dsure_bad hd15 (-1) (by show inN s.N (-1) = false; rw [hn6]; decide))
            replace E15 := hideit E15
            refine wpX_f _ (.string s1) rfl rfl (fun X hX => by have e := cb X hX; simp [go_sem, e]) ?_
            simp only [List.getElem_toArray, List.getElem_cons_zero, List.getElem_cons_succ, Act.put, List.setIfInBounds_toArray, List.set_cons_zero, List.set_cons_succ]
            refine wpX_f _ (.bool true) rfl rfl (fun X _ => by simp [go_sem]) ?_
            simp only [List.getElem_toArray, List.getElem_cons_zero, List.getElem_cons_succ, Act.put, List.setIfInBounds_toArray, List.set_cons_zero, List.set_cons_succ]
            refine wpX_f _ (.bool true) rfl rfl (fun X _ => by simp [go_sem]) ?_
            simp only [List.getElem_toArray, List.getElem_cons_zero, List.getElem_cons_succ, Act.put, List.setIfInBounds_toArray, List.set_cons_zero, List.set_cons_succ]
            refine wpX_f _ (.pointer (some ⟨p, 0, none⟩)) rfl rfl (fun X _ => by simp [go_sem]) ?_
            simp only [List.getElem_toArray, List.getElem_cons_zero, List.getElem_cons_succ, Act.put, List.setIfInBounds_toArray, List.set_cons_zero, List.set_cons_succ]
            refine wpX_call _ rfl rfl (by simp [go_sem]) ((ks6.out).mono ?_)
            rintro e w16 ⟨rfl, hw16⟩
            rw [hw16]
            refine ⟨_, rfl, fun X => Ext we X, fun X hX => hX, Ext.refl _, ?_⟩
            simp only [List.getElem_toArray, List.getElem_cons_zero, List.getElem_cons_succ, Act.put, List.setIfInBounds_toArray, List.set_cons_zero, List.set_cons_succ]
            refine wpX_f _ (.int .i64 0) rfl rfl (fun X _ => by simp [go_sem]) ?_
            simp only [List.getElem_toArray, List.getElem_cons_zero, List.getElem_cons_succ, Act.put, List.setIfInBounds_toArray, List.set_cons_zero, List.set_cons_succ]
            refine wpX_f _ (.bool true) rfl rfl (fun X _ => by simp [go_sem]) ?_
            simp only [List.getElem_toArray, List.getElem_cons_zero, List.getElem_cons_succ, Act.put, List.setIfInBounds_toArray, List.set_cons_zero, List.set_cons_succ]
            refine wpX_f _ (.bool true) rfl rfl (fun X _ => by simp [go_sem]) ?_
            simp only [List.getElem_toArray, List.getElem_cons_zero, List.getElem_cons_succ, Act.put, List.setIfInBounds_toArray, List.set_cons_zero, List.set_cons_succ]
            refine wpX_f _ (.bool true) rfl rfl (fun X _ => by simp [go_sem]) ?_
            simp only [List.getElem_toArray, List.getElem_cons_zero, List.getElem_cons_succ, Act.put, List.setIfInBounds_toArray, List.set_cons_zero, List.set_cons_succ]
            refine wpX_f _ (.pointer (some ⟨p, 0, none⟩)) rfl rfl (fun X _ => by simp [go_sem]) ?_
            simp only [List.getElem_toArray, List.getElem_cons_zero, List.getElem_cons_succ, Act.put, List.setIfInBounds_toArray, List.set_cons_zero, List.set_cons_succ]
            refine wpX_call _ rfl rfl (by simp [go_sem]) ((ksm.out).mono ?_)
            rintro e w17 ⟨rfl, hw17⟩
            rw [hw17]
            refine ⟨_, rfl, fun X => Ext we X, fun X hX => hX, Ext.refl _, ?_⟩
            simp only [List.getElem_toArray, List.getElem_cons_zero, List.getElem_cons_succ, Act.put, List.setIfInBounds_toArray, List.set_cons_zero, List.set_cons_succ]
            refine wpX_f _ (.int .i64 0) rfl rfl (fun X _ => by simp [go_sem]) ?_
            simp only [List.getElem_toArray, List.getElem_cons_zero, List.getElem_cons_succ, Act.put, List.setIfInBounds_toArray, List.set_cons_zero, List.set_cons_succ]
            refine wpX_f _ (.bool true) rfl rfl (fun X _ => by simp [go_sem]) ?_
            simp only [List.getElem_toArray, List.getElem_cons_zero, List.getElem_cons_succ, Act.put, List.setIfInBounds_toArray, List.set_cons_zero, List.set_cons_succ]
            refine wpX_f _ (.bool true) rfl rfl (fun X _ => by simp [go_sem]) ?_
            simp only [List.getElem_toArray, List.getElem_cons_zero, List.getElem_cons_succ, Act.put, List.setIfInBounds_toArray, List.set_cons_zero, List.set_cons_succ]
            refine wpX_f _ (.bool true) rfl rfl (fun X _ => by simp [go_sem]) ?_
            simp only [List.getElem_toArray, List.getElem_cons_zero, List.getElem_cons_succ, Act.put, List.setIfInBounds_toArray, List.set_cons_zero, List.set_cons_succ]
            refine wpX_nil ?_
            clear ca cb ks6 ksm hw16 hw17 hBm hXm hd14 E14 hd15 hD
            go_wp2
            go_ret
            exact ⟨rfl, E15.out⟩

set_option maxRecDepth 100000 in
theorem lifted (os : Os) (started : os.Started) (H : Type) (enc : TypeId × Value → H) :
    ReturnsInHanded {} Try.checked os 6 .any (Rows.diskSureSpec.pre6 enc Try.prog Try.f6 Rows.diskSureRow.domain false) (Rows.diskSureSpec.post enc Try.prog Try.f6 false true false false) := by
  refine returnsInHanded_of_change_sized (C := Try.checked) own started (by kernel_rfl) Try.func6
    (ChangeSpec.witness6 (enc := enc) (C := Try.checked) false ⟨#[], #[.slice none 0 0, .int .i64 0], []⟩ 8 (by kernel_rfl) (by kernel_rfl) (by kernel_rfl) (by kernel_rfl)) ?_
  intro W base args ds gs before hval0 hW hcnd hsz0 _
  have hsz := hsz0
  have hval : ∀ (j : Nat) t v, Try.f6.params[j]? = some t → args[j]? = some v → Value.okWide Try.prog W .any base t v := hval0
  have hW' := hW
  obtain ⟨p, q, hA0, hV, rfl, hfz, hnd⟩ := hW
  have hA : DataW.TrodAll enc Try.prog W 0 (fun _ => true) true Try.f6.params.toList args.toList ds p := hA0
  rw [Try.params6] at hA hval hsz
  obtain ⟨v0, vs0, d0, ds0, p0, q0, hargs, rfl, rfl, h0, r0⟩ := trodAll_cons hA
  obtain ⟨v1, vs1, d1, ds1, p1, q1, rfl, rfl, rfl, h1, r1⟩ := trodAll_cons r0
  obtain ⟨rfl, rfl, rfl⟩ := trodAll_nil r1
  obtain rfl : args = #[v0, v1] := by cases args; simp_all
  obtain ⟨rfl, rfl⟩ := trodVars_none hV
  have k0 := h0
  have lt0 : ∀ x ∈ p0, x.block < W.heap.size := by obtain ⟨m, hm⟩ := k0; exact DataW.trod_lt m _ _ _ hm
  have k1 := h1
  have lt1 : ∀ x ∈ p1, x.block < W.heap.size := by obtain ⟨m, hm⟩ := k1; exact DataW.trod_lt m _ _ _ hm
  have B0 := opsarg (hval 0 22 v0 rfl rfl) h0
  obtain ⟨a1, rfl, rfl, rfl, w1⟩ := open_int Try.underlying3 (hval 1 3 v1 rfl rfl) h1
  clear hA0 hval0
  refine (walk v0 a1 w1 W  B0).mono fun e W' ⟨he, bel⟩ => ?_
  subst he
  exact ⟨_, rfl, _, _, _, [], _, [], hW', trodAll_mk1 (shut_bool Try.underlying4 _), (trodAll_cons_mk (Below.trod laidOut (by kernel_rfl) (of_decide_eq_true (by kernel_rfl)) k0 bel lt0) (trodAll_cons_mk (Below.trod laidOut (by kernel_rfl) (of_decide_eq_true (by kernel_rfl)) k1 bel lt1) trodAll_mk0)), rfl, bel.frame _, fun h => by cases h⟩

theorem over : Rows.diskSureRow.holds Try.pinned (OpenSpec.ofChange Rows.diskSureSpec) :=
  OpenClaim.holds_of_wide 6 Try.f6 rfl rfl rfl rfl rfl rfl rfl ⟨rfl, rfl, rfl, rfl, rfl⟩ rfl rfl rfl rfl rfl (by kernel_rfl) Try.func6 (by kernel_rfl)
    (of_decide_eq_true (by kernel_rfl)) (by unfold Func.isWrapper; first | (rw [if_pos (by decide +kernel)]; kernel_rfl) | (rw [if_neg (by decide +kernel)]; exact ⟨rfl, rfl⟩))
    (fun os started H enc _ => lifted os started H enc)
end Go.Proofs.Ytfaeieaelfjlpaa.diskSure
namespace Go.Proofs.Ytfaeieaelfjlpaa
theorem diskSure_holds : Rows.DiskSureSaid := diskSure.over
end Go.Proofs.Ytfaeieaelfjlpaa
