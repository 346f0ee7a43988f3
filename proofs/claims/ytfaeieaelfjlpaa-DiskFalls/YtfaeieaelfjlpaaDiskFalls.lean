/-
  Behind a crash each block has what was sure, or one of its unsure writes; behind a flush a crash changes nothing: whatever was written, and whatever is kept.
-/
import Derived.Test.YtfaeieaelfjlpaaRows
import Derived.ProofKit
import Derived.OpenShut
import Derived.ShutString
import Derived.ChangeOld
import Derived.Below
import Derived.SizedLaws
import Derived.Test.YtfaeieaelfjlpaaDk24
import Derived.Deep.DeepCutAuto
import Derived.Deep.CutRange
namespace Go.Proofs.Ytfaeieaelfjlpaa.diskFalls
open Go.ChangeShapes Go.WideShapes Go.ChangeAt Go.RowKit
set_option linter.unusedVariables false

theorem own : ownKnob Try.prog.godebug = none := by kernel_rfl
theorem laidOut : laidOutB Try.prog = true := by kernel_rfl

open Go.BigFrame Go.Maps
set_option maxRecDepth 20000 in
set_option maxHeartbeats 64000000 in
theorem walk (v0 v1 : Value) (fl : Bool) (w : World) (B0 : OpsA v0 w) (B1 : ∃ k kb kw, KL v1 k kb kw w ∧ k ≤ 140737488355328 ∧ ∀ i, i < k → okI (kb i)) : Calls Try.prog 4 #[v0, v1, .bool fl] w fun e w' => e = .returned (.bool true) ∧ Below w.heap.size w w' := by
  obtain ⟨o, n, cap, ks, ms, rfl, hn9, hops⟩ := B0
  obtain ⟨kk, kb, kw, hKL, hkk, hkb⟩ := B1
  obtain ⟨ko, kcap, rfl⟩ := hKL.form
  have hn8 : n ≤ 9223372036854775807 := by unfold maxLen at hn9; exact hn9
  have kn := hideit (dnew 8 (by decide) (by decide) w)
  replace hops := hideit hops
  replace hKL := hideit hKL
  replace hkb := hideit hkb
  clear hn9
  go_enter Try.func4, Try.ntmps4
  go_upto_region 1 with (fail)
  refine wp_region_lit ?_
  refine wpList_call rfl (by simp [go_sem]) ((kn.out).mono ?_)
  rintro e w1 ⟨p, F0, M0, rfl, hd1, hX1, hF0⟩
  refine ⟨_, rfl, ?_⟩
  simp only [Act.put, List.setIfInBounds_toArray, List.set_cons_zero, List.set_cons_succ]
  refine wpList_run rfl (.tuple #[.pointer (some ⟨p, 0, none⟩), .int .i64 0]) (by simp [go_sem]) ?_
  simp only [Act.put, List.setIfInBounds_toArray, List.set_cons_zero, List.set_cons_succ]
  refine wpList_run rfl (.pointer (some ⟨p, 0, none⟩)) (by simp [go_sem]) ?_
  simp only [Act.put, List.setIfInBounds_toArray, List.set_cons_zero, List.set_cons_succ]
  refine wpList_run rfl (.int .i64 0) (by simp [go_sem]) ?_
  simp only [Act.put, List.setIfInBounds_toArray, List.set_cons_zero, List.set_cons_succ]
  refine wpList_run rfl (.pointer (some ⟨p, 0, none⟩)) (by simp [go_sem]) ?_
  simp only [Act.put, List.setIfInBounds_toArray, List.set_cons_zero, List.set_cons_succ]
  refine wpList_run rfl (.int .i64 0) (by simp [go_sem]) ?_
  simp only [Act.put, List.setIfInBounds_toArray, List.set_cons_zero, List.set_cons_succ]
  clear kn
  have klv := hideit (lives_any w1)
  go_upto_region 2 with (fail)
  refine wp_region_lit ?_
  refine wpList_call rfl (by simp [go_sem]) ((klv.out).mono ?_)
  rintro e w2 ⟨rfl, hX2⟩
  refine ⟨_, rfl, ?_⟩
  simp only [Act.put, List.setIfInBounds_toArray, List.set_cons_zero, List.set_cons_succ]
  refine wpList_run rfl (.bool false) (by simp [go_sem]) ?_
  simp only [Act.put, List.setIfInBounds_toArray, List.set_cons_zero, List.set_cons_succ]
  refine wpList_run rfl (.bool false) (by simp [go_sem]) ?_
  simp only [Act.put, List.setIfInBounds_toArray, List.set_cons_zero, List.set_cons_succ]
  refine wpList_runW rfl (.int .i64 0) (by simp [go_sem]) ?_
  simp only [Act.put, List.setIfInBounds_toArray, List.set_cons_zero, List.set_cons_succ]
  refine wpList_runW rfl (.bool false) (by simp [go_sem]) ?_
  simp only [Act.put, List.setIfInBounds_toArray, List.set_cons_zero, List.set_cons_succ]
  refine wpList_run rfl (.bool false) (by simp [go_sem]) ?_
  simp only [Act.put, List.setIfInBounds_toArray, List.set_cons_zero, List.set_cons_succ]
  refine wpList_run rfl (.bool false) (by simp [go_sem]) ?_
  simp only [Act.put, List.setIfInBounds_toArray, List.set_cons_zero, List.set_cons_succ]
  refine wpList_runW rfl (.pointer (some ⟨p, 0, none⟩)) (by simp [go_sem]) ?_
  simp only [Act.put, List.setIfInBounds_toArray, List.set_cons_zero, List.set_cons_succ]
  refine wpList_runW rfl (.bool false) (by simp [go_sem]) ?_
  simp only [Act.put, List.setIfInBounds_toArray, List.set_cons_zero, List.set_cons_succ]
  refine wpList_run rfl (.bool false) (by simp [go_sem]) ?_
  simp only [Act.put, List.setIfInBounds_toArray, List.set_cons_zero, List.set_cons_succ]
  obtain ⟨s0, hs0⟩ : ∃ s0, s0 = bstr 512 (fun t => (((fun _ => 0#8 : Nat → BitVec 8) t).toNat : Int)) := ⟨_, rfl⟩
  have hS0 : Fl0 w p w2.heap.size F0 M0 (.string s0) (fun _ => undef) 0 (w2.alloc (.cells (row 8 fun _ => .slice none 0 0).toArray 43)) := Fl0.start (hd1.ext hX2) (Ext.trans hX1 hX2) hF0
  replace hS0 := hideit hS0
  replace hs0 := hideit hs0
  clear klv hX2 hX1 hd1 hF0
  go_upto_region 4 with (fail)
  refine wp_region_lit ?_
  refine wpList_to rfl (.pointer (some ⟨w2.heap.size, 0, none⟩)) (w2.alloc (.cells (row 8 fun _ => .slice none 0 0).toArray 43)) (by simp [go_sem]; rfl) ?_
  simp only [Act.put, List.setIfInBounds_toArray, List.set_cons_zero, List.set_cons_succ]
  generalize w2.alloc (.cells (row 8 fun _ => .slice none 0 0).toArray 43) = w3 at *
  generalize w2.heap.size = tb at *
  go_wp2
  go_loopw [10] (fun iv X => ∃ (i : Nat) (tv : Nat → Value), i ≤ 8 ∧ iv = .int .i64 (i : Int) ∧ Fl0 w p tb F0 M0 (.string s0) tv i X) (fun iv _ => 8 - (intOf iv).toNat)
  case atStart => exact ⟨0, _, by decide, rfl, hS0.out⟩
  case round =>
    obtain ⟨i, tv, hi, rfl, hI⟩ := hrel
    clear hS0
    by_cases hi8 : i < 8
    · have i0 : (0 : Int) ≤ (i : Int) := by omega
      have i1 : (i : Int) < 8 := by omega
      have ksu := hideit (dsure hI.dk i hi8)
      go_upto_region 8 with (fail)
      refine wp_region_lit ?_
      refine wpList_run rfl (.int .i64 (i : Int)) (by simp [go_sem]) ?_
      simp only [Act.put, List.setIfInBounds_toArray, List.set_cons_zero, List.set_cons_succ]
      refine wpList_run rfl (.pointer (some ⟨p, 0, none⟩)) (by simp [go_sem]) ?_
      simp only [Act.put, List.setIfInBounds_toArray, List.set_cons_zero, List.set_cons_succ]
      refine wpList_run rfl (.int .i64 (i : Int)) (by simp [go_sem]) ?_
      simp only [Act.put, List.setIfInBounds_toArray, List.set_cons_zero, List.set_cons_succ]
      refine wpList_call rfl (by simp [go_sem]) ((ksu.out).mono ?_)
      rintro e w4 ⟨v4, rfl, hO4, hX4⟩
      refine ⟨_, rfl, ?_⟩
      simp only [Act.put, List.setIfInBounds_toArray, List.set_cons_zero, List.set_cons_succ]
      obtain ⟨o4, c4, rfl⟩ := b512 hO4
      have ca : (convert 31 9 (.slice o4 512 c4)).run Try.prog w4 = .ok (.string s0) w4 := by rw [hs0.out]; exact convV _ _ _ _ hO4.bv
      have hA4 : Ext w4 (w4.alloc (.cells #[.string s0] 9)) := (Below.refl _ _).alloc (Nat.le_refl _) _
      have hro := (hI.td.row.carry (Ext.trans hX4 hA4))
      have e4 := hro.1 i hi8
      have z4 := hro.2.1 i hi8
      have hP := hideit (hI.put hX4 hi8)
      refine wpList_run rfl (.string s0) (by simp [go_sem, ca]) ?_
      simp only [Act.put, List.setIfInBounds_toArray, List.set_cons_zero, List.set_cons_succ]
      refine wpList_to rfl (.slice (some ⟨w4.heap.size, 0, none⟩) 1 1) (w4.alloc (.cells #[.string s0] 9)) (by simp [go_sem]) ?_
      simp only [Act.put, List.setIfInBounds_toArray, List.set_cons_zero, List.set_cons_succ]
      refine wpList_run rfl (.pointer (some ⟨tb, i, none⟩)) (by simp [go_sem, i0, i1]) ?_
      simp only [Act.put, List.setIfInBounds_toArray, List.set_cons_zero, List.set_cons_succ]
      refine wpList_st9 rfl ((w4.alloc (.cells #[.string s0] 9)).setCell ⟨tb, i, none⟩ (.slice (some ⟨w4.heap.size, 0, none⟩) 1 1)) (by simp [go_sem, e4, z4]) ?_
      simp only [Act.put]
      clear ca hO4 hX4 hA4 hro e4 z4 hI ksu
      go_wp2
      exact ⟨⟨i + 1, _, by omega, by go_num, hP.out⟩, by simp [intOf]; omega⟩
    · obtain rfl : i = 8 := by omega
      rw [show (Value.string s0) = txt (fun _ => 0#8) by rw [hs0.out]; rfl] at hI
      have hS := hideit hI.go
      clear hI
      go_wp2
      go_loopw [11] (fun iv X => ∃ (i : Nat) (F : Nat → Prop) (s : DSt) (M : DM) (tv : Nat → Value), i ≤ 200 ∧ i ≤ n ∧ iv = .int .i64 (i : Int) ∧ FlW w p tb F s i M tv X) (fun iv _ => 200 - (intOf iv).toNat)
      case atStart => exact ⟨0, _, _, _, _, by decide, Nat.zero_le _, rfl, hS.out⟩
      case round =>
        obtain ⟨i, F, s, M, tv, hi, hin, rfl, hI⟩ := hrel
        clear hS
        by_cases hlt : i < n ∧ i < 200
        · obtain ⟨hlt, hl1⟩ := hlt
          have i0 : (0 : Int) ≤ (i : Int) := by omega
          have i1 : (i : Int) < (n : Int) := by omega
          have i2 : (i : Int) < 200 := by omega
          obtain ⟨ab, ao, u, bad, q, rfl, hcell, hokm, ⟨l, bf, hpv, hl9⟩, _⟩ := hops.out i hlt
          have habw : ab < w.heap.size := World.block_lt_of_cell? w _ (hcell 0 (by decide))
          obtain ⟨uo, uc, rfl⟩ := hpv.form
          go_upto_region 12 with (fail)
          have hD : Ext wr wr.drew := (Ext.refl wr).draw
          have fc : ∀ j, j < 5 → wr.drew.cell? ⟨ab, ao + i * 5 + j, none⟩ = some (opc (ks i) (ms i) (.slice uo l uc) bad q j) := fun j hj => cell_ext (Ext.trans hI.ext hD) (hcell j hj)
          by_cases hk1 : ks i = 1
          · have kb := hideit (block_pv _ l bf wr.drew (hpv.ext (Ext.trans hI.ext hD)) hl9)
            by_cases hin : inN s.N (ms i) = true
            · have hz : zX s.N (ms i) = 0 := by unfold zX; rw [hin]; rfl
              obtain ⟨m, hm, hmN⟩ := inN_spec hin
              have hm8 : m < 8 := by rw [← hI.n8]; exact hmN
              have m0 : (0 : Int) ≤ (m : Int) := by omega
              have m1 : (m : Int) < 8 := by omega
              rw [hm] at fc hz hcell
              simp only [hm] at *
              refine wp_region_ladz (fun X => Ext wr.drew X) [19] [(false, 0), (false, 1), (false, 2), (false, 3), (false, 4), (false, 5), (false, 6), (false, 7), (false, 8), (false, 9), (false, 10), (false, 11), (false, 12), (false, 13), (false, 14), (false, 15), (false, 16), (false, 17), (true, 18), (true, 19), (false, 20), (false, 21)] (by kernel_rfl) (by kernel_rfl) (by decide +kernel) (by decide +kernel) (by decide +kernel) (by decide +kernel) (Ext.refl _) ?_
              refine wpZ_f _ (.slice (some ⟨ab, ao, none⟩) n cap) rfl rfl (fun X _ => by simp [go_sem]) ?_
              simp only [List.getElem_toArray, List.getElem_cons_zero, Act.put, List.setIfInBounds_toArray, List.set_cons_zero, List.set_cons_succ]
              refine wpZ_f _ (.int .i64 (i : Int)) rfl rfl (fun X _ => by simp [go_sem]) ?_
              simp only [List.getElem_toArray, List.getElem_cons_zero, List.getElem_cons_succ, Act.put, List.setIfInBounds_toArray, List.set_cons_zero, List.set_cons_succ]
              refine wpZ_f _ (.pointer (some ⟨ab, ao + i * 5, none⟩)) rfl rfl (fun X _ => by simp [go_sem, i1]) ?_
              simp only [List.getElem_toArray, List.getElem_cons_zero, List.getElem_cons_succ, Act.put, List.setIfInBounds_toArray, List.set_cons_zero, List.set_cons_succ]
              refine wpZ_f _ (.pointer (some ⟨ab, ao + i * 5, none⟩)) rfl rfl (fun X _ => by simp [go_sem]) ?_
              simp only [List.getElem_toArray, List.getElem_cons_zero, List.getElem_cons_succ, Act.put, List.setIfInBounds_toArray, List.set_cons_zero, List.set_cons_succ]
              refine wpZ_f _ (.int .i64 (ks i)) rfl rfl (fun X hX => by have e := cell_ext hX (fc 0 (by decide)); rw [show opc (ks i) (m : Int) (.slice uo l uc) bad q 0 = .int .i64 (ks i) from rfl, Nat.add_zero] at e; simp [go_sem, e]) ?_
              simp only [List.getElem_toArray, List.getElem_cons_zero, List.getElem_cons_succ, Act.put, List.setIfInBounds_toArray, List.set_cons_zero, List.set_cons_succ]
              refine wpZ_f _ (.bool true) rfl rfl (fun X _ => by simp [go_sem, hk1]) ?_
              simp only [List.getElem_toArray, List.getElem_cons_zero, List.getElem_cons_succ, Act.put, List.setIfInBounds_toArray, List.set_cons_zero, List.set_cons_succ]
              refine wpZ_f _ (.bool true) rfl rfl (fun X _ => by simp [go_sem]) ?_
              simp only [List.getElem_toArray, List.getElem_cons_zero, List.getElem_cons_succ, Act.put, List.setIfInBounds_toArray, List.set_cons_zero, List.set_cons_succ]
              refine wpZ_f _ (.pointer (some ⟨p, 0, none⟩)) rfl rfl (fun X _ => by simp [go_sem]) ?_
              simp only [List.getElem_toArray, List.getElem_cons_zero, List.getElem_cons_succ, Act.put, List.setIfInBounds_toArray, List.set_cons_zero, List.set_cons_succ]
              refine wpZ_f _ (.slice (some ⟨ab, ao, none⟩) n cap) rfl rfl (fun X _ => by simp [go_sem]) ?_
              simp only [List.getElem_toArray, List.getElem_cons_zero, List.getElem_cons_succ, Act.put, List.setIfInBounds_toArray, List.set_cons_zero, List.set_cons_succ]
              refine wpZ_f _ (.int .i64 (i : Int)) rfl rfl (fun X _ => by simp [go_sem]) ?_
              simp only [List.getElem_toArray, List.getElem_cons_zero, List.getElem_cons_succ, Act.put, List.setIfInBounds_toArray, List.set_cons_zero, List.set_cons_succ]
              refine wpZ_f _ (.pointer (some ⟨ab, ao + i * 5, none⟩)) rfl rfl (fun X _ => by simp [go_sem, i1]) ?_
              simp only [List.getElem_toArray, List.getElem_cons_zero, List.getElem_cons_succ, Act.put, List.setIfInBounds_toArray, List.set_cons_zero, List.set_cons_succ]
              refine wpZ_f _ (.pointer (some ⟨ab, ao + i * 5 + 1, none⟩)) rfl rfl (fun X _ => by simp [go_sem]) ?_
              simp only [List.getElem_toArray, List.getElem_cons_zero, List.getElem_cons_succ, Act.put, List.setIfInBounds_toArray, List.set_cons_zero, List.set_cons_succ]
              refine wpZ_f _ (.int .i64 (m : Int)) rfl rfl (fun X hX => by have e := cell_ext hX (fc 1 (by decide)); rw [show opc (ks i) (m : Int) (.slice uo l uc) bad q 1 = .int .i64 (m : Int) from rfl] at e; simp [go_sem, e]) ?_
              simp only [List.getElem_toArray, List.getElem_cons_zero, List.getElem_cons_succ, Act.put, List.setIfInBounds_toArray, List.set_cons_zero, List.set_cons_succ]
              refine wpZ_f _ (.slice (some ⟨ab, ao, none⟩) n cap) rfl rfl (fun X _ => by simp [go_sem]) ?_
              simp only [List.getElem_toArray, List.getElem_cons_zero, List.getElem_cons_succ, Act.put, List.setIfInBounds_toArray, List.set_cons_zero, List.set_cons_succ]
              refine wpZ_f _ (.int .i64 (i : Int)) rfl rfl (fun X _ => by simp [go_sem]) ?_
              simp only [List.getElem_toArray, List.getElem_cons_zero, List.getElem_cons_succ, Act.put, List.setIfInBounds_toArray, List.set_cons_zero, List.set_cons_succ]
              refine wpZ_f _ (.pointer (some ⟨ab, ao + i * 5, none⟩)) rfl rfl (fun X _ => by simp [go_sem, i1]) ?_
              simp only [List.getElem_toArray, List.getElem_cons_zero, List.getElem_cons_succ, Act.put, List.setIfInBounds_toArray, List.set_cons_zero, List.set_cons_succ]
              refine wpZ_f _ (.pointer (some ⟨ab, ao + i * 5 + 2, none⟩)) rfl rfl (fun X _ => by simp [go_sem]) ?_
              simp only [List.getElem_toArray, List.getElem_cons_zero, List.getElem_cons_succ, Act.put, List.setIfInBounds_toArray, List.set_cons_zero, List.set_cons_succ]
              refine wpZ_f _ (.slice uo l uc) rfl rfl (fun X hX => by have e := cell_ext hX (fc 2 (by decide)); rw [show opc (ks i) (m : Int) (.slice uo l uc) bad q 2 = .slice uo l uc from rfl] at e; simp [go_sem, e]) ?_
              simp only [List.getElem_toArray, List.getElem_cons_zero, List.getElem_cons_succ, Act.put, List.setIfInBounds_toArray, List.set_cons_zero, List.set_cons_succ]
              refine wpZ_call _ rfl rfl (by simp [go_sem]) ((kb.out).mono ?_)
              rintro e w4 ⟨v4, rfl, hO4, hX4⟩
              obtain ⟨o4, c4, rfl⟩ := b512 hO4
              refine ⟨_, rfl, fun X => Ext wr.drew X, .inr fun X hX => hX, hX4, ?_⟩
              simp only [List.getElem_toArray, List.getElem_cons_zero, List.getElem_cons_succ, Act.put, List.setIfInBounds_toArray, List.set_cons_zero, List.set_cons_succ]
              have hE4 := Ext.trans hD hX4
              have kw0 := dwriteX (hI.dk.ext hE4) (by rw [hI.pw]; decide) (m : Int) o4 c4 _ hO4.bv (by omega)
              rw [hz] at kw0
              have kw := hideit kw0
              clear kw0
              refine wpZ_call _ rfl rfl (by simp [go_sem]) ((kw.out).mono ?_)
              rintro e w5 ⟨rfl, F5, M5, hd5, hk5, hF5⟩
              refine ⟨_, rfl, fun _ => True, .inl (by simp), trivial, ?_⟩
              simp only [List.getElem_toArray, List.getElem_cons_zero, List.getElem_cons_succ, Act.put, List.setIfInBounds_toArray, List.set_cons_zero, List.set_cons_succ]
              refine wpZ_f _ (.bool true) rfl rfl (fun X _ => by simp [go_sem]) ?_
              simp only [List.getElem_toArray, List.getElem_cons_zero, List.getElem_cons_succ, Act.put, List.setIfInBounds_toArray, List.set_cons_zero, List.set_cons_succ]
              refine wpZ_f _ (.bool true) rfl rfl (fun X _ => by simp [go_sem]) ?_
              simp only [List.getElem_toArray, List.getElem_cons_zero, List.getElem_cons_succ, Act.put, List.setIfInBounds_toArray, List.set_cons_zero, List.set_cons_succ]
              refine wpZ_nil ?_
              have hT5 := hideit (hI.wrote hE4 hm8 hd5 hk5 hF5)
              clear hd5 hk5 hF5 kw kb hO4 hX4 hE4 hI fc hD
              go_upto_region 13 with (fail)
              have hD5 : Ext w5 w5.drew := (Ext.refl w5).draw
              have hT13 := hT5.out.ext' hD5
              have fc : ∀ j, j < 5 → w5.drew.cell? ⟨ab, ao + i * 5 + j, none⟩ = some (opc (ks i) (m : Int) (.slice uo l uc) bad q j) := fun j hj => cell_ext hT13.ext (hcell j hj)
              have kb2 := hideit (block_pv _ l bf w5.drew (hpv.ext hT13.ext) hl9)
              have hab : ¬ (tv m).ownBlock = some ab := fun e => by have := ((hT13.td.own m hm8).lt _ e).1; omega
              obtain ⟨lb, lc, hlv, _, _, _, _⟩ := (hT13.td.own m hm8).lies (Nat.succ_pos _)
              obtain ⟨lk, hlk⟩ : ∃ lk, lk = s.kc m + 1 := ⟨_, rfl⟩
              have hlv : tv m = .slice (some ⟨lb, 0, none⟩) lk lc := by rw [hlk]; exact hlv
              have ct : ∀ X, Keeps (fun b => (tv m).ownBlock = some b) w5.drew X → X.cell? ⟨tb, m, none⟩ = some (.slice (some ⟨lb, 0, none⟩) lk lc) := fun X hX => by
                have e : X.cell? ⟨tb, m, none⟩ = some (if m < 8 then tv m else .slice none 0 0) := (hT13.td.row.keep hX fun e => (hT13.td.ap m tb hm8 e).1 rfl).1 m hm8
                rw [if_pos hm8, hlv] at e
                exact e
              replace hlv := hideit hlv
              clear hT5
              refine wp_region_ladz (fun X => Keeps (fun b => (tv m).ownBlock = some b) w5.drew X) [22] [(false, 0), (false, 1), (false, 2), (false, 3), (false, 4), (false, 5), (false, 6), (false, 7), (false, 8), (false, 9), (false, 10), (false, 11), (false, 12), (false, 13), (false, 14), (false, 15), (false, 16), (false, 21), (true, 17), (false, 18), (true, 19), (true, 20), (true, 22)] (by kernel_rfl) (by kernel_rfl) (by decide +kernel) (by decide +kernel) (by decide +kernel) (by decide +kernel) (Keeps.refl _ _) ?_
              generalize w5.drew = wd at *
              refine wpZ_f _ (.slice (some ⟨ab, ao, none⟩) n cap) rfl rfl (fun X _ => by simp [go_sem]) ?_
              simp only [List.getElem_toArray, List.getElem_cons_zero, Act.put, List.setIfInBounds_toArray, List.set_cons_zero, List.set_cons_succ]
              refine wpZ_f _ (.int .i64 (i : Int)) rfl rfl (fun X _ => by simp [go_sem]) ?_
              simp only [List.getElem_toArray, List.getElem_cons_zero, List.getElem_cons_succ, Act.put, List.setIfInBounds_toArray, List.set_cons_zero, List.set_cons_succ]
              refine wpZ_f _ (.pointer (some ⟨ab, ao + i * 5, none⟩)) rfl rfl (fun X _ => by simp [go_sem, i1]) ?_
              simp only [List.getElem_toArray, List.getElem_cons_zero, List.getElem_cons_succ, Act.put, List.setIfInBounds_toArray, List.set_cons_zero, List.set_cons_succ]
              refine wpZ_f _ (.pointer (some ⟨ab, ao + i * 5 + 1, none⟩)) rfl rfl (fun X _ => by simp [go_sem]) ?_
              simp only [List.getElem_toArray, List.getElem_cons_zero, List.getElem_cons_succ, Act.put, List.setIfInBounds_toArray, List.set_cons_zero, List.set_cons_succ]
              refine wpZ_f _ (.int .i64 (m : Int)) rfl rfl (fun X hX => by have e := cell_keep hX hab (fc 1 (by decide)); rw [show opc (ks i) (m : Int) (.slice uo l uc) bad q 1 = .int .i64 (m : Int) from rfl] at e; simp [go_sem, e]) ?_
              simp only [List.getElem_toArray, List.getElem_cons_zero, List.getElem_cons_succ, Act.put, List.setIfInBounds_toArray, List.set_cons_zero, List.set_cons_succ]
              refine wpZ_f _ (.slice (some ⟨ab, ao, none⟩) n cap) rfl rfl (fun X _ => by simp [go_sem]) ?_
              simp only [List.getElem_toArray, List.getElem_cons_zero, List.getElem_cons_succ, Act.put, List.setIfInBounds_toArray, List.set_cons_zero, List.set_cons_succ]
              refine wpZ_f _ (.int .i64 (i : Int)) rfl rfl (fun X _ => by simp [go_sem]) ?_
              simp only [List.getElem_toArray, List.getElem_cons_zero, List.getElem_cons_succ, Act.put, List.setIfInBounds_toArray, List.set_cons_zero, List.set_cons_succ]
              refine wpZ_f _ (.pointer (some ⟨ab, ao + i * 5, none⟩)) rfl rfl (fun X _ => by simp [go_sem, i1]) ?_
              simp only [List.getElem_toArray, List.getElem_cons_zero, List.getElem_cons_succ, Act.put, List.setIfInBounds_toArray, List.set_cons_zero, List.set_cons_succ]
              refine wpZ_f _ (.pointer (some ⟨ab, ao + i * 5 + 1, none⟩)) rfl rfl (fun X _ => by simp [go_sem]) ?_
              simp only [List.getElem_toArray, List.getElem_cons_zero, List.getElem_cons_succ, Act.put, List.setIfInBounds_toArray, List.set_cons_zero, List.set_cons_succ]
              refine wpZ_f _ (.int .i64 (m : Int)) rfl rfl (fun X hX => by have e := cell_keep hX hab (fc 1 (by decide)); rw [show opc (ks i) (m : Int) (.slice uo l uc) bad q 1 = .int .i64 (m : Int) from rfl] at e; simp [go_sem, e]) ?_
              simp only [List.getElem_toArray, List.getElem_cons_zero, List.getElem_cons_succ, Act.put, List.setIfInBounds_toArray, List.set_cons_zero, List.set_cons_succ]
              refine wpZ_f _ (.pointer (some ⟨tb, m, none⟩)) rfl rfl (fun X _ => by simp [go_sem, m0, m1]) ?_
              simp only [List.getElem_toArray, List.getElem_cons_zero, List.getElem_cons_succ, Act.put, List.setIfInBounds_toArray, List.set_cons_zero, List.set_cons_succ]
              refine wpZ_f _ (.slice (some ⟨lb, 0, none⟩) lk lc) rfl rfl (fun X hX => by have e := ct X hX; simp [go_sem, e]) ?_
              simp only [List.getElem_toArray, List.getElem_cons_zero, List.getElem_cons_succ, Act.put, List.setIfInBounds_toArray, List.set_cons_zero, List.set_cons_succ]
              refine wpZ_f _ (.slice (some ⟨ab, ao, none⟩) n cap) rfl rfl (fun X _ => by simp [go_sem]) ?_
              simp only [List.getElem_toArray, List.getElem_cons_zero, List.getElem_cons_succ, Act.put, List.setIfInBounds_toArray, List.set_cons_zero, List.set_cons_succ]
              refine wpZ_f _ (.int .i64 (i : Int)) rfl rfl (fun X _ => by simp [go_sem]) ?_
              simp only [List.getElem_toArray, List.getElem_cons_zero, List.getElem_cons_succ, Act.put, List.setIfInBounds_toArray, List.set_cons_zero, List.set_cons_succ]
              refine wpZ_f _ (.pointer (some ⟨ab, ao + i * 5, none⟩)) rfl rfl (fun X _ => by simp [go_sem, i1]) ?_
              simp only [List.getElem_toArray, List.getElem_cons_zero, List.getElem_cons_succ, Act.put, List.setIfInBounds_toArray, List.set_cons_zero, List.set_cons_succ]
              refine wpZ_f _ (.pointer (some ⟨ab, ao + i * 5 + 2, none⟩)) rfl rfl (fun X _ => by simp [go_sem]) ?_
              simp only [List.getElem_toArray, List.getElem_cons_zero, List.getElem_cons_succ, Act.put, List.setIfInBounds_toArray, List.set_cons_zero, List.set_cons_succ]
              refine wpZ_f _ (.slice uo l uc) rfl rfl (fun X hX => by have e := cell_keep hX hab (fc 2 (by decide)); rw [show opc (ks i) (m : Int) (.slice uo l uc) bad q 2 = .slice uo l uc from rfl] at e; simp [go_sem, e]) ?_
              simp only [List.getElem_toArray, List.getElem_cons_zero, List.getElem_cons_succ, Act.put, List.setIfInBounds_toArray, List.set_cons_zero, List.set_cons_succ]
              refine wpZ_f _ (.pointer (some ⟨tb, m, none⟩)) rfl rfl (fun X _ => by simp [go_sem, m0, m1]) ?_
              simp only [List.getElem_toArray, List.getElem_cons_zero, List.getElem_cons_succ, Act.put, List.setIfInBounds_toArray, List.set_cons_zero, List.set_cons_succ]
              refine wpZ_call _ rfl rfl (by simp [go_sem]) ((kb2.out).mono ?_)
              rintro e w7 ⟨v7, rfl, hO7, hX7⟩
              obtain ⟨o7, c7, rfl⟩ := b512 hO7
              refine ⟨_, rfl, fun X => Keeps (fun b => (tv m).ownBlock = some b) w7 X, .inr fun X hX => (Keeps.of_ext hX7).trans hX fun i hi => .inl hi, Keeps.refl _ _, ?_⟩
              simp only [List.getElem_toArray, List.getElem_cons_zero, List.getElem_cons_succ, Act.put, List.setIfInBounds_toArray, List.set_cons_zero, List.set_cons_succ]
              obtain ⟨s1, hs1⟩ : ∃ s1, s1 = bstr 512 (fun t => ((blkF l bf t).toNat : Int)) := ⟨_, rfl⟩
              have ca : ∀ X, Keeps (fun b => (tv m).ownBlock = some b) w7 X → (convert 31 9 (.slice o7 512 c7)).run Try.prog X = .ok (.string s1) X := fun X hX => by
                rw [hs1]
                exact convV _ _ _ X ((hO7.keep hX fun b hb e => by
                  have h1 := (hO7.lt b hb).1
                  have h2 := ((hT13.td.own m hm8).lt b e).2
                  omega).bv)
              replace hs1 := hideit hs1
              refine wpZ_f _ (.string s1) rfl rfl (fun X hX => by have e := ca X hX; simp [go_sem, e]) ?_
              simp only [List.getElem_toArray, List.getElem_cons_zero, List.getElem_cons_succ, Act.put, List.setIfInBounds_toArray, List.set_cons_zero, List.set_cons_succ]
              have hA7 : Ext w7 (w7.alloc (.cells #[.string s1] 9)) := (Below.refl _ _).alloc (Nat.le_refl _) _
              have hcl : (w7.alloc (.cells #[.string s1] 9)).cell? ⟨w7.heap.size, 0, none⟩ = some (.string s1) := by rw [World.cell?_alloc_new]; rfl
              have hT8 := hT13.ext' (Ext.trans hX7 hA7)
              refine wpZ_to _ (.slice (some ⟨w7.heap.size, 0, none⟩) 1 1) (w7.alloc (.cells #[.string s1] 9)) rfl rfl (by simp [go_sem]) (fun X => Keeps (fun b => (tv m).ownBlock = some b) (w7.alloc (.cells #[.string s1] 9)) X) (.inr fun X hX => (Keeps.of_ext hA7).trans hX fun i hi => .inl hi) (Keeps.refl _ _) ?_
              simp only [List.getElem_toArray, List.getElem_cons_zero, List.getElem_cons_succ, Act.put, List.setIfInBounds_toArray, List.set_cons_zero, List.set_cons_succ]
              generalize w7.alloc (.cells #[.string s1] 9) = w8 at *
              obtain ⟨v9, w9, hr9, hO9, hg9, hl9⟩ := run_grow42 (hT8.td.own m hm8) w7.heap.size (.string s1) hcl rfl (by have := hT8.dk.kcC m (by show m < s.N; rw [hT8.n8]; exact hm8); have e : (wrS s m (blkF l bf)).kc m = s.kc m + 1 := upN_same _ _ _; omega) (Below.size hT8.ext) 42
              have hk9 : Keeps (fun b => (tv m).ownBlock = some b) w8 w9 := Keeps.of_grown hg9 fun b hb => .inl hb
              have hro9 := hT8.td.row.keep hk9 fun e => (hT8.td.ap m tb hm8 e).1 rfl
              have e9 := hro9.1 m hm8
              have z9 := hro9.2.1 m hm8
              have hW9 : Hid (FlW w p tb F5 (wrS s m (blkF l bf)) (i + 1) M5 (upN tv m v9) (w9.setCell ⟨tb, m, none⟩ v9)) := hT8.told hg9 (hO9.congr fun j hj => by rw [hs1.out]; rfl) hl9
              obtain ⟨b9, c9, rfl, _⟩ := hO9.lies (Nat.succ_pos _)
              rw [hlv.out] at hr9
              refine wpZ_to _ (.slice (some ⟨b9, 0, none⟩) (s.kc m + 1 + 1) c9) w9 rfl rfl (exec_app (.tmp 85) (.tmp 93) rfl rfl rfl hr9) (fun X => Keeps (fun b => (tv m).ownBlock = some b) w9 X) (.inr fun X hX => hk9.trans hX fun i hi => .inl hi) (Keeps.refl _ _) ?_
              simp only [List.getElem_toArray, List.getElem_cons_zero, List.getElem_cons_succ, Act.put, List.setIfInBounds_toArray, List.set_cons_zero, List.set_cons_succ]
              refine wpZ_st _ (w9.setCell ⟨tb, m, none⟩ (.slice (some ⟨b9, 0, none⟩) (s.kc m + 1 + 1) c9)) rfl rfl (by simp [go_sem, e9, z9]) (fun _ => True) (.inl (by simp)) trivial ?_
              simp only [List.getElem_toArray, List.getElem_cons_zero, List.getElem_cons_succ, Act.put]
              refine wpZ_nil ?_
              clear hT13 hT8 hO7 hX7 hA7 hcl hr9 hO9 hg9 hl9 hk9 hro9 e9 z9 ca ct kb2 hab hlv fc
              go_wp2
              exact ⟨⟨i + 1, _, _, _, _, by omega, by omega, by go_num, hW9.out⟩, by simp [intOf]; omega⟩
            · have hz : zX s.N (ms i) = 100 := by unfold zX; rw [if_neg hin]
              have hin' : inN s.N (ms i) = false := by cases h : inN s.N (ms i) with | true => exact absurd h hin | false => rfl
              refine wp_region_ladz (fun X => Ext wr.drew X) [19] [(false, 0), (false, 1), (false, 2), (false, 3), (false, 4), (false, 5), (false, 6), (false, 7), (false, 8), (false, 9), (false, 10), (false, 11), (false, 12), (false, 13), (false, 14), (false, 15), (false, 16), (false, 17), (true, 18), (true, 19), (false, 20), (false, 21)] (by kernel_rfl) (by kernel_rfl) (by decide +kernel) (by decide +kernel) (by decide +kernel) (by decide +kernel) (Ext.refl _) ?_
              refine wpZ_f _ (.slice (some ⟨ab, ao, none⟩) n cap) rfl rfl (fun X _ => by simp [go_sem]) ?_
              simp only [List.getElem_toArray, List.getElem_cons_zero, Act.put, List.setIfInBounds_toArray, List.set_cons_zero, List.set_cons_succ]
              refine wpZ_f _ (.int .i64 (i : Int)) rfl rfl (fun X _ => by simp [go_sem]) ?_
              simp only [List.getElem_toArray, List.getElem_cons_zero, List.getElem_cons_succ, Act.put, List.setIfInBounds_toArray, List.set_cons_zero, List.set_cons_succ]
              refine wpZ_f _ (.pointer (some ⟨ab, ao + i * 5, none⟩)) rfl rfl (fun X _ => by simp [go_sem, i1]) ?_
              simp only [List.getElem_toArray, List.getElem_cons_zero, List.getElem_cons_succ, Act.put, List.setIfInBounds_toArray, List.set_cons_zero, List.set_cons_succ]
              refine wpZ_f _ (.pointer (some ⟨ab, ao + i * 5, none⟩)) rfl rfl (fun X _ => by simp [go_sem]) ?_
              simp only [List.getElem_toArray, List.getElem_cons_zero, List.getElem_cons_succ, Act.put, List.setIfInBounds_toArray, List.set_cons_zero, List.set_cons_succ]
              refine wpZ_f _ (.int .i64 (ks i)) rfl rfl (fun X hX => by have e := cell_ext hX (fc 0 (by decide)); rw [show opc (ks i) (ms i) (.slice uo l uc) bad q 0 = .int .i64 (ks i) from rfl, Nat.add_zero] at e; simp [go_sem, e]) ?_
              simp only [List.getElem_toArray, List.getElem_cons_zero, List.getElem_cons_succ, Act.put, List.setIfInBounds_toArray, List.set_cons_zero, List.set_cons_succ]
              refine wpZ_f _ (.bool true) rfl rfl (fun X _ => by simp [go_sem, hk1]) ?_
              simp only [List.getElem_toArray, List.getElem_cons_zero, List.getElem_cons_succ, Act.put, List.setIfInBounds_toArray, List.set_cons_zero, List.set_cons_succ]
              refine wpZ_f _ (.bool true) rfl rfl (fun X _ => by simp [go_sem]) ?_
              simp only [List.getElem_toArray, List.getElem_cons_zero, List.getElem_cons_succ, Act.put, List.setIfInBounds_toArray, List.set_cons_zero, List.set_cons_succ]
              refine wpZ_f _ (.pointer (some ⟨p, 0, none⟩)) rfl rfl (fun X _ => by simp [go_sem]) ?_
              simp only [List.getElem_toArray, List.getElem_cons_zero, List.getElem_cons_succ, Act.put, List.setIfInBounds_toArray, List.set_cons_zero, List.set_cons_succ]
              refine wpZ_f _ (.slice (some ⟨ab, ao, none⟩) n cap) rfl rfl (fun X _ => by simp [go_sem]) ?_
              simp only [List.getElem_toArray, List.getElem_cons_zero, List.getElem_cons_succ, Act.put, List.setIfInBounds_toArray, List.set_cons_zero, List.set_cons_succ]
              refine wpZ_f _ (.int .i64 (i : Int)) rfl rfl (fun X _ => by simp [go_sem]) ?_
              simp only [List.getElem_toArray, List.getElem_cons_zero, List.getElem_cons_succ, Act.put, List.setIfInBounds_toArray, List.set_cons_zero, List.set_cons_succ]
              refine wpZ_f _ (.pointer (some ⟨ab, ao + i * 5, none⟩)) rfl rfl (fun X _ => by simp [go_sem, i1]) ?_
              simp only [List.getElem_toArray, List.getElem_cons_zero, List.getElem_cons_succ, Act.put, List.setIfInBounds_toArray, List.set_cons_zero, List.set_cons_succ]
              refine wpZ_f _ (.pointer (some ⟨ab, ao + i * 5 + 1, none⟩)) rfl rfl (fun X _ => by simp [go_sem]) ?_
              simp only [List.getElem_toArray, List.getElem_cons_zero, List.getElem_cons_succ, Act.put, List.setIfInBounds_toArray, List.set_cons_zero, List.set_cons_succ]
              refine wpZ_f _ (.int .i64 (ms i)) rfl rfl (fun X hX => by have e := cell_ext hX (fc 1 (by decide)); rw [show opc (ks i) (ms i) (.slice uo l uc) bad q 1 = .int .i64 (ms i) from rfl] at e; simp [go_sem, e]) ?_
              simp only [List.getElem_toArray, List.getElem_cons_zero, List.getElem_cons_succ, Act.put, List.setIfInBounds_toArray, List.set_cons_zero, List.set_cons_succ]
              refine wpZ_f _ (.slice (some ⟨ab, ao, none⟩) n cap) rfl rfl (fun X _ => by simp [go_sem]) ?_
              simp only [List.getElem_toArray, List.getElem_cons_zero, List.getElem_cons_succ, Act.put, List.setIfInBounds_toArray, List.set_cons_zero, List.set_cons_succ]
              refine wpZ_f _ (.int .i64 (i : Int)) rfl rfl (fun X _ => by simp [go_sem]) ?_
              simp only [List.getElem_toArray, List.getElem_cons_zero, List.getElem_cons_succ, Act.put, List.setIfInBounds_toArray, List.set_cons_zero, List.set_cons_succ]
              refine wpZ_f _ (.pointer (some ⟨ab, ao + i * 5, none⟩)) rfl rfl (fun X _ => by simp [go_sem, i1]) ?_
              simp only [List.getElem_toArray, List.getElem_cons_zero, List.getElem_cons_succ, Act.put, List.setIfInBounds_toArray, List.set_cons_zero, List.set_cons_succ]
              refine wpZ_f _ (.pointer (some ⟨ab, ao + i * 5 + 2, none⟩)) rfl rfl (fun X _ => by simp [go_sem]) ?_
              simp only [List.getElem_toArray, List.getElem_cons_zero, List.getElem_cons_succ, Act.put, List.setIfInBounds_toArray, List.set_cons_zero, List.set_cons_succ]
              refine wpZ_f _ (.slice uo l uc) rfl rfl (fun X hX => by have e := cell_ext hX (fc 2 (by decide)); rw [show opc (ks i) (ms i) (.slice uo l uc) bad q 2 = .slice uo l uc from rfl] at e; simp [go_sem, e]) ?_
              simp only [List.getElem_toArray, List.getElem_cons_zero, List.getElem_cons_succ, Act.put, List.setIfInBounds_toArray, List.set_cons_zero, List.set_cons_succ]
              refine wpZ_call _ rfl rfl (by simp [go_sem]) ((kb.out).mono ?_)
              rintro e w4 ⟨v4, rfl, hO4, hX4⟩
              obtain ⟨o4, c4, rfl⟩ := b512 hO4
              refine ⟨_, rfl, fun X => Ext wr.drew X, .inr fun X hX => hX, hX4, ?_⟩
              simp only [List.getElem_toArray, List.getElem_cons_zero, List.getElem_cons_succ, Act.put, List.setIfInBounds_toArray, List.set_cons_zero, List.set_cons_succ]
              have hE4 := Ext.trans hD hX4
              have kw0 := dwriteX (hI.dk.ext hE4) (by rw [hI.pw]; decide) (ms i) o4 c4 _ hO4.bv (by omega)
              rw [hz] at kw0
              have kw := hideit kw0
              clear kw0
              refine wpZ_call _ rfl rfl (by simp [go_sem]) ((kw.out).mono ?_)
              rintro e w5 ⟨rfl, F5, M5, hd5, hk5, hF5⟩
              refine ⟨_, rfl, fun _ => True, .inl (by simp), trivial, ?_⟩
              simp only [List.getElem_toArray, List.getElem_cons_zero, List.getElem_cons_succ, Act.put, List.setIfInBounds_toArray, List.set_cons_zero, List.set_cons_succ]
              refine wpZ_f _ (.bool false) rfl rfl (fun X _ => by simp [go_sem]) ?_
              simp only [List.getElem_toArray, List.getElem_cons_zero, List.getElem_cons_succ, Act.put, List.setIfInBounds_toArray, List.set_cons_zero, List.set_cons_succ]
              refine wpZ_f _ (.bool false) rfl rfl (fun X _ => by simp [go_sem]) ?_
              simp only [List.getElem_toArray, List.getElem_cons_zero, List.getElem_cons_succ, Act.put, List.setIfInBounds_toArray, List.set_cons_zero, List.set_cons_succ]
              refine wpZ_nil ?_
              have hI5 : Hid (FlW w p tb F5 s (i + 1) M5 tv w5) := hI.none hE4 hin' hd5 hk5 hF5
              clear hd5 hk5 hF5 kw kb hO4 hX4 hE4 hI fc hD
              go_wp2
              exact ⟨⟨i + 1, _, _, _, _, by omega, by omega, by go_num, hI5.out⟩, by simp [intOf]; omega⟩
          · have hI5 : Hid (FlW w p tb F s (i + 1) M tv wr.drew) := ⟨(hI.dk.ext hD).mono (by omega), hI.td.ext hD, Ext.trans hI.ext hD, hI.fw, hI.n8, hI.s0, hI.pw⟩
            clear hI
            refine wp_region_ladz (fun X => Ext wr.drew X) [] [(false, 0), (false, 1), (false, 2), (false, 3), (false, 4), (false, 5), (false, 6), (false, 7), (false, 8), (false, 9), (false, 10), (false, 11), (false, 12), (false, 13), (false, 14), (false, 15), (false, 16), (false, 17), (false, 18), (false, 19), (false, 20), (false, 21)] (by kernel_rfl) (by kernel_rfl) (by decide +kernel) (by decide +kernel) (by decide +kernel) (by decide +kernel) (Ext.refl _) ?_
            refine wpZ_f _ (.slice (some ⟨ab, ao, none⟩) n cap) rfl rfl (fun X _ => by simp [go_sem]) ?_
            simp only [List.getElem_toArray, List.getElem_cons_zero, Act.put, List.setIfInBounds_toArray, List.set_cons_zero, List.set_cons_succ]
            refine wpZ_f _ (.int .i64 (i : Int)) rfl rfl (fun X _ => by simp [go_sem]) ?_
            simp only [List.getElem_toArray, List.getElem_cons_zero, List.getElem_cons_succ, Act.put, List.setIfInBounds_toArray, List.set_cons_zero, List.set_cons_succ]
            refine wpZ_f _ (.pointer (some ⟨ab, ao + i * 5, none⟩)) rfl rfl (fun X _ => by simp [go_sem, i1]) ?_
            simp only [List.getElem_toArray, List.getElem_cons_zero, List.getElem_cons_succ, Act.put, List.setIfInBounds_toArray, List.set_cons_zero, List.set_cons_succ]
            refine wpZ_f _ (.pointer (some ⟨ab, ao + i * 5, none⟩)) rfl rfl (fun X _ => by simp [go_sem]) ?_
            simp only [List.getElem_toArray, List.getElem_cons_zero, List.getElem_cons_succ, Act.put, List.setIfInBounds_toArray, List.set_cons_zero, List.set_cons_succ]
            refine wpZ_f _ (.int .i64 (ks i)) rfl rfl (fun X hX => by have e := cell_ext hX (fc 0 (by decide)); rw [show opc (ks i) (ms i) (.slice uo l uc) bad q 0 = .int .i64 (ks i) from rfl, Nat.add_zero] at e; simp [go_sem, e]) ?_
            simp only [List.getElem_toArray, List.getElem_cons_zero, List.getElem_cons_succ, Act.put, List.setIfInBounds_toArray, List.set_cons_zero, List.set_cons_succ]
            refine wpZ_f _ (.bool false) rfl rfl (fun X _ => by simp [go_sem, hk1]) ?_
            simp only [List.getElem_toArray, List.getElem_cons_zero, List.getElem_cons_succ, Act.put, List.setIfInBounds_toArray, List.set_cons_zero, List.set_cons_succ]
            refine wpZ_f _ (.bool false) rfl rfl (fun X _ => by simp [go_sem]) ?_
            simp only [List.getElem_toArray, List.getElem_cons_zero, List.getElem_cons_succ, Act.put, List.setIfInBounds_toArray, List.set_cons_zero, List.set_cons_succ]
            refine wpZ_fskip _ rfl rfl ?_
            simp only [List.getElem_toArray, List.getElem_cons_zero, List.getElem_cons_succ, Act.put, List.setIfInBounds_toArray, List.set_cons_zero, List.set_cons_succ]
            refine wpZ_fskip _ rfl rfl ?_
            simp only [List.getElem_toArray, List.getElem_cons_zero, List.getElem_cons_succ, Act.put, List.setIfInBounds_toArray, List.set_cons_zero, List.set_cons_succ]
            refine wpZ_fskip _ rfl rfl ?_
            simp only [List.getElem_toArray, List.getElem_cons_zero, List.getElem_cons_succ, Act.put, List.setIfInBounds_toArray, List.set_cons_zero, List.set_cons_succ]
            refine wpZ_fskip _ rfl rfl ?_
            simp only [List.getElem_toArray, List.getElem_cons_zero, List.getElem_cons_succ, Act.put, List.setIfInBounds_toArray, List.set_cons_zero, List.set_cons_succ]
            refine wpZ_fskip _ rfl rfl ?_
            simp only [List.getElem_toArray, List.getElem_cons_zero, List.getElem_cons_succ, Act.put, List.setIfInBounds_toArray, List.set_cons_zero, List.set_cons_succ]
            refine wpZ_fskip _ rfl rfl ?_
            simp only [List.getElem_toArray, List.getElem_cons_zero, List.getElem_cons_succ, Act.put, List.setIfInBounds_toArray, List.set_cons_zero, List.set_cons_succ]
            refine wpZ_fskip _ rfl rfl ?_
            simp only [List.getElem_toArray, List.getElem_cons_zero, List.getElem_cons_succ, Act.put, List.setIfInBounds_toArray, List.set_cons_zero, List.set_cons_succ]
            refine wpZ_fskip _ rfl rfl ?_
            simp only [List.getElem_toArray, List.getElem_cons_zero, List.getElem_cons_succ, Act.put, List.setIfInBounds_toArray, List.set_cons_zero, List.set_cons_succ]
            refine wpZ_fskip _ rfl rfl ?_
            simp only [List.getElem_toArray, List.getElem_cons_zero, List.getElem_cons_succ, Act.put, List.setIfInBounds_toArray, List.set_cons_zero, List.set_cons_succ]
            refine wpZ_fskip _ rfl rfl ?_
            simp only [List.getElem_toArray, List.getElem_cons_zero, List.getElem_cons_succ, Act.put, List.setIfInBounds_toArray, List.set_cons_zero, List.set_cons_succ]
            refine wpZ_fskip _ rfl rfl ?_
            simp only [List.getElem_toArray, List.getElem_cons_zero, List.getElem_cons_succ, Act.put, List.setIfInBounds_toArray, List.set_cons_zero, List.set_cons_succ]
            refine wpZ_fskip _ rfl rfl ?_
            simp only [List.getElem_toArray, List.getElem_cons_zero, List.getElem_cons_succ, Act.put, List.setIfInBounds_toArray, List.set_cons_zero, List.set_cons_succ]
            refine wpZ_fskip _ rfl rfl ?_
            simp only [List.getElem_toArray, List.getElem_cons_zero, List.getElem_cons_succ, Act.put, List.setIfInBounds_toArray, List.set_cons_zero, List.set_cons_succ]
            refine wpZ_fskip _ rfl rfl ?_
            simp only [List.getElem_toArray, List.getElem_cons_zero, List.getElem_cons_succ, Act.put, List.setIfInBounds_toArray, List.set_cons_zero, List.set_cons_succ]
            refine wpZ_f _ (.bool false) rfl rfl (fun X _ => by simp [go_sem]) ?_
            simp only [List.getElem_toArray, List.getElem_cons_zero, List.getElem_cons_succ, Act.put, List.setIfInBounds_toArray, List.set_cons_zero, List.set_cons_succ]
            refine wpZ_nil ?_
            clear fc hD
            go_wp2
            exact ⟨⟨i + 1, _, _, _, _, by omega, by omega, by go_num, hI5.out⟩, by simp [intOf]; omega⟩
        · have key : ¬ ((i : Int) < (n : Int) ∧ (i : Int) < 200) := by omega
          go_upto_region 10 with (fail)
          go_cut [49] from 42 to 95 (fun t wc => t = .bool false ∧ wc = wr)
          case first =>
            refine wp_region_lit ?_
            refine wpList_run rfl (.int .i64 (i : Int)) (by simp [go_sem]) ?_
            simp only [Act.put, List.setIfInBounds_toArray, List.set_cons_zero, List.set_cons_succ]
            refine wpList_run rfl (.slice o n cap) (by simp [go_sem]) ?_
            simp only [Act.put, List.setIfInBounds_toArray, List.set_cons_zero, List.set_cons_succ]
            refine wpList_run rfl (.int .i64 (n : Int)) (by simp [go_sem]) ?_
            simp only [Act.put, List.setIfInBounds_toArray, List.set_cons_zero, List.set_cons_succ]
            by_cases hlt2 : (i : Int) < (n : Int)
            · have hlt3 : ¬ (i : Int) < 200 := by omega
              refine wpList_run rfl (.bool true) (by simp [go_sem, hlt2]) ?_
              simp only [Act.put, List.setIfInBounds_toArray, List.set_cons_zero, List.set_cons_succ]
              refine wpList_run rfl (.bool true) (by simp [go_sem]) ?_
              simp only [Act.put, List.setIfInBounds_toArray, List.set_cons_zero, List.set_cons_succ]
              refine wpList_runW rfl (.int .i64 (i : Int)) (by simp [go_sem]) ?_
              simp only [Act.put, List.setIfInBounds_toArray, List.set_cons_zero, List.set_cons_succ]
              refine wpList_runW rfl (.bool false) (by simp [go_sem, hlt3]) ?_
              simp only [Act.put, List.setIfInBounds_toArray, List.set_cons_zero, List.set_cons_succ]
              refine wpList_run rfl (.bool false) (by simp [go_sem]) ?_
              simp only [Act.put, List.setIfInBounds_toArray, List.set_cons_zero, List.set_cons_succ]
              go_wp2_with fail
              go_meet
              exact ⟨rfl, rfl⟩
            · refine wpList_run rfl (.bool false) (by simp [go_sem, hlt2]) ?_
              simp only [Act.put, List.setIfInBounds_toArray, List.set_cons_zero, List.set_cons_succ]
              refine wpList_run rfl (.bool false) (by simp [go_sem]) ?_
              simp only [Act.put, List.setIfInBounds_toArray, List.set_cons_zero, List.set_cons_succ]
              refine wpList_skip rfl ?_
              simp only [Act.put, List.setIfInBounds_toArray, List.set_cons_zero, List.set_cons_succ]
              refine wpList_skip rfl ?_
              simp only [Act.put, List.setIfInBounds_toArray, List.set_cons_zero, List.set_cons_succ]
              refine wpList_run rfl (.bool false) (by simp [go_sem]) ?_
              simp only [Act.put, List.setIfInBounds_toArray, List.set_cons_zero, List.set_cons_succ]
              go_wp2_with fail
              go_meet
              exact ⟨rfl, rfl⟩
          case rest =>
            obtain ⟨rfl, hwc⟩ := hcut
            subst hwc
            clear key hlt
            cases fl with
            | false =>
              have hB := hideit (hI.plain hi)
              clear hI
              obtain ⟨s2, M2, hs2, hM2⟩ : ∃ s2 M2, s2 = s ∧ M2 = M := ⟨_, _, rfl, rfl⟩
              rw [show FlB w p tb F s s false i M tv wc = FlB w p tb F s s2 false i M2 tv wc from by rw [hs2, hM2]] at hB
              clear hs2 hM2
              go_upto_region 17 with (fail)
              go_cut [114] (fun t wc => t = .bool false ∧ ∃ s3 M3, FlE w p tb F s s3 false i M3 tv wc)
              case first =>
                by_cases hok : okK s2 M2 kb kw kk
                · have kcr := hideit (dcrash hB.out.dk _ kk (hKL.out.ext hB.out.ext) hkb.out hkk hok (by omega))
                  refine wp_region_lit ?_
                  refine wpList_run rfl (.pointer (some ⟨p, 0, none⟩)) (by simp [go_sem]) ?_
                  simp only [Act.put, List.setIfInBounds_toArray, List.set_cons_zero, List.set_cons_succ]
                  refine wpList_run rfl (.slice ko kk kcap) (by simp [go_sem]) ?_
                  simp only [Act.put, List.setIfInBounds_toArray, List.set_cons_zero, List.set_cons_succ]
                  refine wpList_call rfl (by simp [go_sem]) ((kcr.out).mono ?_)
                  rintro e w7 ⟨rfl, M3, hd7, hk7⟩
                  refine ⟨_, rfl, ?_⟩
                  simp only [Act.put, List.setIfInBounds_toArray, List.set_cons_zero, List.set_cons_succ]
                  refine wpList_run rfl (.bool false) (by simp [go_sem]) ?_
                  simp only [Act.put, List.setIfInBounds_toArray, List.set_cons_zero, List.set_cons_succ]
                  refine wpList_run rfl (.bool false) (by simp [go_sem]) ?_
                  simp only [Act.put, List.setIfInBounds_toArray, List.set_cons_zero, List.set_cons_succ]
                  refine wpList_skip rfl ?_
                  simp only [Act.put, List.setIfInBounds_toArray, List.set_cons_zero, List.set_cons_succ]
                  refine wpList_skip rfl ?_
                  simp only [Act.put, List.setIfInBounds_toArray, List.set_cons_zero, List.set_cons_succ]
                  refine wpList_skip rfl ?_
                  simp only [Act.put, List.setIfInBounds_toArray, List.set_cons_zero, List.set_cons_succ]
                  refine wpList_run rfl (.bool false) (by simp [go_sem]) ?_
                  simp only [Act.put, List.setIfInBounds_toArray, List.set_cons_zero, List.set_cons_succ]
                  have hFE := hideit (hB.out.crash hd7 hk7 hok)
                  clear kcr hd7 hk7 hok hB
                  go_wp2_with fail
                  go_meet
                  exact ⟨rfl, _, _, hFE.out⟩
                · have kcb := hideit (dcrash_bad hB.out.dk _ kk (hKL.out.ext hB.out.ext) hkb.out hkk hok)
                  refine wp_region_lit ?_
                  refine wpList_run rfl (.pointer (some ⟨p, 0, none⟩)) (by simp [go_sem]) ?_
                  simp only [Act.put, List.setIfInBounds_toArray, List.set_cons_zero, List.set_cons_succ]
                  refine wpList_run rfl (.slice ko kk kcap) (by simp [go_sem]) ?_
                  simp only [Act.put, List.setIfInBounds_toArray, List.set_cons_zero, List.set_cons_succ]
                  refine wpList_call rfl (by simp [go_sem]) ((kcb.out).mono ?_)
                  rintro e w6 ⟨rfl, hX6⟩
                  refine ⟨_, rfl, ?_⟩
                  simp only [Act.put, List.setIfInBounds_toArray, List.set_cons_zero, List.set_cons_succ]
                  refine wpList_run rfl (.bool true) (by simp [go_sem]) ?_
                  simp only [Act.put, List.setIfInBounds_toArray, List.set_cons_zero, List.set_cons_succ]
                  refine wpList_run rfl (.bool true) (by simp [go_sem]) ?_
                  simp only [Act.put, List.setIfInBounds_toArray, List.set_cons_zero, List.set_cons_succ]
                  refine wpList_runW rfl (.pointer (some ⟨p, 0, none⟩)) (by simp [go_sem]) ?_
                  simp only [Act.put, List.setIfInBounds_toArray, List.set_cons_zero, List.set_cons_succ]
                  have hB6 := hideit (hB.out.ext' hX6)
                  have ok0 : okK s2 M2 (fun _ => 0) (fun _ => 0) 0 := fun i hi => by omega
                  have kcr := hideit (dcrash (kb := fun _ => 0) (kw := fun _ => 0) hB6.out.dk (.slice none 0 0) 0 (.inl ⟨rfl, rfl⟩) (fun i hi => by omega) (by decide) ok0 (by omega))
                  clear kcb hX6 hB hok
                  refine wpList_callW rfl (by simp [go_sem]) ((kcr.out).mono ?_)
                  rintro e w7 ⟨rfl, M3, hd7, hk7⟩
                  refine ⟨_, rfl, ?_⟩
                  simp only [Act.put, List.setIfInBounds_toArray, List.set_cons_zero, List.set_cons_succ]
                  refine wpList_runW rfl (.bool false) (by simp [go_sem]) ?_
                  simp only [Act.put, List.setIfInBounds_toArray, List.set_cons_zero, List.set_cons_succ]
                  refine wpList_run rfl (.bool false) (by simp [go_sem]) ?_
                  simp only [Act.put, List.setIfInBounds_toArray, List.set_cons_zero, List.set_cons_succ]
                  have hFE := hideit (hB6.out.crash hd7 hk7 ok0)
                  clear kcr hd7 hk7 ok0 hB6
                  go_wp2_with fail
                  go_meet
                  exact ⟨rfl, _, _, hFE.out⟩
              case rest =>
                obtain ⟨rfl, s3, M3, hFE0⟩ := hcut
                have hFE := hideit hFE0
                clear hFE0 hB
                go_wp2
                go_loopw [12] (fun jv X => ∃ j : Nat, j ≤ 8 ∧ jv = .int .i64 (j : Int) ∧ FlE w p tb F s s3 false i M3 tv X) (fun jv _ => 8 - (intOf jv).toNat)
                case atStart => exact ⟨0, by decide, rfl, hFE.out⟩
                case round =>
                  obtain ⟨j, hj, rfl, hI⟩ := hrel
                  clear hFE
                  by_cases hj8 : j < 8
                  · have j0 : (0 : Int) ≤ (j : Int) := by omega
                    have j1 : (j : Int) < 8 := by omega
                    have kr1 := dread hI.dk j (by rw [hI.n8]; exact hj8) (by rw [hI.pw]; decide) (by omega)
                    rw [hI.has] at kr1
                    replace kr1 := hideit kr1
                    go_upto_region 22 with (fail)
                    refine wp_region_lit ?_
                    refine wpList_run rfl (.pointer (some ⟨p, 0, none⟩)) (by simp [go_sem]) ?_
                    simp only [Act.put, List.setIfInBounds_toArray, List.set_cons_zero, List.set_cons_succ]
                    refine wpList_run rfl (.int .i64 (j : Int)) (by simp [go_sem]) ?_
                    simp only [Act.put, List.setIfInBounds_toArray, List.set_cons_zero, List.set_cons_succ]
                    refine wpList_call rfl (by simp [go_sem]) ((kr1.out).mono ?_)
                    rintro e w9 ⟨v9, rfl, hO9, hX9⟩
                    refine ⟨_, rfl, ?_⟩
                    simp only [Act.put, List.setIfInBounds_toArray, List.set_cons_zero, List.set_cons_succ]
                    obtain ⟨o9, c9, rfl⟩ := b512 hO9
                    refine wpList_run rfl (.tuple #[.slice o9 512 c9, .int .i64 0]) (by simp [go_sem]) ?_
                    simp only [Act.put, List.setIfInBounds_toArray, List.set_cons_zero, List.set_cons_succ]
                    refine wpList_run rfl (.slice o9 512 c9) (by simp [go_sem]) ?_
                    simp only [Act.put, List.setIfInBounds_toArray, List.set_cons_zero, List.set_cons_succ]
                    refine wpList_run rfl (.int .i64 0) (by simp [go_sem]) ?_
                    simp only [Act.put, List.setIfInBounds_toArray, List.set_cons_zero, List.set_cons_succ]
                    refine wpList_run rfl (.slice o9 512 c9) (by simp [go_sem]) ?_
                    simp only [Act.put, List.setIfInBounds_toArray, List.set_cons_zero, List.set_cons_succ]
                    refine wpList_run rfl (.int .i64 0) (by simp [go_sem]) ?_
                    simp only [Act.put, List.setIfInBounds_toArray, List.set_cons_zero, List.set_cons_succ]
                    obtain ⟨s1, hs1⟩ : ∃ s1, s1 = bstr 512 (fun t => ((s3.S j t).toNat : Int)) := ⟨_, rfl⟩
                    have hD : Ext w9 w9.drew := (Ext.refl w9).draw
                    have hX9d := Ext.trans hX9 hD
                    have ca : ∀ X, Ext w9.drew X → (convert 31 9 (.slice o9 512 c9)).run Try.prog X = .ok (.string s1) X := fun X hX => by rw [hs1]; exact convV _ _ _ X ((hO9.bv.ext hD).ext hX)
                    have hI9 := hI.ext' hX9d
                    have ksu := hideit (dsure hI9.dk j (by rw [hI9.n8]; exact hj8))
                    obtain ⟨lb, lc, hlt, hlr⟩ := hI.list hj8
                    obtain ⟨q, hq⟩ : ∃ q, q = s.kc j := ⟨_, rfl⟩
                    have hq2 := hI.kc j hj8
                    rw [← hq] at hlt hlr hq2
                    obtain ⟨jt, hjt, hjte⟩ := hI.txt_eq hj8
                    rw [← hs1] at hjte
                    rw [← hq] at hjt
                    obtain ⟨k, hk⟩ : ∃ k, k = q + 1 := ⟨_, rfl⟩
                    rw [← hk] at hlt hlr
                    have i3 : IntKind.i64.wrap ((k : Int) - 1) = (q : Int) := by rw [IntKind.wrap_i64]; omega
                    have i1 : (q : Int) < (k : Int) := by omega
                    have ct : ∀ X, Ext w9.drew X → X.cell? ⟨tb, j, none⟩ = some (.slice (some ⟨lb, 0, none⟩) k lc) := fun X hX => cell_ext (Ext.trans hX9d hX) hlt
                    replace hq := hideit hq
                    replace hs1 := hideit hs1
                    clear kr1
                    go_upto_region 23 with (fail)
                    refine wp_region_lad (fun X => Ext w9.drew X) [(false, 0), (false, 1), (false, 2), (false, 3), (false, 4), (false, 5), (false, 6), (true, 7), (false, 8), (false, 9), (false, 10), (false, 11), (false, 12), (false, 13), (false, 14), (false, 15), (false, 16), (false, 17), (false, 18), (false, 19), (false, 20), (false, 21), (false, 22), (false, 23), (false, 24), (false, 25), (false, 26), (false, 27), (false, 28)] (by kernel_rfl) (by kernel_rfl) (by decide +kernel) (by decide +kernel) (by decide +kernel) (by decide +kernel) (Ext.refl _) ?_
                    refine wpX_f _ (.int .i64 0) rfl rfl (fun X _ => by simp [go_sem]) ?_
                    simp only [List.getElem_toArray, List.getElem_cons_zero, Act.put, List.setIfInBounds_toArray, List.set_cons_zero, List.set_cons_succ]
                    refine wpX_f _ (.bool false) rfl rfl (fun X _ => by simp [go_sem]) ?_
                    simp only [List.getElem_toArray, List.getElem_cons_zero, List.getElem_cons_succ, Act.put, List.setIfInBounds_toArray, List.set_cons_zero, List.set_cons_succ]
                    refine wpX_f _ (.bool false) rfl rfl (fun X _ => by simp [go_sem]) ?_
                    simp only [List.getElem_toArray, List.getElem_cons_zero, List.getElem_cons_succ, Act.put, List.setIfInBounds_toArray, List.set_cons_zero, List.set_cons_succ]
                    refine wpX_f _ (.slice o9 512 c9) rfl rfl (fun X _ => by simp [go_sem]) ?_
                    simp only [List.getElem_toArray, List.getElem_cons_zero, List.getElem_cons_succ, Act.put, List.setIfInBounds_toArray, List.set_cons_zero, List.set_cons_succ]
                    refine wpX_f _ (.string s1) rfl rfl (fun X hX => by have e := ca X hX; simp [go_sem, e]) ?_
                    simp only [List.getElem_toArray, List.getElem_cons_zero, List.getElem_cons_succ, Act.put, List.setIfInBounds_toArray, List.set_cons_zero, List.set_cons_succ]
                    refine wpX_f _ (.pointer (some ⟨p, 0, none⟩)) rfl rfl (fun X _ => by simp [go_sem]) ?_
                    simp only [List.getElem_toArray, List.getElem_cons_zero, List.getElem_cons_succ, Act.put, List.setIfInBounds_toArray, List.set_cons_zero, List.set_cons_succ]
                    refine wpX_f _ (.int .i64 (j : Int)) rfl rfl (fun X _ => by simp [go_sem]) ?_
                    simp only [List.getElem_toArray, List.getElem_cons_zero, List.getElem_cons_succ, Act.put, List.setIfInBounds_toArray, List.set_cons_zero, List.set_cons_succ]
                    refine wpX_call _ rfl rfl (by simp [go_sem]) ((ksu.out).mono ?_)
                    rintro e w11 ⟨v11, rfl, hO11, hX11⟩
                    obtain ⟨o11, c11, rfl⟩ := b512 hO11
                    have cd : ∀ X, Ext w11 X → (convert 31 9 (.slice o11 512 c11)).run Try.prog X = .ok (.string s1) X := fun X hX => by rw [hs1.out]; exact convV _ _ _ X (hO11.bv.ext hX)
                    refine ⟨_, rfl, fun X => Ext w11 X, fun X hX => Ext.trans hX11 hX, Ext.refl _, ?_⟩
                    simp only [List.getElem_toArray, List.getElem_cons_zero, List.getElem_cons_succ, Act.put, List.setIfInBounds_toArray, List.set_cons_zero, List.set_cons_succ]
                    refine wpX_f _ (.string s1) rfl rfl (fun X hX => by have e := cd X hX; simp [go_sem, e]) ?_
                    simp only [List.getElem_toArray, List.getElem_cons_zero, List.getElem_cons_succ, Act.put, List.setIfInBounds_toArray, List.set_cons_zero, List.set_cons_succ]
                    refine wpX_f _ (.bool false) rfl rfl (fun X _ => by simp [go_sem]) ?_
                    simp only [List.getElem_toArray, List.getElem_cons_zero, List.getElem_cons_succ, Act.put, List.setIfInBounds_toArray, List.set_cons_zero, List.set_cons_succ]
                    refine wpX_f _ (.bool false) rfl rfl (fun X _ => by simp [go_sem]) ?_
                    simp only [List.getElem_toArray, List.getElem_cons_zero, List.getElem_cons_succ, Act.put, List.setIfInBounds_toArray, List.set_cons_zero, List.set_cons_succ]
                    refine wpX_f _ (.bool false) rfl rfl (fun X _ => by simp [go_sem]) ?_
                    simp only [List.getElem_toArray, List.getElem_cons_zero, List.getElem_cons_succ, Act.put, List.setIfInBounds_toArray, List.set_cons_zero, List.set_cons_succ]
                    refine wpX_f _ (.bool false) rfl rfl (fun X _ => by simp [go_sem]) ?_
                    simp only [List.getElem_toArray, List.getElem_cons_zero, List.getElem_cons_succ, Act.put, List.setIfInBounds_toArray, List.set_cons_zero, List.set_cons_succ]
                    refine wpX_f _ (.bool false) rfl rfl (fun X _ => by simp [go_sem]) ?_
                    simp only [List.getElem_toArray, List.getElem_cons_zero, List.getElem_cons_succ, Act.put, List.setIfInBounds_toArray, List.set_cons_zero, List.set_cons_succ]
                    refine wpX_fskip _ rfl rfl ?_
                    simp only [List.getElem_toArray, List.getElem_cons_zero, List.getElem_cons_succ, Act.put, List.setIfInBounds_toArray, List.set_cons_zero, List.set_cons_succ]
                    refine wpX_fskip _ rfl rfl ?_
                    simp only [List.getElem_toArray, List.getElem_cons_zero, List.getElem_cons_succ, Act.put, List.setIfInBounds_toArray, List.set_cons_zero, List.set_cons_succ]
                    refine wpX_fskip _ rfl rfl ?_
                    simp only [List.getElem_toArray, List.getElem_cons_zero, List.getElem_cons_succ, Act.put, List.setIfInBounds_toArray, List.set_cons_zero, List.set_cons_succ]
                    refine wpX_fskip _ rfl rfl ?_
                    simp only [List.getElem_toArray, List.getElem_cons_zero, List.getElem_cons_succ, Act.put, List.setIfInBounds_toArray, List.set_cons_zero, List.set_cons_succ]
                    refine wpX_fskip _ rfl rfl ?_
                    simp only [List.getElem_toArray, List.getElem_cons_zero, List.getElem_cons_succ, Act.put, List.setIfInBounds_toArray, List.set_cons_zero, List.set_cons_succ]
                    refine wpX_fskip _ rfl rfl ?_
                    simp only [List.getElem_toArray, List.getElem_cons_zero, List.getElem_cons_succ, Act.put, List.setIfInBounds_toArray, List.set_cons_zero, List.set_cons_succ]
                    refine wpX_fskip _ rfl rfl ?_
                    simp only [List.getElem_toArray, List.getElem_cons_zero, List.getElem_cons_succ, Act.put, List.setIfInBounds_toArray, List.set_cons_zero, List.set_cons_succ]
                    refine wpX_fskip _ rfl rfl ?_
                    simp only [List.getElem_toArray, List.getElem_cons_zero, List.getElem_cons_succ, Act.put, List.setIfInBounds_toArray, List.set_cons_zero, List.set_cons_succ]
                    refine wpX_fskip _ rfl rfl ?_
                    simp only [List.getElem_toArray, List.getElem_cons_zero, List.getElem_cons_succ, Act.put, List.setIfInBounds_toArray, List.set_cons_zero, List.set_cons_succ]
                    refine wpX_fskip _ rfl rfl ?_
                    simp only [List.getElem_toArray, List.getElem_cons_zero, List.getElem_cons_succ, Act.put, List.setIfInBounds_toArray, List.set_cons_zero, List.set_cons_succ]
                    refine wpX_fskip _ rfl rfl ?_
                    simp only [List.getElem_toArray, List.getElem_cons_zero, List.getElem_cons_succ, Act.put, List.setIfInBounds_toArray, List.set_cons_zero, List.set_cons_succ]
                    refine wpX_fskip _ rfl rfl ?_
                    simp only [List.getElem_toArray, List.getElem_cons_zero, List.getElem_cons_succ, Act.put, List.setIfInBounds_toArray, List.set_cons_zero, List.set_cons_succ]
                    refine wpX_fskip _ rfl rfl ?_
                    simp only [List.getElem_toArray, List.getElem_cons_zero, List.getElem_cons_succ, Act.put, List.setIfInBounds_toArray, List.set_cons_zero, List.set_cons_succ]
                    refine wpX_f _ (.bool false) rfl rfl (fun X _ => by simp [go_sem]) ?_
                    simp only [List.getElem_toArray, List.getElem_cons_zero, List.getElem_cons_succ, Act.put, List.setIfInBounds_toArray, List.set_cons_zero, List.set_cons_succ]
                    refine wpX_f _ (.bool false) rfl rfl (fun X _ => by simp [go_sem]) ?_
                    simp only [List.getElem_toArray, List.getElem_cons_zero, List.getElem_cons_succ, Act.put, List.setIfInBounds_toArray, List.set_cons_zero, List.set_cons_succ]
                    refine wpX_nil ?_
                    have ca4 : ∀ X, Ext w11 X → (convert 31 9 (.slice o9 512 c9)).run Try.prog X = .ok (.string s1) X := fun X hX => ca X (Ext.trans hX11 hX)
                    have ct4 : ∀ X, Ext w11 X → X.cell? ⟨tb, j, none⟩ = some (.slice (some ⟨lb, 0, none⟩) k lc) := fun X hX => ct X (Ext.trans hX11 hX)
                    have cr4 : ∀ X, Ext w11 X → ∀ m, m < k → X.cell? ⟨lb, m, none⟩ = some (.string (stS s j m)) := fun X hX m hm => cell_ext (Ext.trans hX9d (Ext.trans hX11 hX)) (hlr m hm)
                    have hI11 := hideit (hI9.ext' hX11)
                    clear ca cd ct ksu hO11 hX11 hD hI hI9 hO9 hX9 hX9d hlt hlr i3 i1
                    go_wp2
                    go_loopw [15, 16] (fun bv mv X => ∃ (m : Nat) (b : Bool), m ≤ k ∧ mv = .int .i64 (m : Int) ∧ bv = .bool b ∧ (b = true ∨ ∀ m', m' < m → (stS s j m').toList ≠ s1.toList) ∧ Ext w11 X) (fun _ mv _ => 5000 - (intOf mv).toNat)
                    case atStart => exact ⟨0, false, Nat.zero_le _, rfl, rfl, .inr fun m' hm' => absurd hm' (Nat.not_lt_zero _), Ext.refl _⟩
                    case round =>
                      obtain ⟨m, b, hm, rfl, rfl, hb, hE4⟩ := hrel
                      by_cases hmk : m < k
                      · have m0 : (0 : Int) ≤ (m : Int) := by omega
                        have m1 : (m : Int) < (k : Int) := by omega
                        go_upto_region 27 with (fail)
                        refine wp_region_lit ?_
                        refine wpList_run rfl (.int .i64 (m : Int)) (by simp [go_sem]) ?_
                        simp only [Act.put, List.setIfInBounds_toArray, List.set_cons_zero, List.set_cons_succ]
                        refine wpList_run rfl (.int .i64 (j : Int)) (by simp [go_sem]) ?_
                        simp only [Act.put, List.setIfInBounds_toArray, List.set_cons_zero, List.set_cons_succ]
                        refine wpList_run rfl (.pointer (some ⟨tb, j, none⟩)) (by simp [go_sem, j0, j1]) ?_
                        simp only [Act.put, List.setIfInBounds_toArray, List.set_cons_zero, List.set_cons_succ]
                        have ect := ct4 _ hE4
                        refine wpList_run rfl (.slice (some ⟨lb, 0, none⟩) k lc) (by simp [go_sem, ect]) ?_
                        simp only [Act.put, List.setIfInBounds_toArray, List.set_cons_zero, List.set_cons_succ]
                        refine wpList_run rfl (.int .i64 (k : Int)) (by simp [go_sem]) ?_
                        simp only [Act.put, List.setIfInBounds_toArray, List.set_cons_zero, List.set_cons_succ]
                        refine wpList_run rfl (.bool true) (by simp [go_sem, m1]) ?_
                        simp only [Act.put, List.setIfInBounds_toArray, List.set_cons_zero, List.set_cons_succ]
                        clear ect
                        have hD4 : Ext w11 wr.drew := Ext.trans hE4 (Ext.refl wr).draw
                        cases b with
                        | true =>
                          go_upto_region 29 with (fail)
                          refine wp_region_lad (fun X => Ext wr.drew X) [(false, 0), (false, 1), (false, 2), (false, 3), (false, 4), (false, 5), (false, 6), (false, 7), (false, 8), (false, 9), (false, 10), (false, 11), (false, 12)] (by kernel_rfl) (by kernel_rfl) (by decide +kernel) (by decide +kernel) (by decide +kernel) (by decide +kernel) (Ext.refl _) ?_
                          refine wpX_f _ (.bool true) rfl rfl (fun X _ => by simp [go_sem]) ?_
                          simp only [List.getElem_toArray, List.getElem_cons_zero, Act.put, List.setIfInBounds_toArray, List.set_cons_zero, List.set_cons_succ]
                          refine wpX_f _ (.bool true) rfl rfl (fun X _ => by simp [go_sem]) ?_
                          simp only [List.getElem_toArray, List.getElem_cons_zero, List.getElem_cons_succ, Act.put, List.setIfInBounds_toArray, List.set_cons_zero, List.set_cons_succ]
                          refine wpX_fskip _ rfl rfl ?_
                          simp only [List.getElem_toArray, List.getElem_cons_zero, List.getElem_cons_succ, Act.put, List.setIfInBounds_toArray, List.set_cons_zero, List.set_cons_succ]
                          refine wpX_fskip _ rfl rfl ?_
                          simp only [List.getElem_toArray, List.getElem_cons_zero, List.getElem_cons_succ, Act.put, List.setIfInBounds_toArray, List.set_cons_zero, List.set_cons_succ]
                          refine wpX_fskip _ rfl rfl ?_
                          simp only [List.getElem_toArray, List.getElem_cons_zero, List.getElem_cons_succ, Act.put, List.setIfInBounds_toArray, List.set_cons_zero, List.set_cons_succ]
                          refine wpX_fskip _ rfl rfl ?_
                          simp only [List.getElem_toArray, List.getElem_cons_zero, List.getElem_cons_succ, Act.put, List.setIfInBounds_toArray, List.set_cons_zero, List.set_cons_succ]
                          refine wpX_fskip _ rfl rfl ?_
                          simp only [List.getElem_toArray, List.getElem_cons_zero, List.getElem_cons_succ, Act.put, List.setIfInBounds_toArray, List.set_cons_zero, List.set_cons_succ]
                          refine wpX_fskip _ rfl rfl ?_
                          simp only [List.getElem_toArray, List.getElem_cons_zero, List.getElem_cons_succ, Act.put, List.setIfInBounds_toArray, List.set_cons_zero, List.set_cons_succ]
                          refine wpX_fskip _ rfl rfl ?_
                          simp only [List.getElem_toArray, List.getElem_cons_zero, List.getElem_cons_succ, Act.put, List.setIfInBounds_toArray, List.set_cons_zero, List.set_cons_succ]
                          refine wpX_fskip _ rfl rfl ?_
                          simp only [List.getElem_toArray, List.getElem_cons_zero, List.getElem_cons_succ, Act.put, List.setIfInBounds_toArray, List.set_cons_zero, List.set_cons_succ]
                          refine wpX_fskip _ rfl rfl ?_
                          simp only [List.getElem_toArray, List.getElem_cons_zero, List.getElem_cons_succ, Act.put, List.setIfInBounds_toArray, List.set_cons_zero, List.set_cons_succ]
                          refine wpX_f _ (.bool true) rfl rfl (fun X _ => by simp [go_sem]) ?_
                          simp only [List.getElem_toArray, List.getElem_cons_zero, List.getElem_cons_succ, Act.put, List.setIfInBounds_toArray, List.set_cons_zero, List.set_cons_succ]
                          refine wpX_f _ (.bool true) rfl rfl (fun X _ => by simp [go_sem]) ?_
                          simp only [List.getElem_toArray, List.getElem_cons_zero, List.getElem_cons_succ, Act.put, List.setIfInBounds_toArray, List.set_cons_zero, List.set_cons_succ]
                          refine wpX_nil ?_
                          go_wp2
                          exact ⟨⟨m + 1, true, by omega, by go_num, rfl, .inl rfl, hD4⟩, by simp [intOf]; omega⟩
                        | false =>
                          have hbn : ∀ m', m' < m → (stS s j m').toList ≠ s1.toList := hb.resolve_left (by decide)
                          by_cases hme : (stS s j m).toList = s1.toList
                          · go_upto_region 29 with (fail)
                            refine wp_region_lad (fun X => Ext wr.drew X) [(false, 0), (false, 1), (false, 2), (false, 3), (false, 4), (false, 5), (false, 6), (false, 7), (false, 8), (false, 9), (false, 10), (false, 11), (false, 12)] (by kernel_rfl) (by kernel_rfl) (by decide +kernel) (by decide +kernel) (by decide +kernel) (by decide +kernel) (Ext.refl _) ?_
                            refine wpX_f _ (.bool false) rfl rfl (fun X _ => by simp [go_sem]) ?_
                            simp only [List.getElem_toArray, List.getElem_cons_zero, Act.put, List.setIfInBounds_toArray, List.set_cons_zero, List.set_cons_succ]
                            refine wpX_f _ (.bool false) rfl rfl (fun X _ => by simp [go_sem]) ?_
                            simp only [List.getElem_toArray, List.getElem_cons_zero, List.getElem_cons_succ, Act.put, List.setIfInBounds_toArray, List.set_cons_zero, List.set_cons_succ]
                            refine wpX_f _ (.int .i64 (j : Int)) rfl rfl (fun X _ => by simp [go_sem]) ?_
                            simp only [List.getElem_toArray, List.getElem_cons_zero, List.getElem_cons_succ, Act.put, List.setIfInBounds_toArray, List.set_cons_zero, List.set_cons_succ]
                            refine wpX_f _ (.pointer (some ⟨tb, j, none⟩)) rfl rfl (fun X _ => by simp [go_sem, j0, j1]) ?_
                            simp only [List.getElem_toArray, List.getElem_cons_zero, List.getElem_cons_succ, Act.put, List.setIfInBounds_toArray, List.set_cons_zero, List.set_cons_succ]
                            refine wpX_f _ (.slice (some ⟨lb, 0, none⟩) k lc) rfl rfl (fun X hX => by have e := ct4 X (Ext.trans hD4 hX); simp [go_sem, e]) ?_
                            simp only [List.getElem_toArray, List.getElem_cons_zero, List.getElem_cons_succ, Act.put, List.setIfInBounds_toArray, List.set_cons_zero, List.set_cons_succ]
                            refine wpX_f _ (.int .i64 (m : Int)) rfl rfl (fun X _ => by simp [go_sem]) ?_
                            simp only [List.getElem_toArray, List.getElem_cons_zero, List.getElem_cons_succ, Act.put, List.setIfInBounds_toArray, List.set_cons_zero, List.set_cons_succ]
                            refine wpX_f _ (.pointer (some ⟨lb, m, none⟩)) rfl rfl (fun X _ => by simp [go_sem, m0, m1]) ?_
                            simp only [List.getElem_toArray, List.getElem_cons_zero, List.getElem_cons_succ, Act.put, List.setIfInBounds_toArray, List.set_cons_zero, List.set_cons_succ]
                            refine wpX_f _ (.string (stS s j m)) rfl rfl (fun X hX => by have e := cr4 X (Ext.trans hD4 hX) m hmk; simp [go_sem, e]) ?_
                            simp only [List.getElem_toArray, List.getElem_cons_zero, List.getElem_cons_succ, Act.put, List.setIfInBounds_toArray, List.set_cons_zero, List.set_cons_succ]
                            refine wpX_f _ (.slice o9 512 c9) rfl rfl (fun X _ => by simp [go_sem]) ?_
                            simp only [List.getElem_toArray, List.getElem_cons_zero, List.getElem_cons_succ, Act.put, List.setIfInBounds_toArray, List.set_cons_zero, List.set_cons_succ]
                            refine wpX_f _ (.string s1) rfl rfl (fun X hX => by have e := ca4 X (Ext.trans hD4 hX); simp [go_sem, e]) ?_
                            simp only [List.getElem_toArray, List.getElem_cons_zero, List.getElem_cons_succ, Act.put, List.setIfInBounds_toArray, List.set_cons_zero, List.set_cons_succ]
                            refine wpX_f _ (.bool true) rfl rfl (fun X _ => by simp [go_sem, hme]) ?_
                            simp only [List.getElem_toArray, List.getElem_cons_zero, List.getElem_cons_succ, Act.put, List.setIfInBounds_toArray, List.set_cons_zero, List.set_cons_succ]
                            refine wpX_f _ (.bool true) rfl rfl (fun X _ => by simp [go_sem]) ?_
                            simp only [List.getElem_toArray, List.getElem_cons_zero, List.getElem_cons_succ, Act.put, List.setIfInBounds_toArray, List.set_cons_zero, List.set_cons_succ]
                            refine wpX_f _ (.bool true) rfl rfl (fun X _ => by simp [go_sem]) ?_
                            simp only [List.getElem_toArray, List.getElem_cons_zero, List.getElem_cons_succ, Act.put, List.setIfInBounds_toArray, List.set_cons_zero, List.set_cons_succ]
                            refine wpX_nil ?_
                            go_wp2
                            exact ⟨⟨m + 1, true, by omega, by go_num, rfl, .inl rfl, hD4⟩, by simp [intOf]; omega⟩
                          · go_upto_region 29 with (fail)
                            refine wp_region_lad (fun X => Ext wr.drew X) [(false, 0), (false, 1), (false, 2), (false, 3), (false, 4), (false, 5), (false, 6), (false, 7), (false, 8), (false, 9), (false, 10), (false, 11), (false, 12)] (by kernel_rfl) (by kernel_rfl) (by decide +kernel) (by decide +kernel) (by decide +kernel) (by decide +kernel) (Ext.refl _) ?_
                            refine wpX_f _ (.bool false) rfl rfl (fun X _ => by simp [go_sem]) ?_
                            simp only [List.getElem_toArray, List.getElem_cons_zero, Act.put, List.setIfInBounds_toArray, List.set_cons_zero, List.set_cons_succ]
                            refine wpX_f _ (.bool false) rfl rfl (fun X _ => by simp [go_sem]) ?_
                            simp only [List.getElem_toArray, List.getElem_cons_zero, List.getElem_cons_succ, Act.put, List.setIfInBounds_toArray, List.set_cons_zero, List.set_cons_succ]
                            refine wpX_f _ (.int .i64 (j : Int)) rfl rfl (fun X _ => by simp [go_sem]) ?_
                            simp only [List.getElem_toArray, List.getElem_cons_zero, List.getElem_cons_succ, Act.put, List.setIfInBounds_toArray, List.set_cons_zero, List.set_cons_succ]
                            refine wpX_f _ (.pointer (some ⟨tb, j, none⟩)) rfl rfl (fun X _ => by simp [go_sem, j0, j1]) ?_
                            simp only [List.getElem_toArray, List.getElem_cons_zero, List.getElem_cons_succ, Act.put, List.setIfInBounds_toArray, List.set_cons_zero, List.set_cons_succ]
                            refine wpX_f _ (.slice (some ⟨lb, 0, none⟩) k lc) rfl rfl (fun X hX => by have e := ct4 X (Ext.trans hD4 hX); simp [go_sem, e]) ?_
                            simp only [List.getElem_toArray, List.getElem_cons_zero, List.getElem_cons_succ, Act.put, List.setIfInBounds_toArray, List.set_cons_zero, List.set_cons_succ]
                            refine wpX_f _ (.int .i64 (m : Int)) rfl rfl (fun X _ => by simp [go_sem]) ?_
                            simp only [List.getElem_toArray, List.getElem_cons_zero, List.getElem_cons_succ, Act.put, List.setIfInBounds_toArray, List.set_cons_zero, List.set_cons_succ]
                            refine wpX_f _ (.pointer (some ⟨lb, m, none⟩)) rfl rfl (fun X _ => by simp [go_sem, m0, m1]) ?_
                            simp only [List.getElem_toArray, List.getElem_cons_zero, List.getElem_cons_succ, Act.put, List.setIfInBounds_toArray, List.set_cons_zero, List.set_cons_succ]
                            refine wpX_f _ (.string (stS s j m)) rfl rfl (fun X hX => by have e := cr4 X (Ext.trans hD4 hX) m hmk; simp [go_sem, e]) ?_
                            simp only [List.getElem_toArray, List.getElem_cons_zero, List.getElem_cons_succ, Act.put, List.setIfInBounds_toArray, List.set_cons_zero, List.set_cons_succ]
                            refine wpX_f _ (.slice o9 512 c9) rfl rfl (fun X _ => by simp [go_sem]) ?_
                            simp only [List.getElem_toArray, List.getElem_cons_zero, List.getElem_cons_succ, Act.put, List.setIfInBounds_toArray, List.set_cons_zero, List.set_cons_succ]
                            refine wpX_f _ (.string s1) rfl rfl (fun X hX => by have e := ca4 X (Ext.trans hD4 hX); simp [go_sem, e]) ?_
                            simp only [List.getElem_toArray, List.getElem_cons_zero, List.getElem_cons_succ, Act.put, List.setIfInBounds_toArray, List.set_cons_zero, List.set_cons_succ]
                            refine wpX_f _ (.bool false) rfl rfl (fun X _ => by simp [go_sem, hme]) ?_
                            simp only [List.getElem_toArray, List.getElem_cons_zero, List.getElem_cons_succ, Act.put, List.setIfInBounds_toArray, List.set_cons_zero, List.set_cons_succ]
                            refine wpX_f _ (.bool false) rfl rfl (fun X _ => by simp [go_sem]) ?_
                            simp only [List.getElem_toArray, List.getElem_cons_zero, List.getElem_cons_succ, Act.put, List.setIfInBounds_toArray, List.set_cons_zero, List.set_cons_succ]
                            refine wpX_f _ (.bool false) rfl rfl (fun X _ => by simp [go_sem]) ?_
                            simp only [List.getElem_toArray, List.getElem_cons_zero, List.getElem_cons_succ, Act.put, List.setIfInBounds_toArray, List.set_cons_zero, List.set_cons_succ]
                            refine wpX_nil ?_
                            go_wp2
                            exact ⟨⟨m + 1, false, by omega, by go_num, rfl, .inr fun m' hm' => by
                              by_cases e : m' = m
                              · rw [e]; exact hme
                              · exact hbn m' (by omega), hD4⟩, by simp [intOf]; omega⟩
                      · obtain rfl : m = k := by omega
                        cases b with
                        | false => exact absurd (congrArg ByteArray.toList hjte) ((hb.resolve_left (by decide)) jt (by omega))
                        | true =>
                          have m1 : ¬ (m : Int) < (m : Int) := by omega
                          go_upto_region 27 with (fail)
                          refine wp_region_lit ?_
                          refine wpList_run rfl (.int .i64 (m : Int)) (by simp [go_sem]) ?_
                          simp only [Act.put, List.setIfInBounds_toArray, List.set_cons_zero, List.set_cons_succ]
                          refine wpList_run rfl (.int .i64 (j : Int)) (by simp [go_sem]) ?_
                          simp only [Act.put, List.setIfInBounds_toArray, List.set_cons_zero, List.set_cons_succ]
                          refine wpList_run rfl (.pointer (some ⟨tb, j, none⟩)) (by simp [go_sem, j0, j1]) ?_
                          simp only [Act.put, List.setIfInBounds_toArray, List.set_cons_zero, List.set_cons_succ]
                          have ect := ct4 _ hE4
                          refine wpList_run rfl (.slice (some ⟨lb, 0, none⟩) m lc) (by simp [go_sem, ect]) ?_
                          simp only [Act.put, List.setIfInBounds_toArray, List.set_cons_zero, List.set_cons_succ]
                          refine wpList_run rfl (.int .i64 (m : Int)) (by simp [go_sem]) ?_
                          simp only [Act.put, List.setIfInBounds_toArray, List.set_cons_zero, List.set_cons_succ]
                          refine wpList_run rfl (.bool false) (by simp [go_sem, m1]) ?_
                          simp only [Act.put, List.setIfInBounds_toArray, List.set_cons_zero, List.set_cons_succ]
                          clear ect
                          go_wp2
                          exact ⟨⟨j + 1, by omega, by go_num, hI11.out.ext' hE4⟩, by simp [intOf]; omega⟩
                  · have hext := hideit hI.ext
                    obtain rfl : j = 8 := by omega
                    clear hI
                    go_wp2
                    go_ret
                    exact ⟨rfl, hext.out⟩
            | true =>
              have kfl := hideit (dflush hI.dk (by rw [hI.pw]; decide) (by omega))
              go_upto_region 15 with (fail)
              refine wp_region_lit ?_
              refine wpList_run rfl (.pointer (some ⟨p, 0, none⟩)) (by simp [go_sem]) ?_
              simp only [Act.put, List.setIfInBounds_toArray, List.set_cons_zero, List.set_cons_succ]
              refine wpList_call rfl (by simp [go_sem]) ((kfl.out).mono ?_)
              rintro e w5 ⟨rfl, M2, hd5, hk5⟩
              refine ⟨_, rfl, ?_⟩
              simp only [Act.put, List.setIfInBounds_toArray, List.set_cons_zero, List.set_cons_succ]
              refine wpList_run rfl (.bool false) (by simp [go_sem]) ?_
              simp only [Act.put, List.setIfInBounds_toArray, List.set_cons_zero, List.set_cons_succ]
              refine wpList_run rfl (.bool false) (by simp [go_sem]) ?_
              simp only [Act.put, List.setIfInBounds_toArray, List.set_cons_zero, List.set_cons_succ]
              refine wpList_runW rfl (.pointer (some ⟨p, 0, none⟩)) (by simp [go_sem]) ?_
              simp only [Act.put, List.setIfInBounds_toArray, List.set_cons_zero, List.set_cons_succ]
              have hB0 := hI.flushed hi hd5 hk5
              have kun := hideit (dunsure_none hd5 fun _ _ => rfl)
              clear kfl hI hd5 hk5
              refine wpList_callW rfl (by simp [go_sem]) ((kun.out).mono ?_)
              rintro e w6 ⟨uv, rfl, hX6, uo, ucap, rfl⟩
              refine ⟨_, rfl, ?_⟩
              simp only [Act.put, List.setIfInBounds_toArray, List.set_cons_zero, List.set_cons_succ]
              refine wpList_runW rfl (.int .i64 0) (by simp [go_sem]) ?_
              simp only [Act.put, List.setIfInBounds_toArray, List.set_cons_zero, List.set_cons_succ]
              refine wpList_runW rfl (.bool false) (by simp [go_sem]) ?_
              simp only [Act.put, List.setIfInBounds_toArray, List.set_cons_zero, List.set_cons_succ]
              refine wpList_run rfl (.bool false) (by simp [go_sem]) ?_
              simp only [Act.put, List.setIfInBounds_toArray, List.set_cons_zero, List.set_cons_succ]
              have hB := hideit (hB0.ext' hX6)
              clear kun hX6 hB0
              generalize flS s = s2 at *
              go_upto_region 17 with (fail)
              go_cut [114] (fun t wc => t = .bool false ∧ ∃ s3 M3, FlE w p tb F s s3 true i M3 tv wc)
              case first =>
                by_cases hok : okK s2 M2 kb kw kk
                · have kcr := hideit (dcrash hB.out.dk _ kk (hKL.out.ext hB.out.ext) hkb.out hkk hok (by omega))
                  refine wp_region_lit ?_
                  refine wpList_run rfl (.pointer (some ⟨p, 0, none⟩)) (by simp [go_sem]) ?_
                  simp only [Act.put, List.setIfInBounds_toArray, List.set_cons_zero, List.set_cons_succ]
                  refine wpList_run rfl (.slice ko kk kcap) (by simp [go_sem]) ?_
                  simp only [Act.put, List.setIfInBounds_toArray, List.set_cons_zero, List.set_cons_succ]
                  refine wpList_call rfl (by simp [go_sem]) ((kcr.out).mono ?_)
                  rintro e w7 ⟨rfl, M3, hd7, hk7⟩
                  refine ⟨_, rfl, ?_⟩
                  simp only [Act.put, List.setIfInBounds_toArray, List.set_cons_zero, List.set_cons_succ]
                  refine wpList_run rfl (.bool false) (by simp [go_sem]) ?_
                  simp only [Act.put, List.setIfInBounds_toArray, List.set_cons_zero, List.set_cons_succ]
                  refine wpList_run rfl (.bool false) (by simp [go_sem]) ?_
                  simp only [Act.put, List.setIfInBounds_toArray, List.set_cons_zero, List.set_cons_succ]
                  refine wpList_skip rfl ?_
                  simp only [Act.put, List.setIfInBounds_toArray, List.set_cons_zero, List.set_cons_succ]
                  refine wpList_skip rfl ?_
                  simp only [Act.put, List.setIfInBounds_toArray, List.set_cons_zero, List.set_cons_succ]
                  refine wpList_skip rfl ?_
                  simp only [Act.put, List.setIfInBounds_toArray, List.set_cons_zero, List.set_cons_succ]
                  refine wpList_run rfl (.bool false) (by simp [go_sem]) ?_
                  simp only [Act.put, List.setIfInBounds_toArray, List.set_cons_zero, List.set_cons_succ]
                  have hFE := hideit (hB.out.crash hd7 hk7 hok)
                  clear kcr hd7 hk7 hok hB
                  go_wp2_with fail
                  go_meet
                  exact ⟨rfl, _, _, hFE.out⟩
                · have kcb := hideit (dcrash_bad hB.out.dk _ kk (hKL.out.ext hB.out.ext) hkb.out hkk hok)
                  refine wp_region_lit ?_
                  refine wpList_run rfl (.pointer (some ⟨p, 0, none⟩)) (by simp [go_sem]) ?_
                  simp only [Act.put, List.setIfInBounds_toArray, List.set_cons_zero, List.set_cons_succ]
                  refine wpList_run rfl (.slice ko kk kcap) (by simp [go_sem]) ?_
                  simp only [Act.put, List.setIfInBounds_toArray, List.set_cons_zero, List.set_cons_succ]
                  refine wpList_call rfl (by simp [go_sem]) ((kcb.out).mono ?_)
                  rintro e w6 ⟨rfl, hX6⟩
                  refine ⟨_, rfl, ?_⟩
                  simp only [Act.put, List.setIfInBounds_toArray, List.set_cons_zero, List.set_cons_succ]
                  refine wpList_run rfl (.bool true) (by simp [go_sem]) ?_
                  simp only [Act.put, List.setIfInBounds_toArray, List.set_cons_zero, List.set_cons_succ]
                  refine wpList_run rfl (.bool true) (by simp [go_sem]) ?_
                  simp only [Act.put, List.setIfInBounds_toArray, List.set_cons_zero, List.set_cons_succ]
                  refine wpList_runW rfl (.pointer (some ⟨p, 0, none⟩)) (by simp [go_sem]) ?_
                  simp only [Act.put, List.setIfInBounds_toArray, List.set_cons_zero, List.set_cons_succ]
                  have hB6 := hideit (hB.out.ext' hX6)
                  have ok0 : okK s2 M2 (fun _ => 0) (fun _ => 0) 0 := fun i hi => by omega
                  have kcr := hideit (dcrash (kb := fun _ => 0) (kw := fun _ => 0) hB6.out.dk (.slice none 0 0) 0 (.inl ⟨rfl, rfl⟩) (fun i hi => by omega) (by decide) ok0 (by omega))
                  clear kcb hX6 hB hok
                  refine wpList_callW rfl (by simp [go_sem]) ((kcr.out).mono ?_)
                  rintro e w7 ⟨rfl, M3, hd7, hk7⟩
                  refine ⟨_, rfl, ?_⟩
                  simp only [Act.put, List.setIfInBounds_toArray, List.set_cons_zero, List.set_cons_succ]
                  refine wpList_runW rfl (.bool false) (by simp [go_sem]) ?_
                  simp only [Act.put, List.setIfInBounds_toArray, List.set_cons_zero, List.set_cons_succ]
                  refine wpList_run rfl (.bool false) (by simp [go_sem]) ?_
                  simp only [Act.put, List.setIfInBounds_toArray, List.set_cons_zero, List.set_cons_succ]
                  have hFE := hideit (hB6.out.crash hd7 hk7 ok0)
                  clear kcr hd7 hk7 ok0 hB6
                  go_wp2_with fail
                  go_meet
                  exact ⟨rfl, _, _, hFE.out⟩
              case rest =>
                obtain ⟨rfl, s3, M3, hFE0⟩ := hcut
                have hFE := hideit hFE0
                clear hFE0 hB
                go_wp2
                go_loopw [12] (fun jv X => ∃ j : Nat, j ≤ 8 ∧ jv = .int .i64 (j : Int) ∧ FlE w p tb F s s3 true i M3 tv X) (fun jv _ => 8 - (intOf jv).toNat)
                case atStart => exact ⟨0, by decide, rfl, hFE.out⟩
                case round =>
                  obtain ⟨j, hj, rfl, hI⟩ := hrel
                  clear hFE
                  by_cases hj8 : j < 8
                  · have j0 : (0 : Int) ≤ (j : Int) := by omega
                    have j1 : (j : Int) < 8 := by omega
                    have kr1 := dread hI.dk j (by rw [hI.n8]; exact hj8) (by rw [hI.pw]; decide) (by omega)
                    rw [hI.has] at kr1
                    replace kr1 := hideit kr1
                    go_upto_region 22 with (fail)
                    refine wp_region_lit ?_
                    refine wpList_run rfl (.pointer (some ⟨p, 0, none⟩)) (by simp [go_sem]) ?_
                    simp only [Act.put, List.setIfInBounds_toArray, List.set_cons_zero, List.set_cons_succ]
                    refine wpList_run rfl (.int .i64 (j : Int)) (by simp [go_sem]) ?_
                    simp only [Act.put, List.setIfInBounds_toArray, List.set_cons_zero, List.set_cons_succ]
                    refine wpList_call rfl (by simp [go_sem]) ((kr1.out).mono ?_)
                    rintro e w9 ⟨v9, rfl, hO9, hX9⟩
                    refine ⟨_, rfl, ?_⟩
                    simp only [Act.put, List.setIfInBounds_toArray, List.set_cons_zero, List.set_cons_succ]
                    obtain ⟨o9, c9, rfl⟩ := b512 hO9
                    refine wpList_run rfl (.tuple #[.slice o9 512 c9, .int .i64 0]) (by simp [go_sem]) ?_
                    simp only [Act.put, List.setIfInBounds_toArray, List.set_cons_zero, List.set_cons_succ]
                    refine wpList_run rfl (.slice o9 512 c9) (by simp [go_sem]) ?_
                    simp only [Act.put, List.setIfInBounds_toArray, List.set_cons_zero, List.set_cons_succ]
                    refine wpList_run rfl (.int .i64 0) (by simp [go_sem]) ?_
                    simp only [Act.put, List.setIfInBounds_toArray, List.set_cons_zero, List.set_cons_succ]
                    refine wpList_run rfl (.slice o9 512 c9) (by simp [go_sem]) ?_
                    simp only [Act.put, List.setIfInBounds_toArray, List.set_cons_zero, List.set_cons_succ]
                    refine wpList_run rfl (.int .i64 0) (by simp [go_sem]) ?_
                    simp only [Act.put, List.setIfInBounds_toArray, List.set_cons_zero, List.set_cons_succ]
                    obtain ⟨s1, hs1⟩ : ∃ s1, s1 = bstr 512 (fun t => ((s3.S j t).toNat : Int)) := ⟨_, rfl⟩
                    have hD : Ext w9 w9.drew := (Ext.refl w9).draw
                    have hX9d := Ext.trans hX9 hD
                    have ca : ∀ X, Ext w9.drew X → (convert 31 9 (.slice o9 512 c9)).run Try.prog X = .ok (.string s1) X := fun X hX => by rw [hs1]; exact convV _ _ _ X ((hO9.bv.ext hD).ext hX)
                    have hI9 := hI.ext' hX9d
                    have ksu := hideit (dsure hI9.dk j (by rw [hI9.n8]; exact hj8))
                    obtain ⟨lb, lc, hlt, hlr⟩ := hI.list hj8
                    obtain ⟨q, hq⟩ : ∃ q, q = s.kc j := ⟨_, rfl⟩
                    have hq2 := hI.kc j hj8
                    rw [← hq] at hlt hlr hq2
                    obtain ⟨jt, hjt, hjte⟩ := hI.txt_eq hj8
                    rw [← hs1] at hjte
                    rw [← hq] at hjt
                    obtain ⟨k, hk⟩ : ∃ k, k = q + 1 := ⟨_, rfl⟩
                    rw [← hk] at hlt hlr
                    have i3 : IntKind.i64.wrap ((k : Int) - 1) = (q : Int) := by rw [IntKind.wrap_i64]; omega
                    have i1 : (q : Int) < (k : Int) := by omega
                    have ct : ∀ X, Ext w9.drew X → X.cell? ⟨tb, j, none⟩ = some (.slice (some ⟨lb, 0, none⟩) k lc) := fun X hX => cell_ext (Ext.trans hX9d hX) hlt
                    replace hq := hideit hq
                    have cq : ∀ X, Ext w9.drew X → X.cell? ⟨lb, q, none⟩ = some (.string s1) := fun X hX => by
                      have e := cell_ext (Ext.trans hX9d hX) (hlr q (by omega))
                      rw [show stS s j q = s1 from by rw [hq.out, hs1]; exact hI.txt_last hj8] at e
                      exact e
                    replace hs1 := hideit hs1
                    clear kr1
                    go_upto_region 23 with (fail)
                    refine wp_region_lad (fun X => Ext w9.drew X) [(false, 0), (false, 1), (false, 2), (false, 3), (false, 4), (false, 5), (false, 6), (true, 7), (false, 8), (false, 9), (false, 10), (false, 11), (false, 12), (false, 13), (false, 14), (false, 15), (false, 16), (false, 17), (false, 18), (false, 19), (false, 20), (false, 21), (false, 22), (false, 23), (false, 24), (false, 25), (false, 26), (false, 27), (false, 28)] (by kernel_rfl) (by kernel_rfl) (by decide +kernel) (by decide +kernel) (by decide +kernel) (by decide +kernel) (Ext.refl _) ?_
                    refine wpX_f _ (.int .i64 0) rfl rfl (fun X _ => by simp [go_sem]) ?_
                    simp only [List.getElem_toArray, List.getElem_cons_zero, Act.put, List.setIfInBounds_toArray, List.set_cons_zero, List.set_cons_succ]
                    refine wpX_f _ (.bool false) rfl rfl (fun X _ => by simp [go_sem]) ?_
                    simp only [List.getElem_toArray, List.getElem_cons_zero, List.getElem_cons_succ, Act.put, List.setIfInBounds_toArray, List.set_cons_zero, List.set_cons_succ]
                    refine wpX_f _ (.bool false) rfl rfl (fun X _ => by simp [go_sem]) ?_
                    simp only [List.getElem_toArray, List.getElem_cons_zero, List.getElem_cons_succ, Act.put, List.setIfInBounds_toArray, List.set_cons_zero, List.set_cons_succ]
                    refine wpX_f _ (.slice o9 512 c9) rfl rfl (fun X _ => by simp [go_sem]) ?_
                    simp only [List.getElem_toArray, List.getElem_cons_zero, List.getElem_cons_succ, Act.put, List.setIfInBounds_toArray, List.set_cons_zero, List.set_cons_succ]
                    refine wpX_f _ (.string s1) rfl rfl (fun X hX => by have e := ca X hX; simp [go_sem, e]) ?_
                    simp only [List.getElem_toArray, List.getElem_cons_zero, List.getElem_cons_succ, Act.put, List.setIfInBounds_toArray, List.set_cons_zero, List.set_cons_succ]
                    refine wpX_f _ (.pointer (some ⟨p, 0, none⟩)) rfl rfl (fun X _ => by simp [go_sem]) ?_
                    simp only [List.getElem_toArray, List.getElem_cons_zero, List.getElem_cons_succ, Act.put, List.setIfInBounds_toArray, List.set_cons_zero, List.set_cons_succ]
                    refine wpX_f _ (.int .i64 (j : Int)) rfl rfl (fun X _ => by simp [go_sem]) ?_
                    simp only [List.getElem_toArray, List.getElem_cons_zero, List.getElem_cons_succ, Act.put, List.setIfInBounds_toArray, List.set_cons_zero, List.set_cons_succ]
                    refine wpX_call _ rfl rfl (by simp [go_sem]) ((ksu.out).mono ?_)
                    rintro e w11 ⟨v11, rfl, hO11, hX11⟩
                    obtain ⟨o11, c11, rfl⟩ := b512 hO11
                    have cd : ∀ X, Ext w11 X → (convert 31 9 (.slice o11 512 c11)).run Try.prog X = .ok (.string s1) X := fun X hX => by rw [hs1.out]; exact convV _ _ _ X (hO11.bv.ext hX)
                    refine ⟨_, rfl, fun X => Ext w11 X, fun X hX => Ext.trans hX11 hX, Ext.refl _, ?_⟩
                    simp only [List.getElem_toArray, List.getElem_cons_zero, List.getElem_cons_succ, Act.put, List.setIfInBounds_toArray, List.set_cons_zero, List.set_cons_succ]
                    refine wpX_f _ (.string s1) rfl rfl (fun X hX => by have e := cd X hX; simp [go_sem, e]) ?_
                    simp only [List.getElem_toArray, List.getElem_cons_zero, List.getElem_cons_succ, Act.put, List.setIfInBounds_toArray, List.set_cons_zero, List.set_cons_succ]
                    refine wpX_f _ (.bool false) rfl rfl (fun X _ => by simp [go_sem]) ?_
                    simp only [List.getElem_toArray, List.getElem_cons_zero, List.getElem_cons_succ, Act.put, List.setIfInBounds_toArray, List.set_cons_zero, List.set_cons_succ]
                    refine wpX_f _ (.bool false) rfl rfl (fun X _ => by simp [go_sem]) ?_
                    simp only [List.getElem_toArray, List.getElem_cons_zero, List.getElem_cons_succ, Act.put, List.setIfInBounds_toArray, List.set_cons_zero, List.set_cons_succ]
                    refine wpX_f _ (.bool false) rfl rfl (fun X _ => by simp [go_sem]) ?_
                    simp only [List.getElem_toArray, List.getElem_cons_zero, List.getElem_cons_succ, Act.put, List.setIfInBounds_toArray, List.set_cons_zero, List.set_cons_succ]
                    refine wpX_f _ (.bool true) rfl rfl (fun X _ => by simp [go_sem]) ?_
                    simp only [List.getElem_toArray, List.getElem_cons_zero, List.getElem_cons_succ, Act.put, List.setIfInBounds_toArray, List.set_cons_zero, List.set_cons_succ]
                    refine wpX_f _ (.bool true) rfl rfl (fun X _ => by simp [go_sem]) ?_
                    simp only [List.getElem_toArray, List.getElem_cons_zero, List.getElem_cons_succ, Act.put, List.setIfInBounds_toArray, List.set_cons_zero, List.set_cons_succ]
                    refine wpX_f _ (.slice o9 512 c9) rfl rfl (fun X _ => by simp [go_sem]) ?_
                    simp only [List.getElem_toArray, List.getElem_cons_zero, List.getElem_cons_succ, Act.put, List.setIfInBounds_toArray, List.set_cons_zero, List.set_cons_succ]
                    refine wpX_f _ (.string s1) rfl rfl (fun X hX => by have e := ca X (Ext.trans hX11 hX); simp [go_sem, e]) ?_
                    simp only [List.getElem_toArray, List.getElem_cons_zero, List.getElem_cons_succ, Act.put, List.setIfInBounds_toArray, List.set_cons_zero, List.set_cons_succ]
                    refine wpX_f _ (.int .i64 (j : Int)) rfl rfl (fun X _ => by simp [go_sem]) ?_
                    simp only [List.getElem_toArray, List.getElem_cons_zero, List.getElem_cons_succ, Act.put, List.setIfInBounds_toArray, List.set_cons_zero, List.set_cons_succ]
                    refine wpX_f _ (.pointer (some ⟨tb, j, none⟩)) rfl rfl (fun X _ => by simp [go_sem, j0, j1]) ?_
                    simp only [List.getElem_toArray, List.getElem_cons_zero, List.getElem_cons_succ, Act.put, List.setIfInBounds_toArray, List.set_cons_zero, List.set_cons_succ]
                    refine wpX_f _ (.slice (some ⟨lb, 0, none⟩) k lc) rfl rfl (fun X hX => by have e := ct X (Ext.trans hX11 hX); simp [go_sem, e]) ?_
                    simp only [List.getElem_toArray, List.getElem_cons_zero, List.getElem_cons_succ, Act.put, List.setIfInBounds_toArray, List.set_cons_zero, List.set_cons_succ]
                    refine wpX_f _ (.int .i64 (j : Int)) rfl rfl (fun X _ => by simp [go_sem]) ?_
                    simp only [List.getElem_toArray, List.getElem_cons_zero, List.getElem_cons_succ, Act.put, List.setIfInBounds_toArray, List.set_cons_zero, List.set_cons_succ]
                    refine wpX_f _ (.pointer (some ⟨tb, j, none⟩)) rfl rfl (fun X _ => by simp [go_sem, j0, j1]) ?_
                    simp only [List.getElem_toArray, List.getElem_cons_zero, List.getElem_cons_succ, Act.put, List.setIfInBounds_toArray, List.set_cons_zero, List.set_cons_succ]
                    refine wpX_f _ (.slice (some ⟨lb, 0, none⟩) k lc) rfl rfl (fun X hX => by have e := ct X (Ext.trans hX11 hX); simp [go_sem, e]) ?_
                    simp only [List.getElem_toArray, List.getElem_cons_zero, List.getElem_cons_succ, Act.put, List.setIfInBounds_toArray, List.set_cons_zero, List.set_cons_succ]
                    refine wpX_f _ (.int .i64 (k : Int)) rfl rfl (fun X _ => by simp [go_sem]) ?_
                    simp only [List.getElem_toArray, List.getElem_cons_zero, List.getElem_cons_succ, Act.put, List.setIfInBounds_toArray, List.set_cons_zero, List.set_cons_succ]
                    refine wpX_f _ (.int .i64 (q : Int)) rfl rfl (fun X _ => by simp [go_sem, i3]) ?_
                    simp only [List.getElem_toArray, List.getElem_cons_zero, List.getElem_cons_succ, Act.put, List.setIfInBounds_toArray, List.set_cons_zero, List.set_cons_succ]
                    refine wpX_f _ (.pointer (some ⟨lb, q, none⟩)) rfl rfl (fun X _ => by simp [go_sem, i1]) ?_
                    simp only [List.getElem_toArray, List.getElem_cons_zero, List.getElem_cons_succ, Act.put, List.setIfInBounds_toArray, List.set_cons_zero, List.set_cons_succ]
                    refine wpX_f _ (.string s1) rfl rfl (fun X hX => by have e := cq X (Ext.trans hX11 hX); simp [go_sem, e]) ?_
                    simp only [List.getElem_toArray, List.getElem_cons_zero, List.getElem_cons_succ, Act.put, List.setIfInBounds_toArray, List.set_cons_zero, List.set_cons_succ]
                    refine wpX_f _ (.bool false) rfl rfl (fun X _ => by simp [go_sem]) ?_
                    simp only [List.getElem_toArray, List.getElem_cons_zero, List.getElem_cons_succ, Act.put, List.setIfInBounds_toArray, List.set_cons_zero, List.set_cons_succ]
                    refine wpX_f _ (.bool false) rfl rfl (fun X _ => by simp [go_sem]) ?_
                    simp only [List.getElem_toArray, List.getElem_cons_zero, List.getElem_cons_succ, Act.put, List.setIfInBounds_toArray, List.set_cons_zero, List.set_cons_succ]
                    refine wpX_f _ (.bool false) rfl rfl (fun X _ => by simp [go_sem]) ?_
                    simp only [List.getElem_toArray, List.getElem_cons_zero, List.getElem_cons_succ, Act.put, List.setIfInBounds_toArray, List.set_cons_zero, List.set_cons_succ]
                    refine wpX_nil ?_
                    have ca4 : ∀ X, Ext w11 X → (convert 31 9 (.slice o9 512 c9)).run Try.prog X = .ok (.string s1) X := fun X hX => ca X (Ext.trans hX11 hX)
                    have ct4 : ∀ X, Ext w11 X → X.cell? ⟨tb, j, none⟩ = some (.slice (some ⟨lb, 0, none⟩) k lc) := fun X hX => ct X (Ext.trans hX11 hX)
                    have cr4 : ∀ X, Ext w11 X → ∀ m, m < k → X.cell? ⟨lb, m, none⟩ = some (.string (stS s j m)) := fun X hX m hm => cell_ext (Ext.trans hX9d (Ext.trans hX11 hX)) (hlr m hm)
                    have hI11 := hideit (hI9.ext' hX11)
                    clear ca cd ct cq ksu hO11 hX11 hD hI hI9 hO9 hX9 hX9d hlt hlr i3 i1
                    go_wp2
                    go_loopw [15, 16] (fun bv mv X => ∃ (m : Nat) (b : Bool), m ≤ k ∧ mv = .int .i64 (m : Int) ∧ bv = .bool b ∧ (b = true ∨ ∀ m', m' < m → (stS s j m').toList ≠ s1.toList) ∧ Ext w11 X) (fun _ mv _ => 5000 - (intOf mv).toNat)
                    case atStart => exact ⟨0, false, Nat.zero_le _, rfl, rfl, .inr fun m' hm' => absurd hm' (Nat.not_lt_zero _), Ext.refl _⟩
                    case round =>
                      obtain ⟨m, b, hm, rfl, rfl, hb, hE4⟩ := hrel
                      by_cases hmk : m < k
                      · have m0 : (0 : Int) ≤ (m : Int) := by omega
                        have m1 : (m : Int) < (k : Int) := by omega
                        go_upto_region 27 with (fail)
                        refine wp_region_lit ?_
                        refine wpList_run rfl (.int .i64 (m : Int)) (by simp [go_sem]) ?_
                        simp only [Act.put, List.setIfInBounds_toArray, List.set_cons_zero, List.set_cons_succ]
                        refine wpList_run rfl (.int .i64 (j : Int)) (by simp [go_sem]) ?_
                        simp only [Act.put, List.setIfInBounds_toArray, List.set_cons_zero, List.set_cons_succ]
                        refine wpList_run rfl (.pointer (some ⟨tb, j, none⟩)) (by simp [go_sem, j0, j1]) ?_
                        simp only [Act.put, List.setIfInBounds_toArray, List.set_cons_zero, List.set_cons_succ]
                        have ect := ct4 _ hE4
                        refine wpList_run rfl (.slice (some ⟨lb, 0, none⟩) k lc) (by simp [go_sem, ect]) ?_
                        simp only [Act.put, List.setIfInBounds_toArray, List.set_cons_zero, List.set_cons_succ]
                        refine wpList_run rfl (.int .i64 (k : Int)) (by simp [go_sem]) ?_
                        simp only [Act.put, List.setIfInBounds_toArray, List.set_cons_zero, List.set_cons_succ]
                        refine wpList_run rfl (.bool true) (by simp [go_sem, m1]) ?_
                        simp only [Act.put, List.setIfInBounds_toArray, List.set_cons_zero, List.set_cons_succ]
                        clear ect
                        have hD4 : Ext w11 wr.drew := Ext.trans hE4 (Ext.refl wr).draw
                        cases b with
                        | true =>
                          go_upto_region 29 with (fail)
                          refine wp_region_lad (fun X => Ext wr.drew X) [(false, 0), (false, 1), (false, 2), (false, 3), (false, 4), (false, 5), (false, 6), (false, 7), (false, 8), (false, 9), (false, 10), (false, 11), (false, 12)] (by kernel_rfl) (by kernel_rfl) (by decide +kernel) (by decide +kernel) (by decide +kernel) (by decide +kernel) (Ext.refl _) ?_
                          refine wpX_f _ (.bool true) rfl rfl (fun X _ => by simp [go_sem]) ?_
                          simp only [List.getElem_toArray, List.getElem_cons_zero, Act.put, List.setIfInBounds_toArray, List.set_cons_zero, List.set_cons_succ]
                          refine wpX_f _ (.bool true) rfl rfl (fun X _ => by simp [go_sem]) ?_
                          simp only [List.getElem_toArray, List.getElem_cons_zero, List.getElem_cons_succ, Act.put, List.setIfInBounds_toArray, List.set_cons_zero, List.set_cons_succ]
                          refine wpX_fskip _ rfl rfl ?_
                          simp only [List.getElem_toArray, List.getElem_cons_zero, List.getElem_cons_succ, Act.put, List.setIfInBounds_toArray, List.set_cons_zero, List.set_cons_succ]
                          refine wpX_fskip _ rfl rfl ?_
                          simp only [List.getElem_toArray, List.getElem_cons_zero, List.getElem_cons_succ, Act.put, List.setIfInBounds_toArray, List.set_cons_zero, List.set_cons_succ]
                          refine wpX_fskip _ rfl rfl ?_
                          simp only [List.getElem_toArray, List.getElem_cons_zero, List.getElem_cons_succ, Act.put, List.setIfInBounds_toArray, List.set_cons_zero, List.set_cons_succ]
                          refine wpX_fskip _ rfl rfl ?_
                          simp only [List.getElem_toArray, List.getElem_cons_zero, List.getElem_cons_succ, Act.put, List.setIfInBounds_toArray, List.set_cons_zero, List.set_cons_succ]
                          refine wpX_fskip _ rfl rfl ?_
                          simp only [List.getElem_toArray, List.getElem_cons_zero, List.getElem_cons_succ, Act.put, List.setIfInBounds_toArray, List.set_cons_zero, List.set_cons_succ]
                          refine wpX_fskip _ rfl rfl ?_
                          simp only [List.getElem_toArray, List.getElem_cons_zero, List.getElem_cons_succ, Act.put, List.setIfInBounds_toArray, List.set_cons_zero, List.set_cons_succ]
                          refine wpX_fskip _ rfl rfl ?_
                          simp only [List.getElem_toArray, List.getElem_cons_zero, List.getElem_cons_succ, Act.put, List.setIfInBounds_toArray, List.set_cons_zero, List.set_cons_succ]
                          refine wpX_fskip _ rfl rfl ?_
                          simp only [List.getElem_toArray, List.getElem_cons_zero, List.getElem_cons_succ, Act.put, List.setIfInBounds_toArray, List.set_cons_zero, List.set_cons_succ]
                          refine wpX_fskip _ rfl rfl ?_
                          simp only [List.getElem_toArray, List.getElem_cons_zero, List.getElem_cons_succ, Act.put, List.setIfInBounds_toArray, List.set_cons_zero, List.set_cons_succ]
                          refine wpX_f _ (.bool true) rfl rfl (fun X _ => by simp [go_sem]) ?_
                          simp only [List.getElem_toArray, List.getElem_cons_zero, List.getElem_cons_succ, Act.put, List.setIfInBounds_toArray, List.set_cons_zero, List.set_cons_succ]
                          refine wpX_f _ (.bool true) rfl rfl (fun X _ => by simp [go_sem]) ?_
                          simp only [List.getElem_toArray, List.getElem_cons_zero, List.getElem_cons_succ, Act.put, List.setIfInBounds_toArray, List.set_cons_zero, List.set_cons_succ]
                          refine wpX_nil ?_
                          go_wp2
                          exact ⟨⟨m + 1, true, by omega, by go_num, rfl, .inl rfl, hD4⟩, by simp [intOf]; omega⟩
                        | false =>
                          have hbn : ∀ m', m' < m → (stS s j m').toList ≠ s1.toList := hb.resolve_left (by decide)
                          by_cases hme : (stS s j m).toList = s1.toList
                          · go_upto_region 29 with (fail)
                            refine wp_region_lad (fun X => Ext wr.drew X) [(false, 0), (false, 1), (false, 2), (false, 3), (false, 4), (false, 5), (false, 6), (false, 7), (false, 8), (false, 9), (false, 10), (false, 11), (false, 12)] (by kernel_rfl) (by kernel_rfl) (by decide +kernel) (by decide +kernel) (by decide +kernel) (by decide +kernel) (Ext.refl _) ?_
                            refine wpX_f _ (.bool false) rfl rfl (fun X _ => by simp [go_sem]) ?_
                            simp only [List.getElem_toArray, List.getElem_cons_zero, Act.put, List.setIfInBounds_toArray, List.set_cons_zero, List.set_cons_succ]
                            refine wpX_f _ (.bool false) rfl rfl (fun X _ => by simp [go_sem]) ?_
                            simp only [List.getElem_toArray, List.getElem_cons_zero, List.getElem_cons_succ, Act.put, List.setIfInBounds_toArray, List.set_cons_zero, List.set_cons_succ]
                            refine wpX_f _ (.int .i64 (j : Int)) rfl rfl (fun X _ => by simp [go_sem]) ?_
                            simp only [List.getElem_toArray, List.getElem_cons_zero, List.getElem_cons_succ, Act.put, List.setIfInBounds_toArray, List.set_cons_zero, List.set_cons_succ]
                            refine wpX_f _ (.pointer (some ⟨tb, j, none⟩)) rfl rfl (fun X _ => by simp [go_sem, j0, j1]) ?_
                            simp only [List.getElem_toArray, List.getElem_cons_zero, List.getElem_cons_succ, Act.put, List.setIfInBounds_toArray, List.set_cons_zero, List.set_cons_succ]
                            refine wpX_f _ (.slice (some ⟨lb, 0, none⟩) k lc) rfl rfl (fun X hX => by have e := ct4 X (Ext.trans hD4 hX); simp [go_sem, e]) ?_
                            simp only [List.getElem_toArray, List.getElem_cons_zero, List.getElem_cons_succ, Act.put, List.setIfInBounds_toArray, List.set_cons_zero, List.set_cons_succ]
                            refine wpX_f _ (.int .i64 (m : Int)) rfl rfl (fun X _ => by simp [go_sem]) ?_
                            simp only [List.getElem_toArray, List.getElem_cons_zero, List.getElem_cons_succ, Act.put, List.setIfInBounds_toArray, List.set_cons_zero, List.set_cons_succ]
                            refine wpX_f _ (.pointer (some ⟨lb, m, none⟩)) rfl rfl (fun X _ => by simp [go_sem, m0, m1]) ?_
                            simp only [List.getElem_toArray, List.getElem_cons_zero, List.getElem_cons_succ, Act.put, List.setIfInBounds_toArray, List.set_cons_zero, List.set_cons_succ]
                            refine wpX_f _ (.string (stS s j m)) rfl rfl (fun X hX => by have e := cr4 X (Ext.trans hD4 hX) m hmk; simp [go_sem, e]) ?_
                            simp only [List.getElem_toArray, List.getElem_cons_zero, List.getElem_cons_succ, Act.put, List.setIfInBounds_toArray, List.set_cons_zero, List.set_cons_succ]
                            refine wpX_f _ (.slice o9 512 c9) rfl rfl (fun X _ => by simp [go_sem]) ?_
                            simp only [List.getElem_toArray, List.getElem_cons_zero, List.getElem_cons_succ, Act.put, List.setIfInBounds_toArray, List.set_cons_zero, List.set_cons_succ]
                            refine wpX_f _ (.string s1) rfl rfl (fun X hX => by have e := ca4 X (Ext.trans hD4 hX); simp [go_sem, e]) ?_
                            simp only [List.getElem_toArray, List.getElem_cons_zero, List.getElem_cons_succ, Act.put, List.setIfInBounds_toArray, List.set_cons_zero, List.set_cons_succ]
                            refine wpX_f _ (.bool true) rfl rfl (fun X _ => by simp [go_sem, hme]) ?_
                            simp only [List.getElem_toArray, List.getElem_cons_zero, List.getElem_cons_succ, Act.put, List.setIfInBounds_toArray, List.set_cons_zero, List.set_cons_succ]
                            refine wpX_f _ (.bool true) rfl rfl (fun X _ => by simp [go_sem]) ?_
                            simp only [List.getElem_toArray, List.getElem_cons_zero, List.getElem_cons_succ, Act.put, List.setIfInBounds_toArray, List.set_cons_zero, List.set_cons_succ]
                            refine wpX_f _ (.bool true) rfl rfl (fun X _ => by simp [go_sem]) ?_
                            simp only [List.getElem_toArray, List.getElem_cons_zero, List.getElem_cons_succ, Act.put, List.setIfInBounds_toArray, List.set_cons_zero, List.set_cons_succ]
                            refine wpX_nil ?_
                            go_wp2
                            exact ⟨⟨m + 1, true, by omega, by go_num, rfl, .inl rfl, hD4⟩, by simp [intOf]; omega⟩
                          · go_upto_region 29 with (fail)
                            refine wp_region_lad (fun X => Ext wr.drew X) [(false, 0), (false, 1), (false, 2), (false, 3), (false, 4), (false, 5), (false, 6), (false, 7), (false, 8), (false, 9), (false, 10), (false, 11), (false, 12)] (by kernel_rfl) (by kernel_rfl) (by decide +kernel) (by decide +kernel) (by decide +kernel) (by decide +kernel) (Ext.refl _) ?_
                            refine wpX_f _ (.bool false) rfl rfl (fun X _ => by simp [go_sem]) ?_
                            simp only [List.getElem_toArray, List.getElem_cons_zero, Act.put, List.setIfInBounds_toArray, List.set_cons_zero, List.set_cons_succ]
                            refine wpX_f _ (.bool false) rfl rfl (fun X _ => by simp [go_sem]) ?_
                            simp only [List.getElem_toArray, List.getElem_cons_zero, List.getElem_cons_succ, Act.put, List.setIfInBounds_toArray, List.set_cons_zero, List.set_cons_succ]
                            refine wpX_f _ (.int .i64 (j : Int)) rfl rfl (fun X _ => by simp [go_sem]) ?_
                            simp only [List.getElem_toArray, List.getElem_cons_zero, List.getElem_cons_succ, Act.put, List.setIfInBounds_toArray, List.set_cons_zero, List.set_cons_succ]
                            refine wpX_f _ (.pointer (some ⟨tb, j, none⟩)) rfl rfl (fun X _ => by simp [go_sem, j0, j1]) ?_
                            simp only [List.getElem_toArray, List.getElem_cons_zero, List.getElem_cons_succ, Act.put, List.setIfInBounds_toArray, List.set_cons_zero, List.set_cons_succ]
                            refine wpX_f _ (.slice (some ⟨lb, 0, none⟩) k lc) rfl rfl (fun X hX => by have e := ct4 X (Ext.trans hD4 hX); simp [go_sem, e]) ?_
                            simp only [List.getElem_toArray, List.getElem_cons_zero, List.getElem_cons_succ, Act.put, List.setIfInBounds_toArray, List.set_cons_zero, List.set_cons_succ]
                            refine wpX_f _ (.int .i64 (m : Int)) rfl rfl (fun X _ => by simp [go_sem]) ?_
                            simp only [List.getElem_toArray, List.getElem_cons_zero, List.getElem_cons_succ, Act.put, List.setIfInBounds_toArray, List.set_cons_zero, List.set_cons_succ]
                            refine wpX_f _ (.pointer (some ⟨lb, m, none⟩)) rfl rfl (fun X _ => by simp [go_sem, m0, m1]) ?_
                            simp only [List.getElem_toArray, List.getElem_cons_zero, List.getElem_cons_succ, Act.put, List.setIfInBounds_toArray, List.set_cons_zero, List.set_cons_succ]
                            refine wpX_f _ (.string (stS s j m)) rfl rfl (fun X hX => by have e := cr4 X (Ext.trans hD4 hX) m hmk; simp [go_sem, e]) ?_
                            simp only [List.getElem_toArray, List.getElem_cons_zero, List.getElem_cons_succ, Act.put, List.setIfInBounds_toArray, List.set_cons_zero, List.set_cons_succ]
                            refine wpX_f _ (.slice o9 512 c9) rfl rfl (fun X _ => by simp [go_sem]) ?_
                            simp only [List.getElem_toArray, List.getElem_cons_zero, List.getElem_cons_succ, Act.put, List.setIfInBounds_toArray, List.set_cons_zero, List.set_cons_succ]
                            refine wpX_f _ (.string s1) rfl rfl (fun X hX => by have e := ca4 X (Ext.trans hD4 hX); simp [go_sem, e]) ?_
                            simp only [List.getElem_toArray, List.getElem_cons_zero, List.getElem_cons_succ, Act.put, List.setIfInBounds_toArray, List.set_cons_zero, List.set_cons_succ]
                            refine wpX_f _ (.bool false) rfl rfl (fun X _ => by simp [go_sem, hme]) ?_
                            simp only [List.getElem_toArray, List.getElem_cons_zero, List.getElem_cons_succ, Act.put, List.setIfInBounds_toArray, List.set_cons_zero, List.set_cons_succ]
                            refine wpX_f _ (.bool false) rfl rfl (fun X _ => by simp [go_sem]) ?_
                            simp only [List.getElem_toArray, List.getElem_cons_zero, List.getElem_cons_succ, Act.put, List.setIfInBounds_toArray, List.set_cons_zero, List.set_cons_succ]
                            refine wpX_f _ (.bool false) rfl rfl (fun X _ => by simp [go_sem]) ?_
                            simp only [List.getElem_toArray, List.getElem_cons_zero, List.getElem_cons_succ, Act.put, List.setIfInBounds_toArray, List.set_cons_zero, List.set_cons_succ]
                            refine wpX_nil ?_
                            go_wp2
                            exact ⟨⟨m + 1, false, by omega, by go_num, rfl, .inr fun m' hm' => by
                              by_cases e : m' = m
                              · rw [e]; exact hme
                              · exact hbn m' (by omega), hD4⟩, by simp [intOf]; omega⟩
                      · obtain rfl : m = k := by omega
                        cases b with
                        | false => exact absurd (congrArg ByteArray.toList hjte) ((hb.resolve_left (by decide)) jt (by omega))
                        | true =>
                          have m1 : ¬ (m : Int) < (m : Int) := by omega
                          go_upto_region 27 with (fail)
                          refine wp_region_lit ?_
                          refine wpList_run rfl (.int .i64 (m : Int)) (by simp [go_sem]) ?_
                          simp only [Act.put, List.setIfInBounds_toArray, List.set_cons_zero, List.set_cons_succ]
                          refine wpList_run rfl (.int .i64 (j : Int)) (by simp [go_sem]) ?_
                          simp only [Act.put, List.setIfInBounds_toArray, List.set_cons_zero, List.set_cons_succ]
                          refine wpList_run rfl (.pointer (some ⟨tb, j, none⟩)) (by simp [go_sem, j0, j1]) ?_
                          simp only [Act.put, List.setIfInBounds_toArray, List.set_cons_zero, List.set_cons_succ]
                          have ect := ct4 _ hE4
                          refine wpList_run rfl (.slice (some ⟨lb, 0, none⟩) m lc) (by simp [go_sem, ect]) ?_
                          simp only [Act.put, List.setIfInBounds_toArray, List.set_cons_zero, List.set_cons_succ]
                          refine wpList_run rfl (.int .i64 (m : Int)) (by simp [go_sem]) ?_
                          simp only [Act.put, List.setIfInBounds_toArray, List.set_cons_zero, List.set_cons_succ]
                          refine wpList_run rfl (.bool false) (by simp [go_sem, m1]) ?_
                          simp only [Act.put, List.setIfInBounds_toArray, List.set_cons_zero, List.set_cons_succ]
                          clear ect
                          go_wp2
                          exact ⟨⟨j + 1, by omega, by go_num, hI11.out.ext' hE4⟩, by simp [intOf]; omega⟩
                  · have hext := hideit hI.ext
                    obtain rfl : j = 8 := by omega
                    clear hI
                    go_wp2
                    go_ret
                    exact ⟨rfl, hext.out⟩

set_option maxRecDepth 100000 in
theorem lifted (os : Os) (started : os.Started) (H : Type) (enc : TypeId × Value → H) :
    ReturnsInHanded {} Try.checked os 4 .any (Rows.diskFallsSpec.pre6 enc Try.prog Try.f4 Rows.diskFallsRow.domain false) (Rows.diskFallsSpec.post enc Try.prog Try.f4 false true false false) := by
  refine returnsInHanded_of_change_sized (C := Try.checked) own started (by kernel_rfl) Try.func4
    (ChangeSpec.witness6 (enc := enc) (C := Try.checked) false ⟨#[], #[.slice none 0 0, .slice none 0 0, .bool false], []⟩ 8 (by kernel_rfl) (by kernel_rfl) (by kernel_rfl) (by kernel_rfl)) ?_
  intro W base args ds gs before hval0 hW hcnd hsz0 _
  have hsz := hsz0
  have hval : ∀ (j : Nat) t v, Try.f4.params[j]? = some t → args[j]? = some v → Value.okWide Try.prog W .any base t v := hval0
  have hW' := hW
  obtain ⟨p, q, hA0, hV, rfl, hfz, hnd⟩ := hW
  have hA : DataW.TrodAll enc Try.prog W 0 (fun _ => true) true Try.f4.params.toList args.toList ds p := hA0
  rw [Try.params4] at hA hval hsz
  obtain ⟨v0, vs0, d0, ds0, p0, q0, hargs, rfl, rfl, h0, r0⟩ := trodAll_cons hA
  obtain ⟨v1, vs1, d1, ds1, p1, q1, rfl, rfl, rfl, h1, r1⟩ := trodAll_cons r0
  obtain ⟨v2, vs2, d2, ds2, p2, q2, rfl, rfl, rfl, h2, r2⟩ := trodAll_cons r1
  obtain ⟨rfl, rfl, rfl⟩ := trodAll_nil r2
  obtain rfl : args = #[v0, v1, v2] := by cases args; simp_all
  obtain ⟨rfl, rfl⟩ := trodVars_none hV
  have k0 := h0
  have lt0 : ∀ x ∈ p0, x.block < W.heap.size := by obtain ⟨m, hm⟩ := k0; exact DataW.trod_lt m _ _ _ hm
  have k1 := h1
  have lt1 : ∀ x ∈ p1, x.block < W.heap.size := by obtain ⟨m, hm⟩ := k1; exact DataW.trod_lt m _ _ _ hm
  have k2 := h2
  have lt2 : ∀ x ∈ p2, x.block < W.heap.size := by obtain ⟨m, hm⟩ := k2; exact DataW.trod_lt m _ _ _ hm
  have B0 := opsarg (hval 0 22 v0 rfl rfl) h0
  have B1 := keparg (hval 1 32 v1 rfl rfl) h1 hsz 1 rfl rfl
  obtain ⟨a2, rfl, rfl, rfl⟩ := open_bool Try.underlying4 (hval 2 4 v2 rfl rfl) h2
  clear hA0 hval0
  refine (walk v0 v1 a2 W  B0  B1).mono fun e W' ⟨he, bel⟩ => ?_
  subst he
  exact ⟨_, rfl, _, _, _, [], _, [], hW', trodAll_mk1 (shut_bool Try.underlying4 _), (trodAll_cons_mk (Below.trod laidOut (by kernel_rfl) (of_decide_eq_true (by kernel_rfl)) k0 bel lt0) (trodAll_cons_mk (Below.trod laidOut (by kernel_rfl) (of_decide_eq_true (by kernel_rfl)) k1 bel lt1) (trodAll_cons_mk (Below.trod laidOut (by kernel_rfl) (of_decide_eq_true (by kernel_rfl)) k2 bel lt2) trodAll_mk0))), rfl, bel.frame _, fun h => by cases h⟩

theorem over : Rows.diskFallsRow.holds Try.pinned (OpenSpec.ofChange Rows.diskFallsSpec) :=
  OpenClaim.holds_of_wide 4 Try.f4 rfl rfl rfl rfl rfl rfl rfl ⟨rfl, rfl, rfl, rfl, rfl⟩ rfl rfl rfl rfl rfl (by kernel_rfl) Try.func4 (by kernel_rfl)
    (of_decide_eq_true (by kernel_rfl)) (by unfold Func.isWrapper; first | (rw [if_pos (by decide +kernel)]; kernel_rfl) | (rw [if_neg (by decide +kernel)]; exact ⟨rfl, rfl⟩))
    (fun os started H enc _ => lifted os started H enc)
end Go.Proofs.Ytfaeieaelfjlpaa.diskFalls
namespace Go.Proofs.Ytfaeieaelfjlpaa
theorem diskFalls_holds : Rows.DiskFallsSaid := diskFalls.over
end Go.Proofs.Ytfaeieaelfjlpaa
