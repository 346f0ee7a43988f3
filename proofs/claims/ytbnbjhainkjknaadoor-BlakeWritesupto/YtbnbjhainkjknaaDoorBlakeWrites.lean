/-
  For every length of a digest, every key and all pieces that hold together at most 1048576 values the law BlakeWrites returns true, and its arguments read behind the call as they read before; the package-level table of places is as the program lays it.
-/
import Derived.Test.YtbnbjhainkjknaaDoorCards
import Derived.Test.YtbnbjhainkjknaaDoorTie
import Derived.WalkKit
import Derived.ProofKit
import Derived.OpenShut
import Derived.ShutString
import Derived.ChangeOld
import Derived.Below
import Derived.Deep.DeepHandedRow
import Derived.Lib.LaidTab
import Derived.Test.YtbnbjhainkjknaaDoorBPcs
import Derived.Test.YtbnbjhainkjknaaDoorLives
import Derived.Test.YtbnbjhainkjknaaDoorTabP
namespace Go.Proofs.YtbnbjhainkjknaaDoor.blakeWrites
open Go.ChangeShapes Go.WideShapes Go.ChangeAt Go.RowKit
set_option linter.unusedVariables false

theorem own : ownKnob Tryd.prog.godebug = none := by kernel_rfl
theorem laidOut : laidOutB Tryd.prog = true := by kernel_rfl
theorem gTab : Tryd.prog.globalNamed "casket/blake.places" = some 0 := by kernel_rfl
theorem gTabType : (Tryd.prog.globals[0]?).map (·.type) = some 58 := by kernel_rfl
theorem cellsG : Tryd.prog.cellsOf 58 = 32 := by kernel_rfl
theorem tabC {W : World} (h : laidMetH Tryd.prog Rows.blakeWritesUptoRow.laid W) (h0 : 0 < W.heap.size) : TabC W := ⟨fun j hj => tab_places h j hj, h0⟩

open Go.BigFrame
theorem grownX {w X Y : World} {v : Value} (hE : Ext w X) (hg : X.grownBy Y v.ownBlock) (hk : ∀ k, v.ownBlock = some k → w.heap.size ≤ k) : Ext w Y := Below.trans hE (below_grown (Below.size hE) hg hk)
/-- a Hash, and all bytes that it has got -/
structure PSt (w : World) (nn kl : Nat) (key : Nat → BitVec 8) (M : Nat → BitVec 8) (T c : Nat) (v : Value) (X : World) : Prop where
  hash : HashOf c nn (h0F nn kl) (catF (keyF kl key) (keyN kl) M) (keyN kl + T) X
  own : OwnB w.heap.size 5 v T (yv M) X
  z : T = 0 → v = .slice none 0 0
  ext : Ext w X
  cw : w.heap.size ≤ c
theorem PSt.step {w : World} {nn kl : Nat} {key M : Nat → BitVec 8} {T c : Nat} {v : Value} {X Y : World} (h : PSt w nn kl key M T c v X) (k : Ext X Y) : PSt w nn kl key M T c v Y := ⟨h.hash.ext k, h.own.ext k, h.z, Ext.trans h.ext k, h.cw⟩
theorem _root_.Go.Proofs.YtbnbjhainkjknaaDoor.HashOf.congr' {c sz n n' : Nat} {h0 : Nat → BitVec 64} {m m' : Nat → BitVec 8} {w : World} (h : HashOf c sz h0 m n w) (hn : n = n') (e : ∀ j, j < n' → m j = m' j) : HashOf c sz h0 m' n' w := by subst hn; exact h.congr e
theorem cat_step (ls : Nat → Nat) (bs : Nat → Nat → BitVec 8) (kl : Nat) (key : Nat → BitVec 8) (i j : Nat) : catF (catF (keyF kl key) (keyN kl) (allF ls bs i)) (keyN kl + sumL ls i) (bs i) j = catF (keyF kl key) (keyN kl) (allF ls bs (i + 1)) j := by
  show _ = catF (keyF kl key) (keyN kl) (catF (allF ls bs i) (0 + sumL ls i) (bs i)) j
  unfold catF
  by_cases h1 : j < keyN kl
  · rw [if_pos (by omega), if_pos h1, if_pos h1]
  · by_cases h2 : j < keyN kl + sumL ls i
    · rw [if_pos h2, if_neg h1, if_neg h1, if_pos (by omega)]
    · rw [if_neg h2, if_neg h1, if_neg (by omega), show j - (keyN kl + sumL ls i) = j - keyN kl - (0 + sumL ls i) by omega]
theorem sumL_le (ls : Nat → Nat) (i n : Nat) (h : i + 1 ≤ n) : sumL ls (i + 1) ≤ sumL ls n := sumL_mono ls (i + 1) n h
set_option maxRecDepth 20000 in
set_option maxHeartbeats 8000000 in
theorem good (nn kl : Nat) (hn1 : 1 ≤ nn) (hn2 : nn ≤ 64) (hkl : kl ≤ 64) (o0 : Option Addr) (c0 : Nat) (key : Nat → BitVec 8) (ol : Option Addr) (n cap : Nat) (us : Nat → Value) (ls : Nat → Nat) (bs : Nat → Nat → BitVec 8) (w : World) (hK : Hid (BV (.slice o0 kl c0) kl key w))
    (hU : Hid (∀ i, i < n → (∃ ab ao, ol = some ⟨ab, ao, none⟩ ∧ w.cell? ⟨ab, ao + i, none⟩ = some (us i)) ∧ PV (us i) (ls i) (bs i) w)) (hT : Hid (sumL ls n ≤ 1048576)) (hn : n ≤ 1048576) (hC : Hid (TabC w)) :
    Calls Tryd.prog 5 #[.int .i64 (nn : Int), .slice o0 kl c0, .slice ol n cap] w fun e w' => e = .returned (.bool true) ∧ Below w.heap.size w w' := by
  have hn3 : (n : Int) ≤ 1048576 := by omega
  have nn1 : (1 : Int) ≤ (nn : Int) := by omega
  have nn2 : (nn : Int) ≤ 64 := by omega
  have kl2 : (kl : Int) ≤ 64 := by omega
  go_enter Tryd.func5, Tryd.ntmps5
  go_upto_region 1 with (fail)
  refine wp_region_lit ?_
  refine wpList_to rfl (.slice (some ⟨w.heap.size, 0, none⟩) 0 0) (w.alloc (.cells #[] 5)) (by simp [go_sem]) ?_
  simp only [Act.put, List.setIfInBounds_toArray, List.set_cons_zero, List.set_cons_succ]
  refine wpList_run rfl (.slice o0 kl c0) (by simp [go_sem]) ?_
  simp only [Act.put, List.setIfInBounds_toArray, List.set_cons_zero, List.set_cons_succ]
  have hE1 : Ext w (w.alloc (.cells #[] 5)) := (Below.refl _ _).alloc (Nat.le_refl _) _
  have HO1 := own_empty w w.heap.size 5 (yv key) (Nat.le_refl _)
  refine wpList_growV (n := 0) (base := w.heap.size) (g := yv key) elem22 rfl (.tmp 18) (.tmp 19) rfl rfl HO1 _ kl key (yv key) rfl (hK.out.ext hE1) (fun j hj => rfl) (fun j hj => by rw [Nat.zero_add]) (by omega) (by simp) ?_
  intro vo w1 hO2 hg2
  rw [Nat.zero_add] at hO2
  have HE2 := hideit (grownX hE1 hg2 (fun k hk => (HO1.lt k hk).1))
  obtain ⟨oo, co, rfl⟩ := hO2.bv.form
  have HO2 := hideit hO2
  clear hO2 hg2 HO1 hE1
  simp only [Act.put, List.setIfInBounds_toArray, List.set_cons_zero, List.set_cons_succ]
  have hnew := hideit (new_any nn kl hn1 hn2 hkl _ key w1 HO2.out.bv)
  go_upto_region 3 with (go_at_call 16; refine hnew.out.mono ?_; rintro e w2 ⟨c1, hc1, rfl, hM, hE3⟩; have HM := hideit hM; have HE3 := hideit (Ext.trans HE2.out hE3); have HO3 := hideit (HO2.out.ext hE3); have hlt3 := HO2.out.lt; clear hM hE3 hnew HO2)
  go_upto_region 7 with (go_at_call 11; refine (lives_any _ (hC.out.ext HE3.out)).mono ?_; rintro e w3 ⟨rfl, hw3⟩; have HE4 := hideit (Ext.trans HE3.out hw3); have HM4 := hideit (HM.out.ext hw3); have HO4 := hideit (HO3.out.ext hw3); clear hw3 HE3 HM HO3)
  have hws : w.heap.size ≤ w1.heap.size := Below.size HE2.out
  have hob : Hid (∀ k, (Value.slice oo kl co).ownBlock = some k → w.heap.size ≤ k ∧ k ≠ c1) := fun k hk => by have := hlt3 k hk; omega
  have hcw1 : w.heap.size ≤ c1 := by omega
  clear hlt3
  go_wp2
  go_loopw [10] (fun iv wr => ∃ i : Nat, i ≤ kl ∧ iv = .int .i64 (i : Int) ∧ (∃ gg : Nat → BitVec 8, OwnB w.heap.size 5 (.slice oo kl co) kl (yv gg) wr) ∧ HashOf c1 nn (h0F nn kl) (keyF kl key) (keyN kl) wr ∧ Ext w wr) (fun iv _ => kl - (intOf iv).toNat)
  case atStart => exact ⟨0, by omega, rfl, ⟨_, HO4.out⟩, HM4.out, HE4.out⟩
  case round =>
    clear HO4 HM4 HE4
    obtain ⟨i, hi, rfl, ⟨gg, hO⟩, hM, hE⟩ := hrel
    have HO := hideit hO
    have HM := hideit hM
    have HE := hideit hE
    clear hO hM hE
    by_cases hlt : i < kl
    · have i0 : (0 : Int) ≤ (i : Int) := by omega
      have i1 : (i : Int) < (kl : Int) := by omega
      obtain ⟨g, cp9, hv, hg1, hg2, hg3, hRow⟩ := HO.out.lies (by omega)
      injection hv with e1 e2 e3
      subst e1
      have hgb := hob.out g rfl
      have ec := hRow.1 i hlt
      have gc := hRow.2.1 i hlt
      simp only [yv] at ec
      clear hRow hg1 hg2 hg3 e2 e3
      obtain ⟨x, hx⟩ : ∃ x : BitVec 8, (((gg i).toNat : Int) + 1) % 256 = (x.toNat : Int) := ⟨BitVec.ofNat 8 ((gg i).toNat + 1), by rw [BitVec.toNat_ofNat]; omega⟩
      go_wp2
      refine ⟨⟨i + 1, by omega, by go_num, ⟨fun j => if j = i then x else gg j, (HO.out.set (b := g) rfl i hlt (.int .u8 (x.toNat : Int))).congr fun j _ => ?_⟩, HM.out.but (but_setCell _ g i _) (by omega), HE.out.setCell hgb.1 _⟩, by simp [intOf]; omega⟩
      simp only [yv]
      split <;> rfl
    · have i1 : ¬ (i : Int) < (kl : Int) := by omega
      have HS0 : PSt w nn kl key (allF ls bs 0) (sumL ls 0) c1 (.slice none 0 0) wr := ⟨HM.out.congr fun j hj => by unfold catF; rw [if_pos hj], own_nil _ _ _ _, fun _ => rfl, HE.out, hcw1⟩
      replace HS0 := hideit HS0
      clear HM HE HO hob
      go_wp2
      go_loopw [8, 11, 12] (fun hp v iv wr => ∃ i : Nat, i ≤ n ∧ iv = .int .i64 (i : Int) ∧ ∃ c : Nat, hp = .pointer (some ⟨c, 0, none⟩) ∧ PSt w nn kl key (allF ls bs i) (sumL ls i) c v wr) (fun _ _ iv _ => n - (intOf iv).toNat)
      case atStart => exact ⟨0, by omega, rfl, c1, rfl, HS0.out⟩
      case round =>
        clear HS0
        obtain ⟨i, hi, rfl, c, rfl, hS⟩ := hrel
        obtain ⟨oa0, cp0, rfl⟩ := hS.own.bv.form
        have HS0 := hideit hS
        clear hS
        have i0 : (0 : Int) ≤ (i : Int) := by omega
        by_cases hlt : i < n
        · have i1 : (i : Int) < (n : Int) := by omega
          have hTi := hideit (sumL_le ls i n (by omega))
          obtain ⟨⟨ab, ao, hol, hcl⟩, hPi⟩ := hU.out i hlt
          subst hol
          by_cases h3 : i % 3 = 1
          · have m3 : (i : Int) % 3 = 1 := by omega
            have hfk := hideit (fork_any c nn _ _ _ wr HS0.out.hash)
            go_upto_region 21 with (go_at_call 17; refine hfk.out.mono ?_; rintro e w2 ⟨d, hd, rfl, hH2, hE2⟩; replace hH2 := hideit hH2; replace hE2 := hideit hE2; clear hfk)
            obtain ⟨x0, hcv0, hB0, hE0⟩ := constB w2 #[.int .u8 111, .int .u8 116, .int .u8 104, .int .u8 101, .int .u8 114] 5 (bT [111, 116, 104, 101, 114]) (fun j hj => by
              rcases (by omega : j = 0 ∨ j = 1 ∨ j = 2 ∨ j = 3 ∨ j = 4) with rfl | rfl | rfl | rfl | rfl <;> rfl)
            have hcx := HS0.out.hash.lt
            have hsz2 := Below.size hE2.out
            have hL0 : LieAt ⟨w2.heap.size, 0, none⟩ 5 (yv (bT [111, 116, 104, 101, 114])) x0 := by
              rcases hB0 with ⟨_, h0⟩ | ⟨a, cc, h1, _, h2⟩
              · omega
              · injection h1 with h1
                injection h1 with h1
                rw [h1]
                exact h2
            have hEx := Ext.trans hE2.out hE0
            have hwr0 := write_any c nn _ 5 5 _ _ (bT [111, 116, 104, 101, 114]) ⟨w2.heap.size, 0, none⟩ x0 (HS0.out.hash.ext hEx) (hC.out.ext (Ext.trans HS0.out.ext hEx)) hL0 (Nat.le_refl _) (by show w2.heap.size ≠ c; omega) (by have := HS0.out.cw; have := hC.out.2; omega)
            refine wp_region_lit ?_
            refine wpList_run rfl (.pointer (some ⟨c, 0, none⟩)) (by simp [go_sem]) ?_
            simp only [Act.put, List.setIfInBounds_toArray, List.set_cons_zero, List.set_cons_succ]
            refine wpList_to rfl (.slice (some ⟨w2.heap.size, 0, none⟩) 5 5) (w2.alloc (.cells #[.int .u8 111, .int .u8 116, .int .u8 104, .int .u8 101, .int .u8 114] 5)) (by simp [go_sem]) ?_
            simp only [Act.put, List.setIfInBounds_toArray, List.set_cons_zero, List.set_cons_succ]
            refine wpList_to rfl (.slice (some ⟨w2.heap.size, 0, none⟩) 5 5) x0 (by simp [go_sem, hcv0]) ?_
            simp only [Act.put, List.setIfInBounds_toArray, List.set_cons_zero, List.set_cons_succ]
            refine wpList_call rfl (by simp [go_sem]) (hwr0.mono ?_)
            rintro e x1 ⟨rfl, _, hB1⟩
            refine ⟨_, rfl, ?_⟩
            have HS1 : PSt w nn kl key (allF ls bs i) (sumL ls i) d (.slice oa0 (sumL ls i) cp0) x1 :=
              ⟨(hH2.out.ext hE0).but hB1 (by omega), ((HS0.out.own.ext hEx).but hB1 (own_ne HS0.out.own HS0.out.z HS0.out.hash)), HS0.out.z, Ext.but (Ext.trans HS0.out.ext hEx) hB1 HS0.out.cw, by have := HS0.out.cw; omega⟩
            clear HS0 hwr0 hcv0 hB0 hL0 hE0 hEx hB1 hH2 hE2 hcx hsz2
            have HS0 := hideit HS1
            clear HS1 hd
            obtain ⟨c, hcc⟩ : ∃ c, c = d := ⟨_, rfl⟩
            rw [← hcc] at HS0 ⊢
            clear hcc
            simp only [Act.put, List.setIfInBounds_toArray, List.set_cons_zero, List.set_cons_succ]
            have hcl2 := (Below.cell HS0.out.ext (p := ⟨ab, ao + i, none⟩) (World.block_lt_of_cell? _ _ hcl)).trans hcl
            have hP2 := hideit (hPi.ext HS0.out.ext)
            have hwr := hideit (writeP c nn _ (ls i) _ _ (bs i) (us i) w x1 hPi HS0.out.ext HS0.out.hash (hC.out.ext HS0.out.ext) HS0.out.cw (by have := HS0.out.cw; have := hC.out.2; omega))
            go_upto_region 24 with (go_at_call 18; refine hwr.out.mono ?_; rintro e w3 ⟨rfl, hH3, hB3⟩; replace hH3 := hideit hH3; replace hB3 := hideit hB3)
            have hO3 := hideit (HS0.out.own.but hB3.out (own_ne HS0.out.own HS0.out.z HS0.out.hash))
            have hE3 := hideit (Ext.but HS0.out.ext hB3.out HS0.out.cw)
            have hP3 := hideit (hPi.ext hE3.out)
            have hcl3 := (Below.cell hE3.out (p := ⟨ab, ao + i, none⟩) (World.block_lt_of_cell? _ _ hcl)).trans hcl
            have hz3 := hideit HS0.out.z
            have hcw := hideit HS0.out.cw
            clear hwr hB3 HS0 hcl2 hP2
            refine wp_region_lit ?_
            refine wpList_run rfl (.slice oa0 (sumL ls i) cp0) (by simp [go_sem]) ?_
            simp only [Act.put, List.setIfInBounds_toArray, List.set_cons_zero, List.set_cons_succ]
            refine wpList_run rfl (.slice (some ⟨ab, ao, none⟩) n cap) (by simp [go_sem]) ?_
            simp only [Act.put, List.setIfInBounds_toArray, List.set_cons_zero, List.set_cons_succ]
            refine wpList_run rfl (.int .i64 (i : Int)) (by simp [go_sem]) ?_
            simp only [Act.put, List.setIfInBounds_toArray, List.set_cons_zero, List.set_cons_succ]
            refine wpList_run rfl (.pointer (some ⟨ab, ao + i, none⟩)) (by simp [go_sem, i1]) ?_
            simp only [Act.put, List.setIfInBounds_toArray, List.set_cons_zero, List.set_cons_succ]
            refine wpList_run rfl (us i) (by simp [go_sem, hcl3]) ?_
            simp only [Act.put, List.setIfInBounds_toArray, List.set_cons_zero, List.set_cons_succ]
            refine growP (n := sumL ls i) (m := ls i) (base := w.heap.size) rfl (.tmp 88) (.tmp 92) rfl rfl hO3.out rfl hP3.out (by have := hTi.out; have := hT.out; simp only [sumL] at *; omega) (Below.size hE3.out) ?_
            intro v4 X0 ho4 hg4 hz4
            have HS : PSt w nn kl key (allF ls bs (i + 1)) (sumL ls (i + 1)) c v4 X0 := by
              refine ⟨(hH3.out.grown hg4 (fun h => own_ne hO3.out hz3.out hH3.out h.symm)).congr' ?_ ?_, ?_, fun h => hz4.2 ⟨hz3.out (by simp only [sumL] at h; omega), by simp only [sumL] at h; omega⟩, grownX hE3.out hg4 (fun k hk => (hO3.out.lt k hk).1), hcw.out⟩
              · simp only [sumL]; omega
              · intro j hj
                exact cat_step ls bs kl key i j
              · refine ho4.congr fun j hj => ?_
                show yv (catF (allF ls bs i) (sumL ls i) (bs i)) j = yv (catF (allF ls bs i) (0 + sumL ls i) (bs i)) j
                rw [Nat.zero_add]
            obtain ⟨T, hT1⟩ : ∃ T, T = sumL ls (i + 1) := ⟨_, rfl⟩
            obtain ⟨Mi, hM1⟩ : ∃ Mi, Mi = allF ls bs (i + 1) := ⟨_, rfl⟩
            rw [← hT1, ← hM1] at HS
            have hTT : T ≤ 1048576 := by have := hTi.out; have := hT.out; omega
            replace hT1 := hideit hT1
            replace hM1 := hideit hM1
            obtain ⟨oa, cp, rfl⟩ : ∃ oa cp, v4 = .slice oa T cp := by obtain ⟨a, b, h⟩ := HS.own.bv.form; exact ⟨a, b, h⟩
            replace HS := hideit HS
            clear ho4 hg4 hz4 hH3 hO3 hE3 hP3 hcl3 hz3 hcw
            simp only [Act.put, List.setIfInBounds_toArray, List.set_cons_zero, List.set_cons_succ]
            have hsr := rsum_any nn kl T hn1 hn2 hkl (.slice o0 kl c0) (.slice oa T cp) key Mi X0 (hK.out.ext HS.out.ext) HS.out.own.bv (by omega)
            obtain ⟨G, hG⟩ : ∃ G, G = blakeF (h0F nn kl) (catF (keyF kl key) (keyN kl) Mi) (keyN kl + T) := ⟨_, rfl⟩
            rw [← hG] at hsr
            replace hsr := hideit hsr
            have hsh : Hid (∀ X, Ext X0 X → Calls Tryd.prog 19 #[.pointer (some ⟨c, 0, none⟩)] X fun e w' => ∃ v', e = .returned v' ∧ OwnB X.heap.size 5 v' nn (yv G) w' ∧ Ext X w') := fun X hX => by
              rw [hG]
              exact sum_any c nn _ _ _ X (HS.out.hash.ext hX) (hC.out.ext (Ext.trans HS.out.ext hX)) hn2
            obtain ⟨sx, hsx⟩ : ∃ sx, sx = bstr nn (fun j => ((G j).toNat : Int)) := ⟨_, rfl⟩
            have hcv : ∀ v X, BV v nn G X → (convert 22 9 v).run Tryd.prog X = .ok (.string sx) X := fun v X h => by rw [hsx]; exact convV _ _ _ _ h
            clear hG hsx
            go_upto_region 26 with (go_at_call 10; refine hsr.out.mono ?_; rintro e w5 ⟨v5, rfl, hO5, hE5⟩; replace hO5 := hideit hO5; replace hE5 := hideit hE5; obtain ⟨o5, c5, rfl⟩ := hO5.out.bv.form)
            have hrw : Ext w5 w5.drew := (Ext.refl w5).draw
            refine wp_region_lad (fun X => Ext w5 X) [(false, 0), (false, 3), (false, 4), (true, 1), (false, 2), (false, 5)] (by kernel_rfl) (by kernel_rfl) (by decide +kernel) (by decide +kernel) (by decide +kernel) (by decide +kernel) (hrw) ?_
            refine wpX_f _ (.pointer (some ⟨c, 0, none⟩)) rfl rfl (fun X _ => by simp [go_sem]) ?_
            simp only [List.getElem_toArray, List.getElem_cons_zero, Act.put, List.setIfInBounds_toArray, List.set_cons_zero, List.set_cons_succ]
            refine wpX_f _ (.slice o5 nn c5) rfl rfl (fun X _ => by simp [go_sem]) ?_
            simp only [List.getElem_toArray, List.getElem_cons_zero, List.getElem_cons_succ, Act.put, List.setIfInBounds_toArray, List.set_cons_zero, List.set_cons_succ]
            refine wpX_f _ (.string sx) rfl rfl (fun X hX => by simp [go_sem, hcv _ _ (hO5.out.bv.ext hX)]) ?_
            simp only [List.getElem_toArray, List.getElem_cons_zero, List.getElem_cons_succ, Act.put, List.setIfInBounds_toArray, List.set_cons_zero, List.set_cons_succ]
            refine wpX_call _ rfl rfl (by simp [go_sem]) ((hsh.out w5.drew (Ext.trans hE5.out hrw)).mono ?_)
            rintro e w6 ⟨v6, rfl, hO6, hE6⟩
            obtain ⟨o6, c6, rfl⟩ := hO6.bv.form
            refine ⟨_, rfl, fun X => Ext w6 X, fun X hX => Ext.trans (Ext.trans hrw hE6) hX, Ext.refl _, ?_⟩
            simp only [List.getElem_toArray, List.getElem_cons_zero, List.getElem_cons_succ, Act.put, List.setIfInBounds_toArray, List.set_cons_zero, List.set_cons_succ]
            refine wpX_f _ (.string sx) rfl rfl (fun X hX => by simp [go_sem, hcv _ _ (hO6.bv.ext hX)]) ?_
            simp only [List.getElem_toArray, List.getElem_cons_zero, List.getElem_cons_succ, Act.put, List.setIfInBounds_toArray, List.set_cons_zero, List.set_cons_succ]
            refine wpX_f _ (.bool false) rfl rfl (fun X _ => by simp [go_sem]) ?_
            simp only [List.getElem_toArray, List.getElem_cons_zero, List.getElem_cons_succ, Act.put, List.setIfInBounds_toArray, List.set_cons_zero, List.set_cons_succ]
            refine wpX_nil ?_
            have hS9 := hideit (HS.out.step (Ext.trans hE5.out (Ext.trans hrw hE6)))
            clear hcv hrw hE6 hO6 hO5 hE5 hsr hsh HS
            go_wp2
            exact ⟨⟨i + 1, by omega, by go_num, c, rfl, by rw [← hT1.out, ← hM1.out]; exact hS9.out⟩, by simp [intOf]; omega⟩
          · have m3 : ¬ (i : Int) % 3 = 1 := by omega
            obtain ⟨x1, hx1⟩ : ∃ x1, x1 = wr := ⟨_, rfl⟩
            rw [← hx1] at HS0 ⊢
            clear hx1
            have hcl2 := (Below.cell HS0.out.ext (p := ⟨ab, ao + i, none⟩) (World.block_lt_of_cell? _ _ hcl)).trans hcl
            have hP2 := hideit (hPi.ext HS0.out.ext)
            have hwr := hideit (writeP c nn _ (ls i) _ _ (bs i) (us i) w x1 hPi HS0.out.ext HS0.out.hash (hC.out.ext HS0.out.ext) HS0.out.cw (by have := HS0.out.cw; have := hC.out.2; omega))
            go_upto_region 24 with (go_at_call 18; refine hwr.out.mono ?_; rintro e w3 ⟨rfl, hH3, hB3⟩; replace hH3 := hideit hH3; replace hB3 := hideit hB3)
            have hO3 := hideit (HS0.out.own.but hB3.out (own_ne HS0.out.own HS0.out.z HS0.out.hash))
            have hE3 := hideit (Ext.but HS0.out.ext hB3.out HS0.out.cw)
            have hP3 := hideit (hPi.ext hE3.out)
            have hcl3 := (Below.cell hE3.out (p := ⟨ab, ao + i, none⟩) (World.block_lt_of_cell? _ _ hcl)).trans hcl
            have hz3 := hideit HS0.out.z
            have hcw := hideit HS0.out.cw
            clear hwr hB3 HS0 hcl2 hP2
            refine wp_region_lit ?_
            refine wpList_run rfl (.slice oa0 (sumL ls i) cp0) (by simp [go_sem]) ?_
            simp only [Act.put, List.setIfInBounds_toArray, List.set_cons_zero, List.set_cons_succ]
            refine wpList_run rfl (.slice (some ⟨ab, ao, none⟩) n cap) (by simp [go_sem]) ?_
            simp only [Act.put, List.setIfInBounds_toArray, List.set_cons_zero, List.set_cons_succ]
            refine wpList_run rfl (.int .i64 (i : Int)) (by simp [go_sem]) ?_
            simp only [Act.put, List.setIfInBounds_toArray, List.set_cons_zero, List.set_cons_succ]
            refine wpList_run rfl (.pointer (some ⟨ab, ao + i, none⟩)) (by simp [go_sem, i1]) ?_
            simp only [Act.put, List.setIfInBounds_toArray, List.set_cons_zero, List.set_cons_succ]
            refine wpList_run rfl (us i) (by simp [go_sem, hcl3]) ?_
            simp only [Act.put, List.setIfInBounds_toArray, List.set_cons_zero, List.set_cons_succ]
            refine growP (n := sumL ls i) (m := ls i) (base := w.heap.size) rfl (.tmp 88) (.tmp 92) rfl rfl hO3.out rfl hP3.out (by have := hTi.out; have := hT.out; simp only [sumL] at *; omega) (Below.size hE3.out) ?_
            intro v4 X0 ho4 hg4 hz4
            have HS : PSt w nn kl key (allF ls bs (i + 1)) (sumL ls (i + 1)) c v4 X0 := by
              refine ⟨(hH3.out.grown hg4 (fun h => own_ne hO3.out hz3.out hH3.out h.symm)).congr' ?_ ?_, ?_, fun h => hz4.2 ⟨hz3.out (by simp only [sumL] at h; omega), by simp only [sumL] at h; omega⟩, grownX hE3.out hg4 (fun k hk => (hO3.out.lt k hk).1), hcw.out⟩
              · simp only [sumL]; omega
              · intro j hj
                exact cat_step ls bs kl key i j
              · refine ho4.congr fun j hj => ?_
                show yv (catF (allF ls bs i) (sumL ls i) (bs i)) j = yv (catF (allF ls bs i) (0 + sumL ls i) (bs i)) j
                rw [Nat.zero_add]
            obtain ⟨T, hT1⟩ : ∃ T, T = sumL ls (i + 1) := ⟨_, rfl⟩
            obtain ⟨Mi, hM1⟩ : ∃ Mi, Mi = allF ls bs (i + 1) := ⟨_, rfl⟩
            rw [← hT1, ← hM1] at HS
            have hTT : T ≤ 1048576 := by have := hTi.out; have := hT.out; omega
            replace hT1 := hideit hT1
            replace hM1 := hideit hM1
            obtain ⟨oa, cp, rfl⟩ : ∃ oa cp, v4 = .slice oa T cp := by obtain ⟨a, b, h⟩ := HS.own.bv.form; exact ⟨a, b, h⟩
            replace HS := hideit HS
            clear ho4 hg4 hz4 hH3 hO3 hE3 hP3 hcl3 hz3 hcw
            simp only [Act.put, List.setIfInBounds_toArray, List.set_cons_zero, List.set_cons_succ]
            have hsr := rsum_any nn kl T hn1 hn2 hkl (.slice o0 kl c0) (.slice oa T cp) key Mi X0 (hK.out.ext HS.out.ext) HS.out.own.bv (by omega)
            obtain ⟨G, hG⟩ : ∃ G, G = blakeF (h0F nn kl) (catF (keyF kl key) (keyN kl) Mi) (keyN kl + T) := ⟨_, rfl⟩
            rw [← hG] at hsr
            replace hsr := hideit hsr
            have hsh : Hid (∀ X, Ext X0 X → Calls Tryd.prog 19 #[.pointer (some ⟨c, 0, none⟩)] X fun e w' => ∃ v', e = .returned v' ∧ OwnB X.heap.size 5 v' nn (yv G) w' ∧ Ext X w') := fun X hX => by
              rw [hG]
              exact sum_any c nn _ _ _ X (HS.out.hash.ext hX) (hC.out.ext (Ext.trans HS.out.ext hX)) hn2
            obtain ⟨sx, hsx⟩ : ∃ sx, sx = bstr nn (fun j => ((G j).toNat : Int)) := ⟨_, rfl⟩
            have hcv : ∀ v X, BV v nn G X → (convert 22 9 v).run Tryd.prog X = .ok (.string sx) X := fun v X h => by rw [hsx]; exact convV _ _ _ _ h
            clear hG hsx
            go_upto_region 26 with (go_at_call 10; refine hsr.out.mono ?_; rintro e w5 ⟨v5, rfl, hO5, hE5⟩; replace hO5 := hideit hO5; replace hE5 := hideit hE5; obtain ⟨o5, c5, rfl⟩ := hO5.out.bv.form)
            have hrw : Ext w5 w5.drew := (Ext.refl w5).draw
            refine wp_region_lad (fun X => Ext w5 X) [(false, 0), (false, 3), (false, 4), (true, 1), (false, 2), (false, 5)] (by kernel_rfl) (by kernel_rfl) (by decide +kernel) (by decide +kernel) (by decide +kernel) (by decide +kernel) (hrw) ?_
            refine wpX_f _ (.pointer (some ⟨c, 0, none⟩)) rfl rfl (fun X _ => by simp [go_sem]) ?_
            simp only [List.getElem_toArray, List.getElem_cons_zero, Act.put, List.setIfInBounds_toArray, List.set_cons_zero, List.set_cons_succ]
            refine wpX_f _ (.slice o5 nn c5) rfl rfl (fun X _ => by simp [go_sem]) ?_
            simp only [List.getElem_toArray, List.getElem_cons_zero, List.getElem_cons_succ, Act.put, List.setIfInBounds_toArray, List.set_cons_zero, List.set_cons_succ]
            refine wpX_f _ (.string sx) rfl rfl (fun X hX => by simp [go_sem, hcv _ _ (hO5.out.bv.ext hX)]) ?_
            simp only [List.getElem_toArray, List.getElem_cons_zero, List.getElem_cons_succ, Act.put, List.setIfInBounds_toArray, List.set_cons_zero, List.set_cons_succ]
            refine wpX_call _ rfl rfl (by simp [go_sem]) ((hsh.out w5.drew (Ext.trans hE5.out hrw)).mono ?_)
            rintro e w6 ⟨v6, rfl, hO6, hE6⟩
            obtain ⟨o6, c6, rfl⟩ := hO6.bv.form
            refine ⟨_, rfl, fun X => Ext w6 X, fun X hX => Ext.trans (Ext.trans hrw hE6) hX, Ext.refl _, ?_⟩
            simp only [List.getElem_toArray, List.getElem_cons_zero, List.getElem_cons_succ, Act.put, List.setIfInBounds_toArray, List.set_cons_zero, List.set_cons_succ]
            refine wpX_f _ (.string sx) rfl rfl (fun X hX => by simp [go_sem, hcv _ _ (hO6.bv.ext hX)]) ?_
            simp only [List.getElem_toArray, List.getElem_cons_zero, List.getElem_cons_succ, Act.put, List.setIfInBounds_toArray, List.set_cons_zero, List.set_cons_succ]
            refine wpX_f _ (.bool false) rfl rfl (fun X _ => by simp [go_sem]) ?_
            simp only [List.getElem_toArray, List.getElem_cons_zero, List.getElem_cons_succ, Act.put, List.setIfInBounds_toArray, List.set_cons_zero, List.set_cons_succ]
            refine wpX_nil ?_
            have hS9 := hideit (HS.out.step (Ext.trans hE5.out (Ext.trans hrw hE6)))
            clear hcv hrw hE6 hO6 hO5 hE5 hsr hsh HS
            go_wp2
            exact ⟨⟨i + 1, by omega, by go_num, c, rfl, by rw [← hT1.out, ← hM1.out]; exact hS9.out⟩, by simp [intOf]; omega⟩
        · have i1 : ¬ (i : Int) < (n : Int) := by omega
          obtain ⟨T, hT1⟩ : ∃ T, T = sumL ls i := ⟨_, rfl⟩
          obtain ⟨Mi, hM1⟩ : ∃ Mi, Mi = allF ls bs i := ⟨_, rfl⟩
          have hTT : T ≤ 1048576 := by
            have h1 := hT.out
            have h2 : i = n := by omega
            rw [hT1, h2]
            exact h1
          rw [← hT1, ← hM1] at HS0
          rw [← hT1]
          obtain ⟨oa, hoa⟩ : ∃ oa, oa = oa0 := ⟨_, rfl⟩
          obtain ⟨cp, hcp⟩ : ∃ cp, cp = cp0 := ⟨_, rfl⟩
          obtain ⟨X0, hX0⟩ : ∃ X0, X0 = wr := ⟨_, rfl⟩
          rw [← hoa, ← hcp, ← hX0] at HS0
          rw [← hoa, ← hcp, ← hX0]
          have HS := HS0
          clear hT1 hM1 hoa hcp hX0 HS0
          have hsr := rsum_any nn kl T hn1 hn2 hkl (.slice o0 kl c0) (.slice oa T cp) key Mi X0 (hK.out.ext HS.out.ext) HS.out.own.bv (by omega)
          obtain ⟨G, hG⟩ : ∃ G, G = blakeF (h0F nn kl) (catF (keyF kl key) (keyN kl) Mi) (keyN kl + T) := ⟨_, rfl⟩
          rw [← hG] at hsr
          replace hsr := hideit hsr
          have hsh : Hid (∀ X, Ext X0 X → Calls Tryd.prog 19 #[.pointer (some ⟨c, 0, none⟩)] X fun e w' => ∃ v', e = .returned v' ∧ OwnB X.heap.size 5 v' nn (yv G) w' ∧ Ext X w') := fun X hX => by
            rw [hG]
            exact sum_any c nn _ _ _ X (HS.out.hash.ext hX) (hC.out.ext (Ext.trans HS.out.ext hX)) hn2
          obtain ⟨sx, hsx⟩ : ∃ sx, sx = bstr nn (fun j => ((G j).toNat : Int)) := ⟨_, rfl⟩
          have hcv : ∀ v X, BV v nn G X → (convert 22 9 v).run Tryd.prog X = .ok (.string sx) X := fun v X h => by rw [hsx]; exact convV _ _ _ _ h
          clear hG hsx
          go_upto_region 29 with (go_at_call 10; refine hsr.out.mono ?_; rintro e w5 ⟨v5, rfl, hO5, hE5⟩; replace hO5 := hideit hO5; replace hE5 := hideit hE5; obtain ⟨o5, c5, rfl⟩ := hO5.out.bv.form)
          have hrw : Ext w5 w5.drew := (Ext.refl w5).draw
          refine wp_region_lad (fun X => Ext w5 X) [(false, 0), (false, 3), (false, 4), (true, 1), (false, 2), (false, 5), (false, 6)] (by kernel_rfl) (by kernel_rfl) (by decide +kernel) (by decide +kernel) (by decide +kernel) (by decide +kernel) (hrw) ?_
          refine wpX_f _ (.pointer (some ⟨c, 0, none⟩)) rfl rfl (fun X _ => by simp [go_sem]) ?_
          simp only [List.getElem_toArray, List.getElem_cons_zero, Act.put, List.setIfInBounds_toArray, List.set_cons_zero, List.set_cons_succ]
          refine wpX_f _ (.slice o5 nn c5) rfl rfl (fun X _ => by simp [go_sem]) ?_
          simp only [List.getElem_toArray, List.getElem_cons_zero, List.getElem_cons_succ, Act.put, List.setIfInBounds_toArray, List.set_cons_zero, List.set_cons_succ]
          refine wpX_f _ (.string sx) rfl rfl (fun X hX => by simp [go_sem, hcv _ _ (hO5.out.bv.ext hX)]) ?_
          simp only [List.getElem_toArray, List.getElem_cons_zero, List.getElem_cons_succ, Act.put, List.setIfInBounds_toArray, List.set_cons_zero, List.set_cons_succ]
          refine wpX_call _ rfl rfl (by simp [go_sem]) ((hsh.out w5.drew (Ext.trans hE5.out hrw)).mono ?_)
          rintro e w6 ⟨v6, rfl, hO6, hE6⟩
          obtain ⟨o6, c6, rfl⟩ := hO6.bv.form
          refine ⟨_, rfl, fun X => Ext w6 X, fun X hX => Ext.trans (Ext.trans hrw hE6) hX, Ext.refl _, ?_⟩
          simp only [List.getElem_toArray, List.getElem_cons_zero, List.getElem_cons_succ, Act.put, List.setIfInBounds_toArray, List.set_cons_zero, List.set_cons_succ]
          refine wpX_f _ (.string sx) rfl rfl (fun X hX => by simp [go_sem, hcv _ _ (hO6.bv.ext hX)]) ?_
          simp only [List.getElem_toArray, List.getElem_cons_zero, List.getElem_cons_succ, Act.put, List.setIfInBounds_toArray, List.set_cons_zero, List.set_cons_succ]
          refine wpX_f _ (.bool true) rfl rfl (fun X _ => by simp [go_sem]) ?_
          simp only [List.getElem_toArray, List.getElem_cons_zero, List.getElem_cons_succ, Act.put, List.setIfInBounds_toArray, List.set_cons_zero, List.set_cons_succ]
          refine wpX_f _ (.bool true) rfl rfl (fun X _ => by simp [go_sem]) ?_
          simp only [List.getElem_toArray, List.getElem_cons_zero, List.getElem_cons_succ, Act.put, List.setIfInBounds_toArray, List.set_cons_zero, List.set_cons_succ]
          refine wpX_nil ?_
          have hF := hideit (Ext.trans HS.out.ext (Ext.trans hE5.out (Ext.trans hrw hE6)))
          clear hcv hrw hE6 hO6 hO5 hE5 hsr hsh
          go_wp2
          go_ret
          exact ⟨rfl, hF.out⟩
set_option maxRecDepth 20000 in
set_option maxHeartbeats 2000000 in
theorem bad (z : Int) (kl : Nat) (hz : z < 1 ∨ 64 < z ∨ 64 < kl) (hkl : kl ≤ 1048576) (o0 : Option Addr) (c0 : Nat) (key : Nat → BitVec 8) (v2 : Value) (w : World) (hK : Hid (BV (.slice o0 kl c0) kl key w)) (hC : Hid (TabC w)) :
    Calls Tryd.prog 5 #[.int .i64 z, .slice o0 kl c0, v2] w fun e w' => e = .returned (.bool true) ∧ Below w.heap.size w w' := by
  have hnb := fun (oa : Option Addr) (cp : Nat) (X : World) => hideit (new_bad z oa kl cp hz X)
  go_enter Tryd.func5, Tryd.ntmps5
  go_upto_region 1 with (fail)
  refine wp_region_lit ?_
  refine wpList_to rfl (.slice (some ⟨w.heap.size, 0, none⟩) 0 0) (w.alloc (.cells #[] 5)) (by simp [go_sem]) ?_
  simp only [Act.put, List.setIfInBounds_toArray, List.set_cons_zero, List.set_cons_succ]
  refine wpList_run rfl (.slice o0 kl c0) (by simp [go_sem]) ?_
  simp only [Act.put, List.setIfInBounds_toArray, List.set_cons_zero, List.set_cons_succ]
  have hE1 : Ext w (w.alloc (.cells #[] 5)) := (Below.refl _ _).alloc (Nat.le_refl _) _
  have HO1 := own_empty w w.heap.size 5 (yv key) (Nat.le_refl _)
  refine wpList_growV (n := 0) (base := w.heap.size) (g := yv key) elem22 rfl (.tmp 18) (.tmp 19) rfl rfl HO1 _ kl key (yv key) rfl (hK.out.ext hE1) (fun j hj => rfl) (fun j hj => by rw [Nat.zero_add]) (by omega) (by simp) ?_
  intro vo w1 hO2 hg2
  rw [Nat.zero_add] at hO2
  have HE2 := hideit (grownX hE1 hg2 (fun k hk => (HO1.lt k hk).1))
  obtain ⟨oo, co, rfl⟩ := hO2.bv.form
  clear hO2 hg2 HO1 hE1
  simp only [Act.put, List.setIfInBounds_toArray, List.set_cons_zero, List.set_cons_succ]
  have hlv := hideit (lives_any w1 (hC.out.ext HE2.out))
  go_upto_region 5 with (first
    | (go_at_call 16; refine (hnb _ _ _).out.mono ?_; rintro e w2 ⟨rfl, hw2⟩; rw [hw2]; clear hw2)
    | (go_at_call 11; refine hlv.out.mono ?_; rintro e w3 ⟨rfl, hw3⟩; have HE4 := hideit (Ext.trans HE2.out hw3); clear hw3))
  rcases Int.lt_or_le z 1 with h1 | h1
  · go_wp2
    go_ret
    exact ⟨rfl, HE4.out⟩
  · rcases Int.lt_or_le 64 z with h2 | h2
    · go_wp2
      go_ret
      exact ⟨rfl, HE4.out⟩
    · have h3 : (64 : Int) < (kl : Int) := by omega
      go_wp2
      go_ret
      exact ⟨rfl, HE4.out⟩
theorem walk (z : Int) (_ : (Lit.int .i64 z).wf = true) (v0 v1 : Value) (w : World) (A0 : BArgU v0 w) (A1 : PArg v1 w 1048576) (hC : TabC w) : Calls Tryd.prog 5 #[.int .i64 z, v0, v1] w fun e w' => e = .returned (.bool true) ∧ Below w.heap.size w w' := by
  obtain ⟨kl, key, hK, hkl⟩ := A0
  obtain ⟨o0, c0, rfl⟩ := hK.form
  by_cases hz : (1 ≤ z ∧ z ≤ 64) ∧ kl ≤ 64
  · obtain ⟨nn, rfl⟩ : ∃ nn : Nat, z = (nn : Int) := ⟨z.toNat, by omega⟩
    obtain ⟨ol, n, cap, us, ls, bs, hv1, hU, hT, hn⟩ : ∃ (ol : Option Addr) (n cap : Nat) (us : Nat → Value) (ls : Nat → Nat) (bs : Nat → Nat → BitVec 8), v1 = .slice ol n cap ∧ (∀ i, i < n → (∃ ab ao, ol = some ⟨ab, ao, none⟩ ∧ w.cell? ⟨ab, ao + i, none⟩ = some (us i)) ∧ PV (us i) (ls i) (bs i) w) ∧ sumL ls n ≤ 1048576 ∧ n ≤ 1048576 := by
      rcases A1 with h | ⟨ab, ao, n, cap, us, ls, bs, h1, _, h3, h4, h5⟩
      · exact ⟨none, 0, 0, fun _ => undef, fun _ => 0, fun _ _ => 0#8, h, fun i hi => absurd hi (by omega), by simp [sumL], by omega⟩
      · exact ⟨_, n, cap, us, ls, bs, h1, fun i hi => ⟨⟨ab, ao, rfl, (h3 i hi).1⟩, (h3 i hi).2⟩, h4, h5⟩
    subst hv1
    exact good nn kl (by omega) (by omega) hz.2 o0 c0 key ol n cap us ls bs w hK hU hT hn hC
  · exact bad z kl (by omega) hkl o0 c0 key v1 w hK hC

theorem contract (H : Type) (enc : TypeId × Value → H) (W : World) (base : Nat) (args : Array Value) (ds gs : List (DataW H)) (before : List MemPlace)
    (hval0 : ∀ (j : Nat) t v, Tryd.f5.params[j]? = some t → args[j]? = some v → Value.okWide Tryd.prog W .any base t v)
    (hW : DataW.Whole enc Tryd.prog Tryd.f5.params.toList Rows.blakeWritesSpec.vars false W args.toList ds gs before) (hL : laidMetH Tryd.prog Rows.blakeWritesUptoRow.laid W) (hB : Rows.uptoSmall H (ds ++ gs) = true) :
    Calls Tryd.prog 5 args W fun e W' => ∃ v, e = .returned v ∧ Rows.blakeWritesSpec.post enc Tryd.prog Tryd.f5 false true false false W args v W' := by
  have hval := hval0
  have hW' := hW
  obtain ⟨p, q, hA0, hV, rfl, hfz, hnd⟩ := hW
  have hA : DataW.TrodAll enc Tryd.prog W 0 (fun _ => true) true Tryd.f5.params.toList args.toList ds p := hA0
  rw [Tryd.params5] at hA hval
  obtain ⟨v0, vs0, d0, ds0, p0, q0, hargs, rfl, rfl, h0, r0⟩ := trodAll_cons hA
  obtain ⟨v1, vs1, d1, ds1, p1, q1, rfl, rfl, rfl, h1, r1⟩ := trodAll_cons r0
  obtain ⟨v2, vs2, d2, ds2, p2, q2, rfl, rfl, rfl, h2, r2⟩ := trodAll_cons r1
  obtain ⟨rfl, rfl, rfl⟩ := trodAll_nil r2
  obtain rfl : args = #[v0, v1, v2] := by cases args; simp_all
  obtain ⟨rfl, rfl⟩ := trodVars_none hV
  have h0s : 0 < W.heap.size := by
    have hc := tab_places hL 0 (by decide)
    rcases Nat.lt_or_ge 0 W.heap.size with h | h
    · exact h
    · exfalso
      have : W.heap[0]? = none := Array.getElem?_eq_none h
      simp [World.cell?, this] at hc
  have hC : TabC W := tabC hL h0s
  have k0 := h0
  have lt0 : ∀ x ∈ p0, x.block < W.heap.size := by obtain ⟨m, hm⟩ := k0; exact DataW.trod_lt m _ _ _ hm
  have k1 := h1
  have lt1 : ∀ x ∈ p1, x.block < W.heap.size := by obtain ⟨m, hm⟩ := k1; exact DataW.trod_lt m _ _ _ hm
  have k2 := h2
  have lt2 : ∀ x ∈ p2, x.block < W.heap.size := by obtain ⟨m, hm⟩ := k2; exact DataW.trod_lt m _ _ _ hm
  obtain ⟨a0, rfl, rfl, rfl, w0⟩ := open_int Tryd.underlying3 (hval 0 3 v0 rfl rfl) h0
  have B1 := bargU (hval 1 22 v1 rfl rfl) h1 (Nat.le_trans (bulk_mem (by simp)) (of_decide_eq_true hB))
  have B2 := parg (hval 2 35 v2 rfl rfl) h2 (Nat.le_trans (by simp [Rows.uptoBulkAll]; omega) (of_decide_eq_true hB))
  clear hA0 hval0
  refine (walk a0 w0 v1 v2 W B1 B2 hC).mono fun e W' ⟨he, bel⟩ => ?_
  subst he
  exact ⟨_, rfl, _, _, _, [], _, [], hW', trodAll_mk1 (shut_bool Tryd.underlying4 _), (trodAll_cons_mk (Below.trod laidOut (by kernel_rfl) (of_decide_eq_true (by kernel_rfl)) k0 bel lt0) (trodAll_cons_mk (Below.trod laidOut (by kernel_rfl) (of_decide_eq_true (by kernel_rfl)) k1 bel lt1) (trodAll_cons_mk (Below.trod laidOut (by kernel_rfl) (of_decide_eq_true (by kernel_rfl)) k2 bel lt2) trodAll_mk0))), rfl, bel.frame _, fun h => by cases h⟩

def wit : Array Value := #[.int .i64 0, .slice none 0 0, .slice none 0 0]
def dat {H : Type} : List (DataW H) := [.lit (.int .i64 0), .nil, .nil]
def setTab : Obj → Obj
  | .cells _ t frozen => .cells (row 32 (iv plF)).toArray t frozen
  | o => o
theorem laid_met (os : Os) : laidMet Tryd.prog Rows.blakeWritesUptoRow.laid (({ World.holding Tryd.prog os ⟨#[], #[], []⟩ with heap := (World.holding Tryd.prog os ⟨#[], #[], []⟩).heap.modify 0 setTab } : World).forCall (fun _ _ => 0) ⟨#[], wit, []⟩).memory :=
  laidMet_of_run' 8 (by kernel_rfl) (by kernel_rfl)
theorem reads (os : Os) {H : Type} (enc : TypeId × Value → H) : ∃ places, DataW.whole enc Tryd.prog (({ World.holding Tryd.prog os ⟨#[], #[], []⟩ with heap := (World.holding Tryd.prog os ⟨#[], #[], []⟩).heap.modify 0 setTab } : World).forCall (fun _ _ => 0) ⟨#[], wit, []⟩).memory Tryd.f5.params.toList Rows.blakeWritesSpec.vars false wit.toList 8 = some (dat, [], places) :=
  ⟨[], by kernel_rfl⟩

set_option maxRecDepth 100000 in
theorem lifted (os : Os) (started : os.Started) (H : Type) (enc : TypeId × Value → H) (F : Stop.Interp) :
    ReturnsInHanded {} Tryd.checked os 5 .any ((Rows.OpenSpec.upto Rows.blakeWritesSpec).preRow enc Tryd.prog Tryd.f5 Rows.blakeWritesUptoRow.domain false Rows.blakeWritesUptoRow.laid) (((Rows.OpenSpec.upto Rows.blakeWritesSpec).at F).post enc Tryd.prog Tryd.f5 false true false false) := by
  obtain ⟨places, hx⟩ := reads os enc
  refine returnsInHanded_of_row (C := Tryd.checked) (s := (Rows.OpenSpec.upto Rows.blakeWritesSpec)) own started (by kernel_rfl) Tryd.func5
    (witness_row_at (enc := enc) (C := Tryd.checked) false ({ World.holding Tryd.prog os ⟨#[], #[], []⟩ with heap := (World.holding Tryd.prog os ⟨#[], #[], []⟩).heap.modify 0 setTab } : World) wit rfl (by kernel_rfl) (by kernel_rfl) (by kernel_rfl)
      (OpenSpec.preRow_of_cond 8 hx (by kernel_rfl) (fun k hk => by cases hk; kernel_rfl) (by kernel_rfl) (laid_met os))) ?_
  intro W base args ds gs before hval hW _ hcond hsz hL _ _
  exact contract H enc W base args ds gs before hval hW hL (hcond _ rfl)

theorem said : Rows.BlakeWritesUptoSaid :=
  OpenClaim.holds_of_cond 5 Tryd.f5 rfl rfl rfl rfl rfl rfl rfl ⟨rfl, rfl, rfl, rfl, rfl⟩ rfl rfl rfl rfl rfl (by kernel_rfl) Tryd.func5 (by kernel_rfl)
    (of_decide_eq_true (by kernel_rfl)) (by unfold Func.isWrapper; first | (rw [if_pos (by decide +kernel)]; kernel_rfl) | (rw [if_neg (by decide +kernel)]; exact ⟨rfl, rfl⟩))
    (fun os started H enc _ F => by rw [OpenClaim.pre_eq_preRow]; exact lifted os started H enc F)

theorem plain (f : FuncId) (fn : Func) (hf : Tryd.pinned.checked.prog.funcNamed "casket/casketlaw06.BlakeWrites" = some f) (hfn : Tryd.pinned.checked.prog.funcs[f]? = some fn) :
    false = Tryd.pinned.checked.prog.looks [] ∧ ∀ (j : Nat) t, fn.params[j]? = some t → Tryd.pinned.checked.prog.wantsStandIn t = false := by
  obtain rfl : f = 5 := Option.some.inj ((show Tryd.prog.funcNamed "casket/casketlaw06.BlakeWrites" = some 5 by kernel_rfl).symm.trans hf) |>.symm
  obtain rfl : fn = Tryd.f5 := (Option.some.inj (Tryd.func5.symm.trans hfn)).symm
  refine ⟨by kernel_rfl, fun j t ht => ?_⟩
  rw [Tryd.params5] at ht
  have hm : t ∈ [3, 22, 35] := by simpa using Array.mem_of_getElem? ht
  have hall : ([3, 22, 35].all fun u => !Tryd.prog.wantsStandIn u) = true := by kernel_rfl
  exact (show Tryd.prog.wantsStandIn t = false by simpa using List.all_eq_true.1 hall t hm)

theorem card : Rows.BlakeWritesUptoCardSaid :=
  Claim7.holds_tied_plain_at .later [] _ _ _ _ said (fun _ h => by cases h) (by kernel_rfl) (fun _ h => by cases h) blakeWritesUpto_row_tie rfl ⟨rfl, rfl⟩ (by kernel_rfl) rfl plain (by kernel_rfl)
end Go.Proofs.YtbnbjhainkjknaaDoor.blakeWrites
namespace Go.Proofs.YtbnbjhainkjknaaDoor
theorem blakeWrites_holds : Rows.BlakeWritesUptoCardSaid := blakeWrites.card
end Go.Proofs.YtbnbjhainkjknaaDoor
