/-
  A tag of what came and of parts behind it. The tag of parts under a key.
-/
import Derived.Test.YtgjabfjkokpkiaaDoorQ1
import Derived.Test.YtgjabfjkokpkiaaDoorQ16
namespace Go.Proofs.YtgjabfjkokpkiaaDoor
set_option maxRecDepth 20000
open Go.RowKit Go.BigFrame
def sumL (ls : Nat → Nat) : Nat → Nat
  | 0 => 0
  | n + 1 => sumL ls n + ls n
theorem sumL_mono (ls : Nat → Nat) (i n : Nat) (h : i ≤ n) : sumL ls i ≤ sumL ls n := by
  induction n with
  | zero =>
    obtain rfl : i = 0 := by omega
    exact Nat.le_refl _
  | succ n ih =>
    rcases Nat.lt_or_ge n i with h1 | h1
    · obtain rfl : i = n + 1 := by omega
      exact Nat.le_refl _
    · have := ih h1
      simp only [sumL]
      omega
def joinF (m : Nat → BitVec 8) (n : Nat) (ls : Nat → Nat) (bs : Nat → Nat → BitVec 8) : Nat → Nat → BitVec 8
  | 0 => m
  | i + 1 => catF (joinF m n ls bs i) (n + sumL ls i) (bs i)
def Parts (v : Value) (n : Nat) (us : Nat → Value) (ls : Nat → Nat) (bs : Nat → Nat → BitVec 8) (w : World) : Prop :=
  ((v = .slice none 0 0 ∧ n = 0) ∨ ∃ a cap, v = .slice (some a) n cap ∧ n ≤ cap ∧ LieAt a n us w) ∧ ∀ i, i < n → BV (us i) (ls i) (bs i) w
theorem Parts.ext {v : Value} {n : Nat} {us : Nat → Value} {ls : Nat → Nat} {bs : Nat → Nat → BitVec 8} {w X : World} (h : Parts v n us ls bs w) (k : Ext w X) : Parts v n us ls bs X := by
  refine ⟨?_, fun i hi => (h.2 i hi).ext k⟩
  rcases h.1 with h1 | ⟨a, cap, h1, h2, h3⟩
  · exact .inl h1
  · exact .inr ⟨a, cap, h1, h2, h3.carry k⟩
theorem writeV (c n l : Nat) (m b : Nat → BitVec 8) (u : Value) (W w : World) (hW : BV u l b W) (hE : Ext W w) (h : HashOf c m n w) (hC : TabC w) (hc : W.heap.size ≤ c) (hc0 : c ≠ 0) (hN : n + l < 4611686018427387904) :
    Calls Tryd.prog 71 #[.pointer (some ⟨c, 0, none⟩), u] w fun e w' => e = .returned (.tuple #[]) ∧ HashOf c (catF m n b) (n + l) w' ∧ But c w w' := by
  rcases hW with ⟨rfl, h0⟩ | ⟨a, cap, rfl, h2, h3⟩
  · refine (write_none c w).mono fun e w' hh => ⟨hh.1, ?_⟩
    obtain ⟨_, rfl⟩ := hh
    subst h0
    exact ⟨h.congr fun j hj => by unfold catF; rw [if_pos hj], But.refl _ _⟩
  · have h4 := h3.carry hE
    have := h3.2
    exact write_any c n l cap m b a w h hC h4 h2 (by omega) hc0 hN
structure TS (w : World) (d1 d2 b5 : Nat) (m1 : Nat → BitVec 8) (n1 : Nat) (m2 : Nat → BitVec 8) (n2 : Nat) (X : World) : Prop where
  ext : Ext w X
  res : RowAt (w.heap.size + 1) 32 (yv fun _ => 0#8) X
  pair : RowAt b5 2 (dv d1 d2) X
  inner : HashOf d1 m1 n1 X
  outer : HashOf d2 m2 n2 X
theorem TS.carry {w : World} {d1 d2 b5 : Nat} {m1 m2 : Nat → BitVec 8} {n1 n2 : Nat} {X Y : World} (h : TS w d1 d2 b5 m1 n1 m2 n2 X) (k : Ext X Y) : TS w d1 d2 b5 m1 n1 m2 n2 Y :=
  ⟨Ext.trans h.ext k, h.res.carry k, h.pair.carry k, RowAt.carry h.inner k, RowAt.carry h.outer k⟩
set_option maxRecDepth 20000 in
set_option maxHeartbeats 2000000 in
theorem tag_any (c1 c2 n1 n2 k : Nat) (m1 m2 : Nat → BitVec 8) (v : Value) (us : Nat → Value) (ls : Nat → Nat) (bs : Nat → Nat → BitVec 8) (w : World) (h1 : HashOf c1 m1 n1 w) (h2 : HashOf c2 m2 n2 w) (hP : Parts v k us ls bs w) (hC : TabC w) (hk : k ≤ 140737488351232) (hN1 : n1 + sumL ls k < 1152921504606846976) (hN2 : n2 + 32 < 1152921504606846976) :
    Calls Tryd.prog 49 #[.agg (row 2 (dv c1 c2)).toArray, v] w fun e w' => e = .returned (.agg (row 32 (yv (shaF (catF m2 n2 (shaF (joinF m1 n1 ls bs k) (n1 + sumL ls k))) (n2 + 32)))).toArray) ∧ Below w.heap.size w w' := by
  obtain ⟨ov, cap, rfl⟩ : ∃ ov cap, v = .slice ov k cap := by
    rcases hP.1 with ⟨h, h0⟩ | ⟨a, cap, h, _⟩
    · exact ⟨none, 0, by rw [h, h0]⟩
    · exact ⟨_, cap, h⟩
  obtain ⟨R, hR⟩ : ∃ R, R = shaF (catF m2 n2 (shaF (joinF m1 n1 ls bs k) (n1 + sumL ls k))) (n2 + 32) := ⟨_, rfl⟩
  rw [← hR]
  replace hR := hideit hR
  have hz := zeroD
  have hz2 := zero24
  have c23 := cutR23
  have HA := hideit (RowAt.new w 2 (dv c1 c2) 86)
  have HE1 : Ext w (w.alloc (.cells (row 2 (dv c1 c2)).toArray 86)) := (Below.refl _ _).alloc (Nat.le_refl _) _
  have HQ := hideit (RowAt.new (w.alloc (.cells (row 2 (dv c1 c2)).toArray 86)) 32 (yv fun _ => 0#8) 31)
  have hE2 : Ext (w.alloc (.cells (row 2 (dv c1 c2)).toArray 86)) ((w.alloc (.cells (row 2 (dv c1 c2)).toArray 86)).alloc (.cells (row 32 (yv fun _ => 0#8)).toArray 31)) := (Below.refl _ _).alloc (Nat.le_refl _) _
  have HA2 := hideit (HA.out.carry hE2)
  have HE2 := hideit (Ext.trans HE1 hE2)
  have hsz : (w.alloc (.cells (row 2 (dv c1 c2)).toArray 86)).heap.size = w.heap.size + 1 := by simp
  rw [hsz] at HQ
  have hfk := hideit (forkD_any c1 c2 n1 n2 m1 m2 _ (RowAt.carry h1 HE2.out) (RowAt.carry h2 HE2.out))
  replace hC := hideit hC
  replace hP := hideit hP
  clear HA HE1 hE2 hsz h1 h2
  replace hN1 := hideit hN1
  go_enter Tryd.func49, Tryd.ntmps49
  go_upto_region 1 with (fail)
  generalize (w.alloc (.cells (row 2 (dv c1 c2)).toArray 86)).alloc (.cells (row 32 (yv fun _ => 0#8)).toArray 31) = w1 at *
  refine wp_region_lit ?_
  refine wpList_load_mid rfl 86 (.tmp 2) rfl _ 0 rfl (row 2 (dv c1 c2)) _ HA2.out.range Tryd.underlying86 rfl (by rw [row_length]; exact infoD) ?_
  simp only [zp0, zp1, zp2, zp3]
  refine wpList_call rfl (by simp [go_sem]) (hfk.out.mono ?_)
  rintro e w2 ⟨d1, d2, hdd, hd1, hd2, rfl, hH1, hH2, hw2⟩
  refine ⟨_, rfl, ?_⟩
  simp only [zp0, zp1, zp2, zp3]
  have hl1 : w.heap.size + 1 < w1.heap.size := HQ.out.2.2
  have hd1' : d1 < w2.heap.size := hH1.2.2
  have hd2' : d2 < w2.heap.size := hH2.2.2
  have HN := hideit (RowAt.new w2 2 (fun _ => Value.pointer none) 86)
  have hE4 : Ext w2 (w2.alloc (.cells (row 2 (fun _ => Value.pointer none)).toArray 86)) := (Below.refl _ _).alloc (Nat.le_refl _) _
  refine wpList_to rfl (.pointer (some ⟨w2.heap.size, 0, none⟩)) (w2.alloc (.cells (row 2 (fun _ => Value.pointer none)).toArray 86)) (by simp [go_sem, hz]) ?_
  simp only [zp0, zp1, zp2, zp3]
  refine wpList_store_mid rfl 86 (.tmp 5) (.tmp 10) rfl _ 0 (row 2 (dv d1 d2)).toArray rfl rfl (by rw [row_size]; exact HN.out.there) (by rw [row_size]; exact infoD) (row_one fun j _ => dv_one _ _ j) ?_
  have HT0 : TS w d1 d2 w2.heap.size (joinF m1 n1 ls bs 0) (n1 + sumL ls 0) m2 n2 ((w2.alloc (.cells (row 2 (fun _ => Value.pointer none)).toArray 86)).setCells w2.heap.size 0 (row 2 (dv d1 d2))) :=
    ⟨below_setCells w2.heap.size (by omega) _ _ _ (Ext.trans HE2.out (Ext.trans hw2 hE4)), ((HQ.out.carry hw2).carry hE4).cellsOther (by omega) _ _, HN.out.cells, RowAt.cellsOther (RowAt.carry hH1 hE4) (by omega) _ _, RowAt.cellsOther (RowAt.carry hH2 hE4) (by omega) _ _⟩
  replace HT0 := hideit HT0
  generalize ((w2.alloc (.cells (row 2 (fun _ => Value.pointer none)).toArray 86)).setCells w2.heap.size 0 (row 2 (dv d1 d2))) = w5 at *
  generalize w2.heap.size = b5 at *
  clear hfk hw2 hH1 hH2 hE4 HN HA2 HE2 HQ
  have hs1 : w.heap.size ≤ d1 := by omega
  have hs2 : w.heap.size ≤ d2 := by omega
  have hs3 : w.heap.size + 1 ≠ d1 := by omega
  have hs4 : w.heap.size + 1 ≠ d2 := by omega
  have hs5 : b5 ≠ d1 := by omega
  have hs6 : b5 ≠ d2 := by omega
  have hs7 : w.heap.size + 1 ≠ b5 := by omega
  have hs8 : w.heap.size ≤ b5 := by omega
  have hs0 : d1 ≠ 0 := by have := hC.out.2; omega
  have hs9 : d2 ≠ 0 := by have := hC.out.2; omega
  clear hd1 hd2 hd1' hd2' hl1
  simp only [Act.put]
  go_wp2
  go_loopw [13] (fun iv wr => ∃ i : Nat, i ≤ k ∧ iv = .int .i64 (i : Int) ∧ TS w d1 d2 b5 (joinF m1 n1 ls bs i) (n1 + sumL ls i) m2 n2 wr) (fun iv _ => k - (intOf iv).toNat)
  case atStart => exact ⟨0, by omega, rfl, HT0.out⟩
  case round =>
    clear HT0
    obtain ⟨i, hi, rfl, hT⟩ := hrel
    have HT := hideit hT
    clear hT
    by_cases hlt : i < k
    · have i0 : (0 : Int) ≤ (i : Int) := by omega
      have i1 : (i : Int) < (k : Int) := by omega
      obtain ⟨a, rfl, hcell⟩ : ∃ a, ov = some a ∧ wr.cell? (a.add i) = some (us i) := by
        rcases hP.out.1 with ⟨h, h0⟩ | ⟨a, cap', h, _, h3⟩
        · omega
        · injection h with e1 e2 e3
          exact ⟨a, e1, (h3.carry HT.out.ext).1 i hlt⟩
      have hT1 := hideit (sumL_mono ls (i + 1) k (by omega))
      have hwp := hideit (writeV d1 (n1 + sumL ls i) (ls i) (joinF m1 n1 ls bs i) (bs i) (us i) w wr (hP.out.2 i hlt) HT.out.ext HT.out.inner (hC.out.ext HT.out.ext) hs1 hs0 (by have := hT1.out; have := hN1.out; simp only [sumL] at *; omega))
      have e5 := HT.out.pair.1 0 (by omega)
      simp only [dv, if_true] at e5
      go_upto_region 6 with (go_at_call 71; refine hwp.out.mono ?_; rintro e w7 ⟨rfl, h7, hB7⟩; have HT7 : TS w d1 d2 b5 (joinF m1 n1 ls bs (i + 1)) (n1 + sumL ls (i + 1)) m2 n2 w7 := ⟨Ext.but HT.out.ext hB7 hs1, HT.out.res.but hB7 hs3, HT.out.pair.but hB7 hs5, by rw [show n1 + sumL ls (i + 1) = n1 + sumL ls i + ls i by simp only [sumL]; omega]; exact h7, RowAt.but HT.out.outer hB7 (Ne.symm hdd)⟩; replace HT7 := hideit HT7; clear h7 hB7 HT hwp)
      go_wp2
      exact ⟨⟨i + 1, by omega, by go_num, HT7.out⟩, by simp [intOf]; omega⟩
    · obtain rfl : i = k := by omega
      have i1 : ¬ (i : Int) < (i : Int) := by omega
      obtain ⟨L, hL⟩ : ∃ L, L = n1 + sumL ls i := ⟨_, rfl⟩
      obtain ⟨M, hM⟩ : ∃ M, M = joinF m1 n1 ls bs i := ⟨_, rfl⟩
      obtain ⟨D, hD⟩ : ∃ D, D = shaF M L := ⟨_, rfl⟩
      rw [← hL, ← hM, ← hD] at hR
      rw [← hL] at hN1
      rw [← hL, ← hM] at HT
      have hsm := sum_any d1 L M wr HT.out.inner (hC.out.ext HT.out.ext) hN1.out
      rw [← hD] at hsm
      replace hsm := hideit hsm
      clear hL hM hD
      have e5 := HT.out.pair.1 0 (by omega)
      simp only [dv, if_true] at e5
      go_upto_region 7 with (fail)
      refine wp_region_lit ?_
      refine wpList_run rfl (.pointer (some ⟨b5, 0, none⟩)) (by simp [go_sem]) ?_
      simp only [zp0, zp1, zp2, zp3]
      refine wpList_run rfl (.pointer (some ⟨d1, 0, none⟩)) (by simp [go_sem, e5]) ?_
      simp only [zp0, zp1, zp2, zp3]
      refine wpList_call rfl (by simp [go_sem]) (hsm.out.mono ?_)
      rintro e w6 ⟨rfl, hw6⟩
      refine ⟨_, rfl, ?_⟩
      simp only [zp0, zp1, zp2, zp3]
      have HT6 := hideit (HT.out.carry hw6)
      clear HT hsm hw6 e5
      have HN := hideit (RowAt.new w6 32 (yv fun _ => 0#8) 31)
      have hE7 : Ext w6 (w6.alloc (.cells (row 32 (yv fun _ => 0#8)).toArray 31)) := (Below.refl _ _).alloc (Nat.le_refl _) _
      have hb5 : b5 < w6.heap.size := HT6.out.pair.2.2
      have hb1 : d1 < w6.heap.size := HT6.out.inner.2.2
      have hb2 : d2 < w6.heap.size := HT6.out.outer.2.2
      have hb3 : w.heap.size + 1 < w6.heap.size := HT6.out.res.2.2
      refine wpList_to rfl (.pointer (some ⟨w6.heap.size, 0, none⟩)) (w6.alloc (.cells (row 32 (yv fun _ => 0#8)).toArray 31)) (by simp [go_sem, hz2]) ?_
      simp only [zp0, zp1, zp2, zp3]
      refine wpList_store_mid rfl 31 (.tmp 8) (.tmp 24) rfl _ 0 (row 32 (yv D)).toArray rfl rfl (by rw [row_size]; exact HN.out.there) (by rw [row_size]; exact info24) (row_one fun _ _ => rfl) ?_
      have HT7 : TS w d1 d2 b5 M L m2 n2 ((w6.alloc (.cells (row 32 (yv fun _ => 0#8)).toArray 31)).setCells w6.heap.size 0 (row 32 (yv D))) := by
        have h7 := HT6.out.carry hE7
        exact ⟨below_setCells w6.heap.size (by omega) _ _ _ h7.ext, h7.res.cellsOther (by omega) _ _, h7.pair.cellsOther (by omega) _ _, RowAt.cellsOther h7.inner (by omega) _ _, RowAt.cellsOther h7.outer (by omega) _ _⟩
      have HD := hideit (HN.out.cells (g' := yv D))
      replace HT7 := hideit HT7
      generalize ((w6.alloc (.cells (row 32 (yv fun _ => 0#8)).toArray 31)).setCells w6.heap.size 0 (row 32 (yv D))) = w7 at *
      generalize w6.heap.size = b8 at *
      clear HN hE7 HT6
      simp only [Act.put]
      go_upto_region 8 with (fail)
      have hne := kept_ne w7.drew
      have e6 : ∀ q : Kept (Ext w7.drew), q.w.cell? ⟨b5, 1, none⟩ = some (.pointer (some ⟨d2, 0, none⟩)) := fun q => HT7.out.pair.kept 1 (by omega) q
      refine wp_region_late 3 (by kernel_rfl) (by kernel_rfl) (by decide) ?_
      simp only [List.take_succ_cons, List.take_zero, List.drop_succ_cons, List.drop_zero]
      refine wpStrong_run 3 rfl ?_
      simp only [List.take_succ_cons, List.take_zero, List.drop_succ_cons, List.drop_zero]
      repeat (go_big_quiet_step (fail))
      refine wpQuiet_nil ?_
      refine wpStrong_nil ?_
      intro X hX
      have HTX := hideit (HT7.out.carry (Ext.trans (Below.refl _ _).drew hX))
      have HDX := hideit (HD.out.carry (Ext.trans (Below.refl _ _).drew hX))
      clear HT7 HD hX hne e6
      have hwo := hideit (write_any d2 n2 32 32 m2 D ⟨b8, 0, none⟩ X HTX.out.outer (hC.out.ext HTX.out.ext) (HDX.out.lie 32 (Nat.le_refl _)) (Nat.le_refl _) (by show b8 ≠ d2; omega) hs9 (by omega))
      refine wpList_call rfl (by simp [go_sem]) (hwo.out.mono ?_)
      rintro e w9 ⟨rfl, h9, hB9⟩
      refine ⟨_, rfl, ?_⟩
      simp only [zp0, zp1, zp2, zp3]
      have HE9 := hideit (Ext.but HTX.out.ext hB9 hs2)
      have HQ9 := hideit (HTX.out.res.but hB9 hs4)
      have HP9 := hideit (HTX.out.pair.but hB9 hs6)
      have hso := hideit (sum_any d2 (n2 + 32) (catF m2 n2 D) w9 h9 (hC.out.ext HE9.out) hN2)
      rw [← hR.out] at hso
      clear hwo HTX HDX h9 hB9
      have e7 := HP9.out.1 1 (by omega)
      simp only [dv] at e7
      go_upto_region 9 with (fail)
      refine wp_region_lit ?_
      refine wpList_run rfl (.pointer (some ⟨b5, 1, none⟩)) (by simp [go_sem]) ?_
      simp only [zp0, zp1, zp2, zp3]
      refine wpList_run rfl (.pointer (some ⟨d2, 0, none⟩)) (by simp [go_sem, e7]) ?_
      simp only [zp0, zp1, zp2, zp3]
      refine wpList_call rfl (by simp [go_sem]) (hso.out.mono ?_)
      rintro e w10 ⟨rfl, hw10⟩
      refine ⟨_, rfl, ?_⟩
      simp only [zp0, zp1, zp2, zp3]
      have HQ10 := hideit (HQ9.out.carry hw10)
      have HE10 := hideit (Ext.trans HE9.out hw10)
      clear hso hw10 HQ9 HE9 HP9 e7
      refine wpList_store_mid rfl 31 (.tmp 4) (.tmp 31) rfl _ 0 (row 32 (yv R)).toArray rfl rfl (by rw [row_size]; exact HQ10.out.there) (by rw [row_size]; exact info24) (row_one fun _ _ => rfl) ?_
      go_wp2
      exact bodyPost_ret (ret_row Tryd.results49 rfl (HQ10.out.cells (g' := yv R)) Tryd.underlying31 rfl info24) rfl ⟨rfl, below_setCells _ (by omega) _ _ _ HE10.out⟩
end Go.Proofs.YtgjabfjkokpkiaaDoor
namespace Go.Proofs.YtgjabfjkokpkiaaDoor
set_option maxRecDepth 20000
open Go.RowKit Go.BigFrame
def tagF (l : Nat) (key : Nat → BitVec 8) (m : Nat → BitVec 8) (n : Nat) : Nat → BitVec 8 := shaF (catF (maskF (readyF l key) 92#8) 64 (shaF (catF (maskF (readyF l key) 54#8) 64 m) (64 + n))) 96
def allF (ls : Nat → Nat) (bs : Nat → Nat → BitVec 8) (k : Nat) : Nat → BitVec 8 := joinF (fun _ => 0#8) 0 ls bs k
theorem join_all (m : Nat → BitVec 8) (n : Nat) (ls : Nat → Nat) (bs : Nat → Nat → BitVec 8) : ∀ k j, j < n + sumL ls k → joinF m n ls bs k j = catF m n (allF ls bs k) j
  | 0, j, h => by
    simp only [sumL] at h
    unfold catF
    rw [if_pos (by omega)]
    rfl
  | k + 1, j, h => by
    simp only [sumL] at h
    show catF (joinF m n ls bs k) (n + sumL ls k) (bs k) j = catF m n (catF (allF ls bs k) (0 + sumL ls k) (bs k)) j
    unfold catF
    by_cases h1 : j < n + sumL ls k
    · rw [if_pos h1, join_all m n ls bs k j h1]
      unfold catF
      by_cases h2 : j < n
      · rw [if_pos h2, if_pos h2]
      · rw [if_neg h2, if_neg h2, if_pos (by omega)]
    · rw [if_neg h1, if_neg (by omega), if_neg (by omega), show j - (n + sumL ls k) = j - n - (0 + sumL ls k) by omega]
theorem tagF_congr (l : Nat) (key m m' : Nat → BitVec 8) (n : Nat) (h : ∀ j, j < n → m j = m' j) : tagF l key m n = tagF l key m' n := by
  unfold tagF
  rw [shaF_congr (catF (maskF (readyF l key) 54#8) 64 m) (catF (maskF (readyF l key) 54#8) 64 m') (64 + n) (fun j hj => by
    unfold catF
    split
    · rfl
    · exact h _ (by omega))]
set_option maxRecDepth 20000 in
set_option maxHeartbeats 1000000 in
theorem Tag_any (v pv : Value) (l k : Nat) (key : Nat → BitVec 8) (us : Nat → Value) (ls : Nat → Nat) (bs : Nat → Nat → BitVec 8) (w : World) (h : BV v l key w) (hP : Parts pv k us ls bs w) (hC : TabC w) (hl : l ≤ 140737488351232) (hk : k ≤ 140737488351232) (hN : sumL ls k < 576460752303423488) :
    Calls Tryd.prog 27 #[v, pv] w fun e w' => e = .returned (.agg (row 32 (yv (tagF l key (allF ls bs k) (sumL ls k)))).toArray) ∧ Below w.heap.size w w' := by
  have hz := zero24
  have HR0 := hideit (RowAt.new w 32 (yv fun _ => 0#8) 31)
  have HE0 : Ext w (w.alloc (.cells (row 32 (yv fun _ => 0#8)).toArray 31)) := (Below.refl _ _).alloc (Nat.le_refl _) _
  have hbg := hideit (begin_any v l key _ (h.ext HE0) (hC.ext HE0) hl)
  have HP := hideit (hP.ext HE0)
  have HC := hideit (hC.ext HE0)
  replace HE0 := hideit HE0
  clear h hP hC
  obtain ⟨R, hR⟩ : ∃ R, R = tagF l key (allF ls bs k) (sumL ls k) := ⟨_, rfl⟩
  rw [← hR]
  replace hR := hideit hR
  go_enter Tryd.func27, Tryd.ntmps27
  go_upto_region 1 with (fail)
  generalize w.alloc (.cells (row 32 (yv fun _ => 0#8)).toArray 31) = w1 at *
  refine wp_region_lit ?_
  refine wpList_run rfl v (by simp [go_sem]) ?_
  simp only [zp0, zp1, zp2, zp3]
  refine wpList_call rfl (by simp [go_sem]) (hbg.out.mono ?_)
  rintro e w2 ⟨c1, c2, _, _, _, rfl, h1, h2, hE2⟩
  refine ⟨_, rfl, ?_⟩
  simp only [zp0, zp1, zp2, zp3]
  refine wpList_run rfl pv (by simp [go_sem]) ?_
  simp only [zp0, zp1, zp2, zp3]
  have ht := tag_any c1 c2 64 64 k _ _ pv us ls bs w2 h1 h2 (HP.out.ext hE2) (HC.out.ext hE2) hk (by omega) (by omega)
  have hRR : shaF (catF (maskF (readyF l key) 92#8) 64 (shaF (joinF (maskF (readyF l key) 54#8) 64 ls bs k) (64 + sumL ls k))) (64 + 32) = R := by
    rw [hR.out]
    unfold tagF
    rw [shaF_congr _ _ _ (join_all (maskF (readyF l key) 54#8) 64 ls bs k)]
  rw [hRR] at ht
  replace ht := hideit ht
  have HR2 := hideit (HR0.out.carry hE2)
  have HE2 := hideit (Ext.trans HE0.out hE2)
  clear hRR h1 h2 hE2 hbg HP HC HR0 HE0
  refine wpList_call rfl (by simp [go_sem]) (ht.out.mono ?_)
  rintro e w3 ⟨rfl, hw3⟩
  refine ⟨_, rfl, ?_⟩
  simp only [zp0, zp1, zp2, zp3]
  have HR3 := hideit (HR2.out.carry hw3)
  have HE3 := hideit (Ext.trans HE2.out hw3)
  clear ht hw3 HR2 HE2
  refine wpList_store_mid rfl 31 (.tmp 4) (.tmp 8) rfl _ 0 (row 32 (yv R)).toArray rfl rfl (by rw [row_size]; exact HR3.out.there) (by rw [row_size]; exact info24) (row_one fun _ _ => rfl) ?_
  go_wp2
  exact bodyPost_ret (ret_row Tryd.results27 rfl (HR3.out.cells (g' := yv R)) Tryd.underlying31 rfl info24) rfl ⟨rfl, below_setCells _ (Nat.le_refl _) _ _ _ HE3.out⟩
end Go.Proofs.YtgjabfjkokpkiaaDoor
