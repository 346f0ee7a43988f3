/-
  The document's tag, of any message under any key. The document's record of a sealed sector. The document's products, turns and bits.
-/
import Derived.Test.YtfpfgbhdehbggaaGreatDoorQa1
import Derived.Test.YtfpfgbhdehbggaaGreatDoorQa33
import Derived.Test.YtfpfgbhdehbggaaGreatDoorQa32
import Derived.Test.YtfpfgbhdehbggaaGreatDoorQa31
import Derived.Test.YtfpfgbhdehbggaaGreatDoorQa17
import Derived.Test.YtfpfgbhdehbggaaGreatDoorQa18
namespace Go.Proofs.YtfpfgbhdehbggaaGreatDoor
open Go.RowKit Go.BigFrame
set_option maxRecDepth 20000 in
set_option maxHeartbeats 4000000 in
theorem grown_ext {w X Y : World} {row : Option Nat} (h : Ext w X) (hg : X.grownBy Y row) (hr : ∀ k, row = some k → w.heap.size ≤ k) : Ext w Y := Below.trans h (below_grown (Below.size h) hg hr)
theorem rTag_any (v mv : Value) (l n : Nat) (key m : Nat → BitVec 8) (w : World) (h : BV v l key w) (hm : BV mv n m w) (hl : l ≤ 140737488351232) (hn : n ≤ 140737488354000) :
    Calls Tryz.prog 30 #[v, mv] w fun e w' => e = .returned (.agg (row 32 (yv (tagF l key m n))).toArray) ∧ Below w.heap.size w w' := by
  have hz := zero24
  have c23 := cutR23
  obtain ⟨o0, c0, rfl⟩ := h.form
  obtain ⟨o1, c1, rfl⟩ := hm.form
  obtain ⟨R, hR⟩ : ∃ R, R = tagF l key m n := ⟨_, rfl⟩
  rw [← hR]
  replace hR := hideit hR
  obtain ⟨D, hDD⟩ : ∃ D, D = shaF (catF (maskF (readyF l key) 54#8) 64 m) (64 + n) := ⟨_, rfl⟩
  replace hDD := hideit hDD
  have HR0 := hideit (RowAt.new w 32 (yv fun _ => 0#8) 22)
  have HE0 : Ext w (w.alloc (.cells (row 32 (yv fun _ => 0#8)).toArray 22)) := (Below.refl _ _).alloc (Nat.le_refl _) _
  have hp := hideit (pad_any _ l key 54#8 _ (h.ext HE0) hl)
  have hB := hideit h
  have hMm := hideit hm
  replace HE0 := hideit HE0
  clear h hm
  go_enter Tryz.func30, Tryz.ntmps30
  go_upto_region 1 with (fail)
  generalize w.alloc (.cells (row 32 (yv fun _ => 0#8)).toArray 22) = w1 at *
  refine wp_region_lit ?_
  refine wpList_run rfl (.slice o0 l c0) (by simp [go_sem]) ?_
  simp only [zp0, zp1, zp2, zp3]
  refine wpList_call rfl (by simp [go_sem]) (hp.out.mono ?_)
  rintro e w2 ⟨b, hb1, hb2, rfl, hO2, hE2⟩
  refine ⟨_, rfl, ?_⟩
  simp only [zp0, zp1, zp2, zp3]
  refine wpList_run rfl (.slice o1 n c1) (by simp [go_sem]) ?_
  simp only [zp0, zp1, zp2, zp3]
  have HE2 := hideit (Ext.trans HE0.out hE2)
  have HR2 := hideit (HR0.out.carry hE2)
  have HM2 := hideit (hMm.out.ext HE2.out)
  have hb3 : w.heap.size < b := Nat.lt_of_lt_of_le HR0.out.2.2 hb1
  refine wpList_growV (v := .slice (some ⟨b, 0, none⟩) 64 64) (n := 64) (base := w1.heap.size) (g := yv (maskF (readyF l key) 54#8)) elem22 rfl (.tmp 7) (.tmp 8) rfl rfl hO2 _ n m (yv (catF (maskF (readyF l key) 54#8) 64 m)) rfl HM2.out (fun j hj => by simp only [yv]; unfold catF; rw [if_pos hj]) (fun j hj => by simp only [yv]; unfold catF; rw [if_neg (by omega), Nat.add_sub_cancel_left]) (by omega) (Below.size hE2) ?_
  intro v3 w3 hO3 hg3
  have HE3 := hideit (grown_ext HE2.out hg3 (fun k hk => by have := (hO2.lt k hk).1; have := Below.size HE0.out; omega))
  have HR3 := hideit (HR2.out.grown hg3 (fun e => Nat.ne_of_lt (by omega : w.heap.size < b) (by simpa [Value.ownBlock] using e)))
  have HV3 := hideit (OwnB.bv hO3)
  obtain ⟨o3, c3, rfl⟩ := HV3.out.form
  have hs3 := rsumV _ (64 + n) _ w3 HV3.out (by omega)
  rw [← hDD.out] at hs3
  replace hs3 := hideit hs3
  clear hO3 hg3 hO2 hE2 HE2 HR2 HM2 hp HR0 HE0 HV3 hb1 hb2 hb3
  simp only [zp0, zp1, zp2, zp3]
  refine wpList_call rfl (by simp [go_sem]) (hs3.out.mono ?_)
  rintro e w4 ⟨rfl, hw4⟩
  refine ⟨_, rfl, ?_⟩
  simp only [zp0, zp1, zp2, zp3]
  have HR4 := hideit (HR3.out.carry hw4)
  have HE4 := hideit (Ext.trans HE3.out hw4)
  clear hs3 hw4 HR3 HE3
  have HN := hideit (RowAt.new w4 32 (yv fun _ => 0#8) 22)
  have hE5 : Ext w4 (w4.alloc (.cells (row 32 (yv fun _ => 0#8)).toArray 22)) := (Below.refl _ _).alloc (Nat.le_refl _) _
  have hlt4 : w.heap.size < w4.heap.size := HR4.out.2.2
  refine wpList_to rfl (.pointer (some ⟨w4.heap.size, 0, none⟩)) (w4.alloc (.cells (row 32 (yv fun _ => 0#8)).toArray 22)) (by simp [go_sem, hz]) ?_
  simp only [zp0, zp1, zp2, zp3]
  refine wpList_store_mid rfl 22 (.tmp 5) (.tmp 10) rfl _ 0 (row 32 (yv D)).toArray rfl rfl (by rw [row_size]; exact HN.out.there) (by rw [row_size]; exact info24) (row_one fun _ _ => rfl) ?_
  have HD5 := hideit (HN.out.cells (g' := yv D))
  have HR5 := hideit ((HR4.out.carry hE5).cellsOther (c := w4.heap.size) (by omega) (row 32 (yv D)) 0)
  have HE5 := hideit (below_setCells w4.heap.size (by omega) (row 32 (yv D)) 0 _ (Ext.trans HE4.out hE5))
  generalize (w4.alloc (.cells (row 32 (yv fun _ => 0#8)).toArray 22)).setCells w4.heap.size 0 (row 32 (yv D)) = w5 at *
  generalize w4.heap.size = b5 at *
  clear HN hE5 HR4 HE4
  simp only [Act.put]
  go_upto_region 2 with (fail)
  refine wp_region_any (by kernel_rfl) ?_
  refine wpAny_pures (by kernel_rfl) (fun _ _ _ _ _ h => h) [0] [_] _ _ 5 rfl (by decide +kernel) ?_
  simp only [List.getElem_toArray, List.getElem_cons_zero]
  refine wpPure_one (.slice o0 l c0) rfl (fun X => by simp [go_sem]) ?_
  simp only [zp0, zp1, zp2, zp3]
  refine wpPure_nil ?_
  refine wpAny_seg _ 5 0 (fun _ => ⟨fun b => .slice (some ⟨b, 0, none⟩) 64 64, fun b X => OwnB w.heap.size 5 (.slice (some ⟨b, 0, none⟩) 64 64) 64 (yv (maskF (readyF l key) 92#8)) X⟩) (fun _ => undef) (fun _ _ _ _ hh hk => OwnB.ext hh hk) [2] [1] [] [3, 4, 5] [_] [_, _, _] (by decide +kernel) (by decide +kernel) (by decide +kernel) (by decide +kernel) (by decide +kernel) (by decide) rfl rfl (by decide +kernel) (by decide +kernel) (by decide +kernel) (by decide +kernel) (by decide +kernel) (by decide +kernel) (by decide +kernel) (by decide +kernel) (by decide +kernel) (by decide +kernel) (by decide +kernel) ?_
  simp only [List.getElem_toArray, List.getElem_cons_zero, List.getElem_cons_succ]
  refine ⟨.slice (some ⟨b5, 0, none⟩) 32 32, .inl ⟨rfl, fun X hX => by simp [go_sem, strongUpon, c23]⟩, ?_⟩
  simp only [zp0, zp1, zp2, zp3]
  refine wpStrong_nil ?_
  refine wpN_one _ rfl (GenY.call rfl (fun X => by simp [go_sem]) (fun X hX => (pad_any _ l key 92#8 X (hB.out.ext (Ext.trans (Ext.trans HE5.out (Below.refl _ _).drew) hX)) hl).mono ?_)) ?_
  · rintro e w' ⟨b, k1, k2, rfl, k3, k4⟩
    exact ⟨b, k1, k2, rfl, k3.down (Below.size (Ext.trans (Ext.trans HE5.out (Below.refl _ _).drew) hX)), k4⟩
  intro b hb1 _
  simp only [zp4, zp5, zp6, zp0, zp1, zp2, zp3]
  refine wpN_nil ?_
  refine wpT_nil ?_
  intro w6 hw6 hH
  have HO6 := hideit (hH (b, 1) (by simp)).1
  have hw5 : Ext w5 w6 := Ext.trans (Below.refl _ _).drew hw6
  have HE6 := hideit (Ext.trans HE5.out hw5)
  have HD6 := hideit (HD5.out.carry hw5)
  have HR6 := hideit (HR5.out.carry hw5)
  have hsz6 : w.heap.size ≤ w6.heap.size := Below.size HE6.out
  have hb1' : b5 < b := Nat.lt_of_lt_of_le HD5.out.2.2 hb1
  have hb2' : w.heap.size < b := Nat.lt_of_lt_of_le HR5.out.2.2 hb1
  clear hH hw6 hw5 HE5 HD5 HR5 hb1
  refine wpList_growV (v := .slice (some ⟨b, 0, none⟩) 64 64) (n := 64) (base := w.heap.size) (g := yv (maskF (readyF l key) 92#8)) elem22 rfl (.tmp 12) (.tmp 13) rfl rfl HO6.out _ 32 D (yv (catF (maskF (readyF l key) 92#8) 64 D)) rfl (.inr ⟨_, 32, rfl, Nat.le_refl _, HD6.out.lie 32 (Nat.le_refl _)⟩) (fun j hj => by simp only [yv]; unfold catF; rw [if_pos hj]) (fun j hj => by simp only [yv]; unfold catF; rw [if_neg (by omega), Nat.add_sub_cancel_left]) (by omega) hsz6 ?_
  intro v7 w7 hO7 hg7
  have hlt6 := HO6.out.lt
  have HE7 := hideit (grown_ext HE6.out hg7 (fun k hk => (hlt6 k hk).1))
  have HR7 := hideit (HR6.out.grown hg7 (fun e => Nat.ne_of_lt (by omega : w.heap.size < b) (by simpa [Value.ownBlock] using e)))
  have HV7 := hideit (OwnB.bv hO7)
  obtain ⟨o7, c7, rfl⟩ := HV7.out.form
  have hs7 := rsumV _ (64 + 32) _ w7 HV7.out (by omega)
  rw [show shaF (catF (maskF (readyF l key) 92#8) 64 D) (64 + 32) = R by rw [hR.out, hDD.out]; rfl] at hs7
  replace hs7 := hideit hs7
  clear hO7 hg7 hlt6 HO6 HD6 HR6 HE6 HV7
  simp only [zp0, zp1, zp2, zp3]
  refine wpList_call rfl (by simp [go_sem]) (hs7.out.mono ?_)
  rintro e w8 ⟨rfl, hw8⟩
  refine ⟨_, rfl, ?_⟩
  simp only [zp0, zp1, zp2, zp3]
  have HR8 := hideit (HR7.out.carry hw8)
  have HE8 := hideit (Ext.trans HE7.out hw8)
  clear hs7 hw8 HR7 HE7
  refine wpList_store_mid rfl 22 (.tmp 4) (.tmp 15) rfl _ 0 (row 32 (yv R)).toArray rfl rfl (by rw [row_size]; exact HR8.out.there) (by rw [row_size]; exact info24) (row_one fun _ _ => rfl) ?_
  refine wpList_go ?_
  refine wpAny_done (by decide +kernel) ?_
  simp only [Act.put]
  go_wp2
  exact bodyPost_ret (ret_row Tryz.results30 rfl (HR8.out.cells (g' := yv R)) Tryz.underlying22 rfl info24) rfl ⟨rfl, below_setCells _ (Nat.le_refl _) _ _ _ HE8.out⟩
end Go.Proofs.YtfpfgbhdehbggaaGreatDoor
namespace Go.Proofs.YtfpfgbhdehbggaaGreatDoor
open Go.RowKit Go.BigFrame
set_option linter.unusedVariables false
set_option maxRecDepth 20000
theorem heap_newM (X : World) (C : Array Value) (t : TypeId) (m : Nat × Nat) : (X.alloc (.cells C t m)).heap[X.heap.size]? = some (.cells C t m) := by
  show (X.heap.push (.cells C t m))[X.heap.size]? = _
  simp
theorem few_ne {X : World} {g n b m : Nat} {f : Nat → BitVec 8} {F : Nat → Value} (hF : X.heap[g]? = some (.cells (row n (yv f)).toArray 5 (0, 0))) (h : RowAt b m F X) (hm : n < m) : g ≠ b := by
  rintro rfl
  have q := h.1 n hm
  unfold World.cell? at q
  rw [hF] at q
  simp [row_length] at q
theorem tx_tag (e n : Nat) (T f : Nat → BitVec 8) : tagF 32 T (catF (catF (catF secF 6 (numB e)) 10 (numB n)) 14 f) 526 = rtF e n T f 512 := by
  show _ = tagF 32 T (allF (rlS 512) (rbS e n f) 4) 526
  refine tagF_congr 32 T _ _ 526 fun j hj => ?_
  show _ = catF (catF (catF (catF (fun _ => 0#8) 0 secF) 6 (numB e)) 10 (numB n)) 14 f j
  unfold catF
  by_cases h1 : j < 14
  · rw [if_pos h1, if_pos h1]
    by_cases h2 : j < 10
    · rw [if_pos h2, if_pos h2]
      by_cases h3 : j < 6
      · rw [if_pos h3, if_pos h3, if_neg (by omega), Nat.sub_zero]
      · rw [if_neg h3, if_neg h3]
    · rw [if_neg h2, if_neg h2]
  · rw [if_neg h1, if_neg h1]
def rcI (e n : Nat) (T f : Nat → BitVec 8) (i j : Nat) : BitVec 8 := if j < i then rcF e n T f 512 j else 0#8
theorem rcI_next (e n : Nat) (T f : Nat → BitVec 8) (i : Nat) (u : BitVec 8) (hu : u = rcF e n T f 512 i) (j : Nat) (hj : j < 64) : (if j = i then Value.int .u8 (u.toNat : Int) else yv (rcI e n T f i) j) = yv (rcI e n T f (i + 1)) j := by
  unfold yv rcI
  by_cases h : j = i
  · rw [if_pos h, h, if_pos (by omega), hu]
  · rw [if_neg h]
    by_cases h2 : j < i
    · rw [if_pos h2, if_pos (by omega)]
    · rw [if_neg h2, if_neg (by omega)]
theorem rcI_all (e n : Nat) (T f : Nat → BitVec 8) (j : Nat) (hj : j < 64) : yv (rcI e n T f 36) j = yv (rcF e n T f 512) j := by
  unfold yv rcI
  by_cases h : j < 36
  · rw [if_pos h]
  · rw [if_neg h]
    unfold rcF
    rw [if_neg (by omega), if_neg h]
theorem rcF_num (e n : Nat) (T f : Nat → BitVec 8) (i : Nat) (hi : i < 4) : numB e i = rcF e n T f 512 i := by unfold rcF; rw [if_pos hi]
theorem rcF_tag (e n : Nat) (T f : Nat → BitVec 8) (i m : Nat) (hm : m = 4 + i) (hi : i < 32) : rtF e n T f 512 i = rcF e n T f 512 m := by
  subst hm
  unfold rcF
  rw [if_neg (by omega), if_pos (by omega), Nat.add_sub_cancel_left]
set_option maxRecDepth 20000 in
set_option maxHeartbeats 4000000 in
theorem rrOf_any (e n : Nat) (D T : Nat → BitVec 8) (v : Value) (f : Nat → BitVec 8) (w : World) (hV : BV v 512 f w) (he : e < 4294967296) (hn : n < 4294967296) : Calls Tryz.prog 13 #[.agg (row 65 (ekV e D T)).toArray, .int .i64 (n : Int), v] w fun e' w' => e' = .returned (.agg (row 64 (yv (rcF e n T f 512))).toArray) ∧ Ext w w' := by
  have hE := hideit (Ext.refl w)
  go_enter Tryz.func13, Tryz.ntmps13
  go_upto_region 0 with (fail)
  refine wp_region_lit ?_
  have A0 := hideit (RowAt.new w 65 (ekV e D T) 24)
  have XB : Ext w (w.alloc (.cells (row 65 (ekV e D T)).toArray 24)) := (Below.refl _ _).alloc (Nat.le_refl _) _
  have AE := hideit (Ext.trans hE.out (XB))
  have AB := hideit (hE.out.size)
  clear XB
  refine wpList_to rfl (.pointer (some ⟨w.heap.size, 0, none⟩)) (w.alloc (.cells (row 65 (ekV e D T)).toArray 24)) (by simp [go_sem]) ?_
  simp only [zp0, zp1, zp2, zp3]
  generalize w.alloc (.cells (row 65 (ekV e D T)).toArray 24) = x1 at A0 AE ⊢
  obtain ⟨c3, ec3⟩ : ∃ b, b = w.heap.size := ⟨_, rfl⟩
  have ABc3 : Hid (w.heap.size ≤ c3) := by rw [ec3]; exact AB.out
  clear AB
  rw [← ec3] at A0  ⊢
  clear ec3
  have Hc3 := A0
  clear A0
  replace hE := AE
  clear AE
  have A0 := hideit (RowAt.new x1 64 (yv fun _ => 0#8) 26)
  have A1 := hideit (Hc3.out.alloc (.cells (row 64 (yv fun _ => 0#8)).toArray 26))
  have AE := hideit (Below.alloc hE.out (Below.size hE.out) (.cells (row 64 (yv fun _ => 0#8)).toArray 26))
  have AB := hideit (Below.size hE.out)
  have D0 : Hid (c3 ≠ x1.heap.size) := Nat.ne_of_lt Hc3.out.2.2
  refine wpList_to rfl (.pointer (some ⟨x1.heap.size, 0, none⟩)) (x1.alloc (.cells (row 64 (yv fun _ => 0#8)).toArray 26)) (xalloc 26 (row 64 (yv fun _ => 0#8)).toArray rfl (zero23 x1)) ?_
  simp only [zp0, zp1, zp2, zp3]
  generalize x1.alloc (.cells (row 64 (yv fun _ => 0#8)).toArray 26) = x3 at A0 A1 AE ⊢
  obtain ⟨z2, ez2⟩ : ∃ b, b = x1.heap.size := ⟨_, rfl⟩
  replace AB : Hid (w.heap.size ≤ z2) := by rw [ez2]; exact AB.out
  rw [← ez2] at A0 D0 ⊢
  clear ez2
  have Hz2 := A0
  clear A0
  replace Hc3 := A1
  clear A1
  replace hE := AE
  clear AE
  have ABz2 := AB
  clear AB
  have Dz2_0 := D0
  clear D0
  go_upto_region 1 with (fail)
  refine wp_region_lit ?_
  have KE := hE
  have K3 := Hc3
  have K6 := Hz2
  obtain ⟨W0, hW0⟩ : ∃ X, X = x3 := ⟨_, rfl⟩
  refine wpList_to rfl (.slice (some ⟨x3.heap.size, 0, none⟩) 6 6) (x3.alloc (.cells #[.int .u8 115, .int .u8 101, .int .u8 99, .int .u8 116, .int .u8 111, .int .u8 114] 5)) (by simp [go_sem]) ?_
  simp only [zp0, zp1, zp2, zp3]
  refine wpList_to rfl (.slice (some ⟨x3.heap.size, 0, none⟩) 6 6) (x3.alloc (.cells #[.int .u8 115, .int .u8 101, .int .u8 99, .int .u8 116, .int .u8 111, .int .u8 114] 5 (6, 7))) (by have q := mark_const x3 #[.int .u8 115, .int .u8 101, .int .u8 99, .int .u8 116, .int .u8 111, .int .u8 114] 6; simp [go_sem] at q ⊢; rw [q]; rfl) ?_
  simp only [zp0, zp1, zp2, zp3]
  have hX2 : Ext x3 (x3.alloc (.cells #[.int .u8 115, .int .u8 101, .int .u8 99, .int .u8 116, .int .u8 111, .int .u8 114] 5 (6, 7))) := (Below.refl _ _).alloc (Nat.le_refl _) _
  have hS := hideit (sec_bv (heap_newM x3 #[.int .u8 115, .int .u8 101, .int .u8 99, .int .u8 116, .int .u8 111, .int .u8 114] 5 (6, 7)))
  generalize x3.alloc (.cells #[.int .u8 115, .int .u8 101, .int .u8 99, .int .u8 116, .int .u8 111, .int .u8 114] 5 (6, 7)) = y2 at hX2 hS ⊢
  obtain ⟨g2, hg2⟩ : ∃ g, g = x3.heap.size := ⟨_, rfl⟩
  rw [← hg2] at hS ⊢
  clear hg2
  replace Hc3 := hideit (Hc3.out.carry hX2)
  replace Hz2 := hideit (Hz2.out.carry hX2)
  replace hE := hideit (Ext.trans hE.out (hX2))
  have hX2h := hideit hX2
  clear hX2
  have m4 : y2.cell? ⟨c3, 0, none⟩ = some (.int .i64 (e : Int)) := Hc3.out.1 0 (by decide)
  refine xm [some (.pointer (some ⟨c3, 0, none⟩)), some (.int .i64 (e : Int))] (by kernel_rfl) (by simp [xr, go_sem, m4]) ?_
  simp only [xw, p0, p1, p2, p3]
  clear m4
  refine wpList_call rfl (by simp [go_sem]) ((four_any e he y2).mono ?_)
  rintro e y3 ⟨v17, rfl, hF, hX3⟩
  refine ⟨_, rfl, ?_⟩
  simp only [zp0, zp1, zp2, zp3]
  replace Hc3 := hideit (Hc3.out.carry hX3)
  replace Hz2 := hideit (Hz2.out.carry hX3)
  replace hS := hideit (hS.out.ext hX3)
  replace hE := hideit (Ext.trans hE.out (hX3))
  have hF1 := hideit (few_bv hF)
  have hX3h := hideit (Ext.trans hX2h.out hX3)
  clear hX3 hF hX2h
  obtain ⟨v18, y4, g4, hG4, hX4⟩ := run_gbC 25 (w0 := W0) (by rw [hW0]; exact hX3h.out) ⟨g2, 0, none⟩ hS.out v17 4 (numB e) hF1.out (by decide) (by decide)
  refine wpList_to rfl v18 y4 (exec_append (.tmp 14) (.tmp 17) 25 25 rfl _ _ _ rfl rfl g4) ?_
  simp only [zp0, zp1, zp2, zp3]
  replace hG4 := hideit hG4
  clear hS hF1 g4 hX3h
  replace Hc3 := hideit (Hc3.out.carry hX4)
  replace Hz2 := hideit (Hz2.out.carry hX4)
  replace hE := hideit (Ext.trans hE.out (hX4))
  clear hX4
  refine xm [some (.int .i64 (n : Int))] (by kernel_rfl) (by simp [xr, go_sem]) ?_
  simp only [xw, p0, p1, p2, p3]
  refine wpList_call rfl (by simp [go_sem]) ((four_any n hn y4).mono ?_)
  rintro e y5 ⟨v20, rfl, hF, hX5⟩
  refine ⟨_, rfl, ?_⟩
  simp only [zp0, zp1, zp2, zp3]
  replace Hc3 := hideit (Hc3.out.carry hX5)
  replace Hz2 := hideit (Hz2.out.carry hX5)
  replace hG4 := hideit (hG4.out.ext hX5)
  replace hE := hideit (Ext.trans hE.out (hX5))
  have hF2 := hideit (few_bv hF)
  clear hX5 hF
  refine wpList_gb rfl (.tmp 18) (.tmp 20) rfl rfl hG4.out v20 4 (numB n) rfl hF2.out (by decide) ?_
  intro v21 y6 hG6
  simp only [zp0, zp1, zp2, zp3]
  replace hG6 := hideit hG6
  clear hG4 hF2 hE Hc3 Hz2
  refine xm [some (v)] (by kernel_rfl) (by simp [xr, go_sem]) ?_
  simp only [xw, p0, p1, p2, p3]
  refine wpList_gb rfl (.tmp 21) (.tmp 22) rfl rfl hG6.out v 512 f rfl (hV.ext (Ext.trans KE.out (by rw [← hW0]; exact hG6.out.2))) (by decide) ?_
  intro v23 y8 hG8
  simp only [zp0, zp1, zp2, zp3]
  have hX8 := hG8.2
  replace hG8 := hideit (hG8.congr (m := 526) (g := catF (catF (catF secF 6 (numB e)) 10 (numB n)) 14 f) rfl fun _ _ => rfl)
  rw [hW0] at hX8
  have hE8 := hideit (Ext.trans KE.out hX8)
  have N3 := hideit (K3.out.carry hX8)
  have N6 := hideit (K6.out.carry hX8)
  clear K3 K6 KE hG6 hX8 hW0
  refine xm [some (v23)] (by kernel_rfl) (by simp [xr, go_sem]) ?_
  simp only [xw, p0, p1, p2, p3]
  go_upto_region 2 with (fail)
  refine wp_region_lit ?_
  refine xm [some (.pointer (some ⟨c3, 33, none⟩))] (by kernel_rfl) (by simp [xr, go_sem]) ?_
  simp only [xw, p0, p1, p2, p3]
  refine xm [some (.slice (some ⟨c3, 33, none⟩) 32 32), some (v23)] (by kernel_rfl) (by simp [xr, go_sem]) ?_
  simp only [xw, p0, p1, p2, p3]
  have tgc : Calls Tryz.prog 30 #[.slice (some ⟨c3, 33, none⟩) 32 32, v23] y8 fun e' w' => e' = .returned (.agg (row 32 (yv (rtF e n T f 512))).toArray) ∧ Below y8.heap.size y8 w' := by
    have q := rTag_any (.slice (some ⟨c3, 33, none⟩) 32 32) v23 32 526 T _ y8 (.inr ⟨⟨c3, 33, none⟩, 32, rfl, Nat.le_refl _, ek_tag N3.out⟩) hG8.out.bv (by decide) (by decide)
    rw [tx_tag e n T f] at q
    exact q
  refine wpList_call rfl (by simp [go_sem]) ((tgc).mono ?_)
  rintro e y9 ⟨rfl, hX9⟩
  refine ⟨_, rfl, ?_⟩
  simp only [zp0, zp1, zp2, zp3]
  replace N3 := hideit (N3.out.carry hX9)
  replace N6 := hideit (N6.out.carry hX9)
  replace hE8 := hideit (Ext.trans hE8.out (hX9))
  clear hX9 tgc hG8
  have A0 := hideit (RowAt.new y9 32 (yv fun _ => 0#8) 22)
  have A1 := hideit (N3.out.alloc (.cells (row 32 (yv fun _ => 0#8)).toArray 22))
  have A2 := hideit (N6.out.alloc (.cells (row 32 (yv fun _ => 0#8)).toArray 22))
  have AE := hideit (Below.alloc hE8.out (Below.size hE8.out) (.cells (row 32 (yv fun _ => 0#8)).toArray 22))
  have AB := hideit (Below.size hE8.out)
  have D0 : Hid (c3 ≠ y9.heap.size) := Nat.ne_of_lt N3.out.2.2
  have D1 : Hid (z2 ≠ y9.heap.size) := Nat.ne_of_lt N6.out.2.2
  refine wpList_to rfl (.pointer (some ⟨y9.heap.size, 0, none⟩)) (y9.alloc (.cells (row 32 (yv fun _ => 0#8)).toArray 22)) (xalloc 22 (row 32 (yv fun _ => 0#8)).toArray rfl (zero24 y9)) ?_
  simp only [zp0, zp1, zp2, zp3]
  generalize y9.alloc (.cells (row 32 (yv fun _ => 0#8)).toArray 22) = x6 at A0 A1 A2 AE ⊢
  obtain ⟨z5, ez5⟩ : ∃ b, b = y9.heap.size := ⟨_, rfl⟩
  replace AB : Hid (w.heap.size ≤ z5) := by rw [ez5]; exact AB.out
  rw [← ez5] at A0 D0 D1 ⊢
  clear ez5
  have Hz5 := A0
  clear A0
  replace N3 := A1
  clear A1
  replace N6 := A2
  clear A2
  replace hE8 := AE
  clear AE
  have ABz5 := AB
  clear AB
  have Dz5_0 := D0
  clear D0
  have Dz5_1 := D1
  clear D1
  have N0 := hideit (Hz5.out.cells (g' := yv (rtF e n T f 512)))
  have N1 := hideit (N3.out.cellsOther (Ne.symm (Dz5_0.out)) (row 32 (yv (rtF e n T f 512))) 0)
  have N2 := hideit (N6.out.cellsOther (Ne.symm (Dz5_1.out)) (row 32 (yv (rtF e n T f 512))) 0)
  have NE := hideit (below_setCells z5 (ABz5.out) (row 32 (yv (rtF e n T f 512))) 0 _ hE8.out)
  refine xst rfl (x6.setCells z5 0 (row 32 (yv (rtF e n T f 512)))) (xstore 22 (.tmp 8) (.tmp 27) rfl z5 32 _ (yv (rtF e n T f 512)) rfl rfl Hz5.out inf31 (fun j _ => rfl)) ?_
  simp only [Act.put]
  generalize x6.setCells z5 0 (row 32 (yv (rtF e n T f 512))) = x7 at N0 N1 N2 NE ⊢
  replace Hz5 := N0
  replace N3 := N1
  replace N6 := N2
  replace hE8 := NE
  clear N0 N1 N2 NE
  go_upto_region 3 with (fail)
  refine wp_region_lit ?_
  have A0 := hideit (RowAt.new x7 64 (yv fun _ => 0#8) 26)
  have A1 := hideit (N3.out.alloc (.cells (row 64 (yv fun _ => 0#8)).toArray 26))
  have A2 := hideit (N6.out.alloc (.cells (row 64 (yv fun _ => 0#8)).toArray 26))
  have A3 := hideit (Hz5.out.alloc (.cells (row 64 (yv fun _ => 0#8)).toArray 26))
  have AE := hideit (Below.alloc hE8.out (Below.size hE8.out) (.cells (row 64 (yv fun _ => 0#8)).toArray 26))
  have AB := hideit (Below.size hE8.out)
  have D0 : Hid (c3 ≠ x7.heap.size) := Nat.ne_of_lt N3.out.2.2
  have D1 : Hid (z2 ≠ x7.heap.size) := Nat.ne_of_lt N6.out.2.2
  have D2 : Hid (z5 ≠ x7.heap.size) := Nat.ne_of_lt Hz5.out.2.2
  refine wpList_to rfl (.pointer (some ⟨x7.heap.size, 0, none⟩)) (x7.alloc (.cells (row 64 (yv fun _ => 0#8)).toArray 26)) (xalloc 26 (row 64 (yv fun _ => 0#8)).toArray rfl (zero23 x7)) ?_
  simp only [zp0, zp1, zp2, zp3]
  generalize x7.alloc (.cells (row 64 (yv fun _ => 0#8)).toArray 26) = x9 at A0 A1 A2 A3 AE ⊢
  obtain ⟨z8, ez8⟩ : ∃ b, b = x7.heap.size := ⟨_, rfl⟩
  replace AB : Hid (w.heap.size ≤ z8) := by rw [ez8]; exact AB.out
  rw [← ez8] at A0 D0 D1 D2 ⊢
  clear ez8
  have Hz8 := A0
  clear A0
  replace N3 := A1
  clear A1
  replace N6 := A2
  clear A2
  replace Hz5 := A3
  clear A3
  replace hE8 := AE
  clear AE
  have ABz8 := AB
  clear AB
  have Dz8_0 := D0
  clear D0
  have Dz8_1 := D1
  clear D1
  have Dz8_2 := D2
  clear D2
  go_upto_region 4 with (fail)
  refine wp_region_lit ?_
  have m10 : x9.cell? ⟨c3, 0, none⟩ = some (.int .i64 (e : Int)) := N3.out.1 0 (by decide)
  refine xm [some (.pointer (some ⟨c3, 0, none⟩)), some (.int .i64 (e : Int))] (by kernel_rfl) (by simp [xr, go_sem, m10]) ?_
  simp only [xw, p0, p1, p2, p3]
  clear m10
  refine wpList_call rfl (by simp [go_sem]) ((four_any e he x9).mono ?_)
  rintro e y7 ⟨_, rfl, ⟨g4, rfl, hF⟩, hX7⟩
  refine ⟨_, rfl, ?_⟩
  simp only [zp0, zp1, zp2, zp3]
  replace N3 := hideit (N3.out.carry hX7)
  replace N6 := hideit (N6.out.carry hX7)
  replace Hz5 := hideit (Hz5.out.carry hX7)
  replace Hz8 := hideit (Hz8.out.carry hX7)
  replace hE8 := hideit (Ext.trans hE8.out (hX7))
  clear hX7
  refine xm [some (.slice (some ⟨g4, 0, none⟩) 4 4)] (by kernel_rfl) (by simp [xr, go_sem]) ?_
  simp only [xw, p0, p1, p2, p3]
  have D4 : Hid (g4 ≠ z8) := few_ne hF Hz8.out (by decide)
  have Hg4 := hideit (row_heap hF)
  clear hF
  go_upto_region 5 with (fail)
  refine wp_region_lit ?_
  refine xm [some (.int .i64 0)] (by kernel_rfl) (by simp [xr, go_sem]) ?_
  simp only [xw, p0, p1, p2, p3]
  go_wp2
  go_loopw [11] (fun t X => ∃ i : Nat, i ≤ 4 ∧ t = .int .i64 (i : Int) ∧ RowAt g4 4 (yv (numB e)) X ∧ RowAt z2 64 (yv fun _ => 0#8) X ∧ RowAt z5 32 (yv (rtF e n T f 512)) X ∧ RowAt z8 64 (yv (rcI e n T f i)) X ∧ Ext w X) (fun t _ => 4 - (intOf t).toNat)
  case atStart => exact ⟨0, by omega, rfl, Hg4.out, N6.out, Hz5.out, Hz8.out.congr fun j _ => by unfold yv rcI; rw [if_neg (by omega)], hE8.out⟩
  case round =>
    obtain ⟨i, hi5, rfl, r4, r6, r8, r9, rE⟩ := hrel
    clear N6 Hz5 Hz8 Hg4 N3 hE8
    replace r4 := hideit r4
    replace r6 := hideit r6
    replace r8 := hideit r8
    replace r9 := hideit r9
    replace rE := hideit rE
    by_cases hi2 : (i : Int) < 4
    · have hi := hideit hi2
      have hin : Hid (i < 4) := by show i < 4; omega
      have ek : IntKind.i64.wrap ((i : Int) + 1) = ((i + 1 : Nat) : Int) := by rw [IntKind.wrap_i64]; omega
      have hge : Hid (¬ 4 ≤ (i : Int)) := by show ¬ 4 ≤ (i : Int); omega
      have hg6 : Hid (¬ 64 ≤ (i : Int)) := by show ¬ 64 ≤ (i : Int); omega
      have hel : Hid (wr.cell? ⟨g4, i, none⟩ = some (.int .u8 ((numB e i).toNat : Int))) := r4.out.1 i hin.out
      clear hi2 hi5
      go_upto_region 6 with (fail)
      refine wp_region_lit ?_
      refine xm [some (.int .i64 (i : Int)), some (.bool true)] (by kernel_rfl) (by simp [xr, go_sem, hi.out]) ?_
      simp only [xw, p0, p1, p2, p3]
      go_upto_region 8 with (fail)
      refine wp_region_lit ?_
      refine xm [some (.int .i64 (i : Int)), some (.slice (some ⟨g4, 0, none⟩) 4 4), some (.int .i64 (i : Int)), some (.pointer (some ⟨g4, i, none⟩)), some (.int .u8 ((numB e i).toNat : Int)), some (.pointer (some ⟨z8, i, none⟩))] (by kernel_rfl) (by simp [xr, go_sem, hge.out, addr0, hel.out, hg6.out]) ?_
      simp only [xw, p0, p1, p2, p3]
      have M0 : wr.cell? ⟨z8, i, none⟩ = some (yv (rcI e n T f i) i) := r9.out.1 i (by have := hin.out; omega)
      have M1 : wr.frozen? ⟨z8, i, none⟩ = false := r9.out.2.1 i (by have := hin.out; omega)
      have N9 := hideit ((r9.out.set i (.int .u8 ((numB e i).toNat : Int))).congr (g' := yv (rcI e n T f (i + 1))) (rcI_next e n T f i (numB e i) (rcF_num e n T f i hin.out)))
      have NE := hideit (rE.out.setCell (p := ⟨z8, i, none⟩) ABz8.out (.int .u8 ((numB e i).toNat : Int)))
      have N6 := hideit (r6.out.other ⟨z8, i, none⟩ (.int .u8 ((numB e i).toNat : Int)) (Ne.symm Dz8_1.out))
      have N8 := hideit (r8.out.other ⟨z8, i, none⟩ (.int .u8 ((numB e i).toNat : Int)) (Ne.symm Dz8_2.out))
      have N4 := hideit (r4.out.other ⟨z8, i, none⟩ (.int .u8 ((numB e i).toNat : Int)) (Ne.symm D4.out))
      refine xst rfl (wr.setCell ⟨z8, i, none⟩ (.int .u8 ((numB e i).toNat : Int))) (by simp [go_sem, M0, M1]) ?_
      simp only [Act.put]
      generalize wr.setCell ⟨z8, i, none⟩ (.int .u8 ((numB e i).toNat : Int)) = w9 at N4 N6 N8 N9 NE ⊢
      clear M0 M1
      go_upto_region 7 with (fail)
      refine wp_region_lit ?_
      refine xm [some (.int .i64 (i : Int)), some (.int .i64 ((i + 1 : Nat) : Int)), some (.int .i64 ((i + 1 : Nat) : Int))] (by kernel_rfl) (by simp [xr, go_sem, ek]) ?_
      simp only [xw, p0, p1, p2, p3]
      go_wp2
      go_round
      case rel => exact ⟨i + 1, by have := hin.out; omega, rfl, N4.out, N6.out, N8.out, N9.out, NE.out⟩
      case measure => have := hin.out; simp [intOf]; omega
    · have hi := hideit hi2
      have q9 : i = 4 := by omega
      rw [q9] at r9
      clear q9
      have hge : Hid (4 ≤ (i : Int)) := by show 4 ≤ (i : Int); omega
      clear hi2 hi5 r4 hi
      go_upto_region 6 with (fail)
      refine wp_region_lit ?_
      refine xm [some (.int .i64 (i : Int)), some (.bool false)] (by kernel_rfl) (by simp [xr, go_sem, hge.out]) ?_
      simp only [xw, p0, p1, p2, p3]
      go_upto_region 9 with (fail)
      refine wp_region_lit ?_
      refine xm [some (.int .i64 0)] (by kernel_rfl) (by simp [xr, go_sem]) ?_
      simp only [xw, p0, p1, p2, p3]
      go_wp2
      obtain ⟨i9, hi9⟩ : ∃ u : Value, u = .int .i64 (i : Int) := ⟨_, rfl⟩
      rw [← hi9]
      clear hi9 hge
      go_loopw [12] (fun t X => ∃ i : Nat, i ≤ 32 ∧ t = .int .i64 (i : Int) ∧ RowAt z2 64 (yv fun _ => 0#8) X ∧ RowAt z5 32 (yv (rtF e n T f 512)) X ∧ RowAt z8 64 (yv (rcI e n T f (4 + i))) X ∧ Ext w X) (fun t _ => 32 - (intOf t).toNat)
      case atStart => exact ⟨0, by omega, rfl, r6.out, r8.out, r9.out, rE.out⟩
      case round =>
        clear r6 r8 r9 rE
        obtain ⟨i, hi5, rfl, r6, r8, r9, rE⟩ := hrel
        replace r6 := hideit r6
        replace r8 := hideit r8
        replace rE := hideit rE
        by_cases hi2 : (i : Int) < 32
        · have hi := hideit hi2
          have hin : Hid (i < 32) := by show i < 32; omega
          have ek : IntKind.i64.wrap ((i : Int) + 1) = ((i + 1 : Nat) : Int) := by rw [IntKind.wrap_i64]; omega
          obtain ⟨m, hm0⟩ : ∃ m, m = 4 + i := ⟨_, rfl⟩
          rw [← hm0] at r9
          have hm := hideit hm0
          replace r9 := hideit r9
          have hadd : Hid (IntKind.i64.wrap (4 + (i : Int)) = (m : Int)) := by have := hin.out; show IntKind.i64.wrap (4 + (i : Int)) = _; rw [IntKind.wrap_i64]; omega
          have hge : Hid (¬ 32 ≤ (i : Int)) := by show ¬ 32 ≤ (i : Int); omega
          have hg6 : Hid (¬ 64 ≤ (m : Int)) := by show ¬ 64 ≤ (m : Int); omega
          have hel : Hid (wr.cell? ⟨z5, i, none⟩ = some (.int .u8 ((rtF e n T f 512 i).toNat : Int))) := r8.out.1 i hin.out
          have hin' := hin
          replace hin : Hid (i < 32 ∧ m < 64) := ⟨hin'.out, by omega⟩
          clear hi2 hi5 hm0
          go_upto_region 10 with (fail)
          refine wp_region_lit ?_
          refine xm [some (.int .i64 (i : Int)), some (.bool true)] (by kernel_rfl) (by simp [xr, go_sem, hi.out]) ?_
          simp only [xw, p0, p1, p2, p3]
          go_upto_region 12 with (fail)
          refine wp_region_lit ?_
          refine xm [some (.int .i64 (i : Int)), some (.int .i64 (m : Int)), some (.int .i64 (i : Int)), some (.pointer (some ⟨z5, i, none⟩)), some (.int .u8 ((rtF e n T f 512 i).toNat : Int)), some (.pointer (some ⟨z8, m, none⟩))] (by kernel_rfl) (by simp [xr, go_sem, hadd.out, hge.out, addr0, hel.out, hg6.out]) ?_
          simp only [xw, p0, p1, p2, p3]
          have M0 : wr.cell? ⟨z8, m, none⟩ = some (yv (rcI e n T f m) m) := r9.out.1 m hin.out.2
          have M1 : wr.frozen? ⟨z8, m, none⟩ = false := r9.out.2.1 m hin.out.2
          have N9 := hideit ((r9.out.set m (.int .u8 ((rtF e n T f 512 i).toNat : Int))).congr (g' := yv (rcI e n T f (m + 1))) (rcI_next e n T f m (rtF e n T f 512 i) (rcF_tag e n T f i m hm.out hin.out.1)))
          have NE := hideit (rE.out.setCell (p := ⟨z8, m, none⟩) ABz8.out (.int .u8 ((rtF e n T f 512 i).toNat : Int)))
          have N6 := hideit (r6.out.other ⟨z8, m, none⟩ (.int .u8 ((rtF e n T f 512 i).toNat : Int)) (Ne.symm Dz8_1.out))
          have N8 := hideit (r8.out.other ⟨z8, m, none⟩ (.int .u8 ((rtF e n T f 512 i).toNat : Int)) (Ne.symm Dz8_2.out))
          refine xst rfl (wr.setCell ⟨z8, m, none⟩ (.int .u8 ((rtF e n T f 512 i).toNat : Int))) (by simp [go_sem, M0, M1]) ?_
          simp only [Act.put]
          generalize wr.setCell ⟨z8, m, none⟩ (.int .u8 ((rtF e n T f 512 i).toNat : Int)) = w9 at N6 N8 N9 NE ⊢
          clear M0 M1
          go_upto_region 11 with (fail)
          refine wp_region_lit ?_
          refine xm [some (.int .i64 (i : Int)), some (.int .i64 ((i + 1 : Nat) : Int)), some (.int .i64 ((i + 1 : Nat) : Int))] (by kernel_rfl) (by simp [xr, go_sem, ek]) ?_
          simp only [xw, p0, p1, p2, p3]
          go_wp2
          go_round
          case rel => exact ⟨i + 1, by have := hin.out.1; omega, rfl, N6.out, N8.out, by rw [show 4 + (i + 1) = m + 1 by rw [hm.out]; omega]; exact N9.out, NE.out⟩
          case measure => have := hin.out.1; simp [intOf]; omega
        · have hi := hideit hi2
          have q9 : i = 32 := by omega
          rw [q9] at r9
          replace r9 := hideit (RowAt.congr r9 (rcI_all e n T f))
          clear q9
          have hge : Hid (32 ≤ (i : Int)) := by show 32 ≤ (i : Int); omega
          clear hi2 hi5 r8 hi
          go_upto_region 10 with (fail)
          refine wp_region_lit ?_
          refine xm [some (.int .i64 (i : Int)), some (.bool false)] (by kernel_rfl) (by simp [xr, go_sem, hge.out]) ?_
          simp only [xw, p0, p1, p2, p3]
          go_upto_region 13 with (fail)
          refine wp_region_lit ?_
          refine wpList_run rfl (.agg (row 64 (yv (rcF e n T f 512))).toArray) (xload 26 (.tmp 9) rfl z8 0 64 _ rfl r9.out.range Tryz.underlying26 rfl inf23) ?_
          simp only [zp0, zp1, zp2, zp3]
          have N0 := hideit (r6.out.cells (g' := yv (rcF e n T f 512)))
          have N1 := hideit (r9.out.cellsOther (Dz8_1.out) (row 64 (yv (rcF e n T f 512))) 0)
          have NE := hideit (below_setCells z2 (ABz2.out) (row 64 (yv (rcF e n T f 512))) 0 _ rE.out)
          refine xst rfl (wr.setCells z2 0 (row 64 (yv (rcF e n T f 512)))) (xstore 26 (.tmp 6) (.tmp 51) rfl z2 64 _ (yv (rcF e n T f 512)) rfl rfl r6.out inf23 (fun j _ => rfl)) ?_
          simp only [Act.put]
          generalize wr.setCells z2 0 (row 64 (yv (rcF e n T f 512))) = x11 at N0 N1 NE ⊢
          replace r6 := N0
          replace r9 := N1
          replace rE := NE
          clear N0 N1 NE
          go_wp2
          exact bodyPost_ret (ret_row Tryz.results13 rfl r6.out Tryz.underlying26 rfl inf23) rfl ⟨rfl, rE.out⟩
end Go.Proofs.YtfpfgbhdehbggaaGreatDoor
namespace Go.Proofs.YtfpfgbhdehbggaaGreatDoor
set_option maxRecDepth 20000
open Go.RowKit Go.BigFrame
theorem rmul_any (a b : BitVec 8) (w : World) :
    Calls Tryz.prog 72 #[.int .u8 (a.toNat : Int), .int .u8 (b.toNat : Int)] w fun e w' => e = .returned (.int .u8 ((mB a b).toNat:Int)) ∧ w' = w := by
  have hb := b.isLt
  have ha := a.isLt
  go_enter Tryz.func72, Tryz.ntmps72
  go_wp2
  go_loop [5, 6] (fun s i => ∃ k : Nat, k ≤ 8 ∧ i = .int .i64 k ∧ s = .int .i64 (clK a b k).toNat) (fun _ i => 8 - (intOf i).toNat)
  case atStart => exact ⟨0, Nat.zero_le _, rfl, rfl⟩
  case round =>
    obtain ⟨k, hk, rfl, rfl⟩ := hrel
    by_cases hlt : k < 8
    · rcases hbit : b.getLsbD k with _ | _
      all_goals
        have hbt : (((b.toNat : Int) / 2 ^ k).tmod 2 == 1) = b.getLsbD k := tmod_bit b.toNat k
        rw [hbit] at hbt
        go_wp2
        go_round
        case rel => exact ⟨k + 1, by omega, by go_num, by first | (rw [shl_bound a k hlt, xor_p]; simp only [clK, hbit]; simp) | (simp only [clK, hbit]; simp)⟩
        case measure => simp [intOf]; omega
    · obtain rfl : k = 8 := by omega
      go_wp2
      go_loop [5, 7] (fun s i => ∃ k : Nat, k ≤ 7 ∧ i = .int .i64 (14 - k) ∧ s = .int .i64 (rdK (clK a b 8) k).toNat) (fun _ i => (intOf i).toNat)
      case atStart => exact ⟨0, Nat.zero_le _, rfl, rfl⟩
      case round =>
        obtain ⟨k, hk, rfl, rfl⟩ := hrel
        by_cases hlt : k < 7
        · rcases hbit : (rdK (clK a b 8) k).getLsbD (14 - k) with _ | _
          all_goals
            have hbt : ((((rdK (clK a b 8) k).toNat : Int) / 2 ^ (14 - k)).tmod 2 == 1) = (rdK (clK a b 8) k).getLsbD (14 - k) := tmod_bit _ _
            rw [hbit] at hbt
            go_wp2
            go_round
            case rel => exact ⟨k + 1, by omega, by go_num, by first | (rw [mod283 k hlt, xor_p]; simp only [rdK, hbit]; simp) | (simp only [rdK, hbit]; simp)⟩
            case measure => simp [intOf]; omega
        · obtain rfl : k = 7 := by omega
          go_wp2
          go_ret
          exact ⟨ret_int (rd_out a b), rfl⟩
theorem rturn_any (a : BitVec 8) (w : World) :
    Calls Tryz.prog 91 #[.int .u8 (a.toNat : Int)] w fun e w' => e = .returned (.int .u8 ((turnB a).toNat:Int)) ∧ w' = w := by
  have ha := a.isLt
  go_enter Tryz.func91, Tryz.ntmps91
  go_wp2
  go_loop [3, 4] (fun s i => ∃ k : Nat, k ≤ 8 ∧ i = .int .i64 k ∧ s = .int .u8 (outK a k)) (fun _ i => 8 - (intOf i).toNat)
  case atStart => exact ⟨0, Nat.zero_le _, rfl, rfl⟩
  case round =>
    obtain ⟨i, hk, rfl, rfl⟩ := hrel
    by_cases hlt : i < 8
    · go_wp2
      go_loop [5, 6] (fun s j => ∃ k : Nat, k ≤ 5 ∧ j = .int .i64 k ∧ s = .int .u8 (bitK a i k)) (fun _ i => 5 - (intOf i).toNat)
      case atStart => exact ⟨0, Nat.zero_le _, rfl, rfl⟩
      case round =>
        obtain ⟨k, hk, rfl, rfl⟩ := hrel
        by_cases hlt : k < 5
        · by_cases h0 : k = 0
          · subst h0
            go_wp2
            go_round
            case rel => exact ⟨1, by omega, by go_num, rfl⟩
            case measure => simp [intOf]
          · obtain ⟨j, rfl⟩ : ∃ j, k = j + 1 := ⟨k - 1, by omega⟩
            go_wp2
            go_round
            case rel => exact ⟨j + 2, by omega, by go_num, rfl⟩
            case measure => simp [intOf]; omega
        · obtain rfl : k = 5 := by omega
          go_wp2
          go_round
          case rel => exact ⟨i + 1, by omega, by go_num, rfl⟩
          case measure => simp [intOf]; omega
    · obtain rfl : i = 8 := by omega
      go_wp2
      go_ret
      exact ⟨ret_int (out_fact a), rfl⟩
theorem zero42A (w : World) : Sem.run Tryz.prog (zeroValue 158) w = .ok (.agg Z128) w := by kernel_rfl
theorem info42A : (Tryz.prog.info? 158).map (·.size) = some 128 := by kernel_rfl
theorem bits_any (x : BitVec 128) (w : World) :
    Calls Tryz.prog 112 #[.agg #[.int .u64 ((lo x).toNat : Int), .int .u64 ((hi x).toNat : Int)]] w fun e w' => e = .returned (.agg (row 128 (bv (tb x))).toArray) ∧ Below w.heap.size w w' := by
  have hz := zero42A
  go_enter Tryz.func112, Tryz.ntmps112
  go_wp2
  go_loopw [4] (fun i wr => ∃ k : Nat, k ≤ 64 ∧ i = .int .i64 k ∧ BitsAt w.heap.size w x k wr) (fun i _ => 64 - (intOf i).toNat)
  case atStart =>
    refine ⟨0, by omega, rfl, ⟨?_, ?_, ?_, ?_⟩, ?_, ?_, ?_⟩
    case refine_5 =>
      have := RowAt.newOf (w.alloc (Obj.cells #[Value.int IntKind.u64 ↑(lo x).toNat, Value.int IntKind.u64 ↑(hi x).toNat] 77)) 128 (bv fun _ => false) 158 Z128 (fun j hj => Z128_get j hj _ rfl)
      simpa using this.alloc (Obj.cells Z128 158)
    case refine_6 =>
      have := RowAt.newOf ((w.alloc (Obj.cells #[Value.int IntKind.u64 ↑(lo x).toNat, Value.int IntKind.u64 ↑(hi x).toNat] 77)).alloc (Obj.cells Z128 158)) 128 (bv fun j => decide (j < 0 ∨ (64 ≤ j ∧ j < 64 + 0)) && tb x j) 158 Z128 (fun j hj => Z128_get j hj _ (by simp; omega))
      simpa using this
    case refine_7 => exact (((Below.refl _ _).alloc (Nat.le_refl _) _).alloc (by simp) _).alloc (by simp; omega) _
    all_goals simp [go_sem]
  case round =>
    obtain ⟨k, hk, rfl, hT⟩ := hrel
    by_cases hlt : k < 64
    · have HT := hideit hT
      obtain ⟨⟨c1, c2, _, _⟩, _, hR, _⟩ := hT
      have e1 := hR.1 k (by omega)
      have e2 := hR.1 (64 + k) (by omega)
      have g1 := hR.2.1 k (by omega)
      have g2 := hR.2.1 (64 + k) (by omega)
      have t1 := tb_lo x k hlt
      have t2 := tb_hi x k hlt
      clear hR
      go_wp2
      go_roundw
      case rel =>
        first | exact ⟨(k + 1 : Nat), by omega, by go_num, HT.out.step hlt⟩ | ((repeat apply Exists.intro); exact ⟨⟨k + 1, by omega, by go_num, HT.out.step hlt⟩, rfl⟩)
      case measure => simp [intOf]; omega
    · obtain rfl : k = 64 := by omega
      obtain ⟨_, hR0, hR, hB⟩ := hT
      have HR := hideit (hR.congr (g' := bv (tb x)) (fun j hj => by
        have : decide (j < 64 ∨ 64 ≤ j ∧ j < 64 + 64) = true := by simp; omega
        simp only [bv, this]; simp))
      have HR0 := hideit hR0
      clear hR hR0
      go_wp2_with (first | (refine wpList_load_mid rfl 158 (.tmp 3) rfl _ 0 rfl (row 128 (bv (tb x))) _ HR.out.range Tryz.underlying158 rfl (by rw [row_length]; exact info42A) ?_) | (refine wpList_store_mid rfl 158 (.tmp 2) (.tmp 26) rfl _ 0 (row 128 (bv (tb x))).toArray rfl rfl (by rw [row_size]; exact HR0.out.there) (by rw [row_size]; exact info42A) (row_one fun _ _ => rfl) ?_))
      refine bodyPost_ret (v := .agg (row 128 (bv (tb x))).toArray) ?_ rfl ⟨rfl, below_setCells _ (by omega) _ _ _ hB⟩
      have hl := run_loadVar_mid (P := Tryz.prog) (wr.setCells (w.heap.size + 1) 0 (row 128 (bv (tb x)))) (w.heap.size + 1) 0 158 (row 128 (bv (tb x))) _ (HR0.out.cells (g' := bv (tb x))).range Tryz.underlying158 rfl (by rw [row_length]; exact info42A)
      simp [results, Tryz.results112, Act.put, asAddr, hl]
theorem frombits_any (f : Nat → Bool) (w : World) :
    Calls Tryz.prog 108 #[.agg (row 128 (bv f)).toArray] w fun e w' => e = .returned (.agg #[.int .u64 ((lo (fb f)).toNat : Int), .int .u64 ((hi (fb f)).toNat : Int)]) ∧ Below w.heap.size w w' := by
  go_enter Tryz.func108, Tryz.ntmps108
  go_wp2
  go_loopw [4] (fun i wr => ∃ k : Nat, k ≤ 64 ∧ i = .int .i64 k ∧ FromAt w.heap.size w f k wr) (fun i _ => 64 - (intOf i).toNat)
  case atStart =>
    refine ⟨0, by omega, rfl, ?_, ⟨?_, ?_, ?_, ?_⟩, ⟨?_, ?_, ?_, ?_⟩, ?_⟩
    case refine_1 => exact ((RowAt.new w 128 (bv f) 158).alloc _).alloc _
    case refine_10 => exact (((Below.refl _ _).alloc (Nat.le_refl _) _).alloc (by simp) _).alloc (by simp; omega) _
    all_goals simp [go_sem, fbK, bwK, jn, lo, hi]
  case round =>
    obtain ⟨k, hk, rfl, hT⟩ := hrel
    by_cases hlt : k < 64
    · have HT := hideit hT
      obtain ⟨hR, _, ⟨c1, c2, f1, f2⟩, _⟩ := hT
      have e1 := hR.1 k (by omega)
      have e2 := hR.1 (64 + k) (by omega)
      clear hR
      rcases h1 : f k with _ | _
      · rcases h2 : f (64 + k) with _ | _
        · simp only [bv, h1, h2] at e1 e2
          have H1 := hideit h1
          have H2 := hideit h2
          clear h1 h2
          go_wp2
          go_roundw
          case rel =>
            obtain ⟨h1, h2, h3, h4⟩ := HT.out
            first | refine ⟨(k + 1 : Nat), by omega, by go_num, ?_⟩ | ((repeat apply Exists.intro); refine ⟨⟨k + 1, by omega, by go_num, ?_⟩, rfl⟩)
            exact ⟨h1, h2, h3.same (no_lo f k H1.out) (no_hi f k H2.out), h4⟩
          case measure => simp [intOf]; omega
        · simp only [bv, h1, h2] at e1 e2
          have o2 := or_hi f k hlt h2
          have H1 := hideit h1
          have H2 := hideit h2
          clear h1 h2
          go_wp2
          go_region
          all_goals (try go_wp2)
          go_roundw
          case rel =>
            obtain ⟨h1, h2, h3, h4⟩ := HT.out
            first | refine ⟨(k + 1 : Nat), by omega, by go_num, ?_⟩ | ((repeat apply Exists.intro); refine ⟨⟨k + 1, by omega, by go_num, ?_⟩, rfl⟩)
            exact ⟨h1.other _ _ (by simp; omega), h2.other _ _ (by omega), h3.setHi (no_lo f k H1.out), (h4.setCell (by simp; omega) _).drew⟩
          case measure => simp [intOf]; omega
      · rcases h2 : f (64 + k) with _ | _
        · simp only [bv, h1, h2] at e1 e2
          have o1 := or_lo f k hlt h1
          have H1 := hideit h1
          have H2 := hideit h2
          clear h1 h2
          go_wp2
          go_region
          all_goals (try go_wp2)
          go_roundw
          case rel =>
            obtain ⟨h1, h2, h3, h4⟩ := HT.out
            first | refine ⟨(k + 1 : Nat), by omega, by go_num, ?_⟩ | ((repeat apply Exists.intro); refine ⟨⟨k + 1, by omega, by go_num, ?_⟩, rfl⟩)
            exact ⟨h1.other _ _ (by simp; omega), h2.other _ _ (by omega), h3.setLo (no_hi f k H2.out), (h4.setCell (by simp; omega) _).drew⟩
          case measure => simp [intOf]; omega
        · simp only [bv, h1, h2] at e1 e2
          have o1 := or_lo f k hlt h1
          have o2 := or_hi f k hlt h2
          have H1 := hideit h1
          have H2 := hideit h2
          clear h1 h2
          go_wp2
          go_region
          all_goals (try go_wp2)
          go_region
          all_goals (try go_wp2)
          go_roundw
          case rel =>
            obtain ⟨h1, h2, h3, h4⟩ := HT.out
            first | refine ⟨(k + 1 : Nat), by omega, by go_num, ?_⟩ | ((repeat apply Exists.intro); refine ⟨⟨k + 1, by omega, by go_num, ?_⟩, rfl⟩)
            exact ⟨(h1.other _ _ (by simp; omega)).other _ _ (by simp; omega), (h2.other _ _ (by omega)).other _ _ (by omega), h3.set (fbK f (k + 1)), ((h4.setCell (by simp; omega) _).setCell (by simp; omega) _).drew.drew⟩
          case measure => simp [intOf]; omega
    · obtain rfl : k = 64 := by omega
      obtain ⟨_, ⟨c5, c6, f5, f6⟩, ⟨c3, c4, f3, f4⟩, hB⟩ := hT
      go_wp2
      refine bodyPost_ret (v := .agg #[.int .u64 ((lo (fb f)).toNat : Int), .int .u64 ((hi (fb f)).toNat : Int)]) (by simp [results, Tryz.results108, go_sem, c5, c6, fb]) rfl ⟨rfl, ?_⟩
      exact (hB.setCell (by simp) _).setCell (by simp) _
end Go.Proofs.YtfpfgbhdehbggaaGreatDoor
