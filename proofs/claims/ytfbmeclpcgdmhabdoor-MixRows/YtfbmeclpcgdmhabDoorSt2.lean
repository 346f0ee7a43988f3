/-
  Sixteen words stirred.
-/
import Derived.Test.YtfbmeclpcgdmhabDoorSt1
namespace Go.Proofs.YtfbmeclpcgdmhabDoor
open Go.RowKit Go.BigFrame
/-- mix's own table of places stands -/
def TabM (w : World) : Prop := (∀ j, j < 32 → w.cell? ⟨0, j, none⟩ = some (iv plF j)) ∧ 0 < w.heap.size
theorem TabM.ext {w X : World} (h : TabM w) (k : Ext w X) : TabM X :=
  ⟨fun j hj => (Below.cell k (p := ⟨0, j, none⟩) h.2).trans (h.1 j hj), Nat.lt_of_lt_of_le h.2 (Below.size k)⟩
structure SS (w : World) (b : Nat) (v : Nat → BitVec 64) (X : World) : Prop where
  ext : Ext w X
  st : RowAt b 16 (wv v) X
  res : RowAt (b + 1) 16 (wv fun _ => 0#64) X
theorem SS.carry {w X Y : World} {b : Nat} {v : Nat → BitVec 64} (h : SS w b v X) (k : Ext X Y) : SS w b v Y := ⟨Ext.trans h.ext k, h.st.carry k, h.res.carry k⟩
theorem SS.set {w X : World} {b : Nat} {v : Nat → BitVec 64} (h : SS w b v X) (hb : w.heap.size ≤ b) (i : Nat) (a : BitVec 64) : SS w b (fun j => if j = i then a else v j) (X.setCell ⟨b, i, none⟩ (.int .u64 (a.toNat : Int))) :=
  ⟨Below.setCell h.ext hb _, (h.st.set i (.int .u64 (a.toNat : Int))).congr fun j _ => by
    simp only [wv]
    split <;> rfl, h.res.other _ _ (by show b ≠ b + 1; omega)⟩
set_option maxRecDepth 20000 in
set_option maxHeartbeats 4000000 in
theorem Stir_any (v : Nat → BitVec 64) (w : World) (hC : TabM w) :
    Calls Tryd.prog 8 #[.agg (row 16 (wv v)).toArray] w fun e w' => e = .returned (.agg (row 16 (wv (stK v 8))).toArray) ∧ Ext w w' := by
  have hz := zero46
  have hz57 := zero57
  obtain ⟨F, hF⟩ : ∃ F, F = stK v := ⟨_, rfl⟩
  have hF0 : Hid (F 0 = v) := by rw [hF]; rfl
  have hFs : Hid (∀ k, F (k + 1) = rowSt (F k) (plF (4 * k)) (plF (4 * k + 1)) (plF (4 * k + 2)) (plF (4 * k + 3))) := fun k => by rw [hF]; rfl
  rw [← hF]
  clear hF
  go_enter Tryd.func8, Tryd.ntmps8
  go_upto_region 1 with (fail)
  have HM : SS w w.heap.size (F 0) ((w.alloc (.cells (row 16 (wv v)).toArray 25)).alloc (.cells (row 16 (wv fun _ => 0#64)).toArray 25)) := by
    rw [hF0.out]
    refine ⟨((Below.refl _ _).alloc (Nat.le_refl _) _).alloc (by simp) _, (RowAt.new w 16 (wv v) 25).alloc _, ?_⟩
    have := RowAt.new (w.alloc (.cells (row 16 (wv v)).toArray 25)) 16 (wv fun _ => 0#64) 25
    simpa using this
  replace HM := hideit HM
  generalize (w.alloc (.cells (row 16 (wv v)).toArray 25)).alloc (.cells (row 16 (wv fun _ => 0#64)).toArray 25) = w1 at *
  have HC1 := hideit (hC.ext HM.out.ext)
  clear hC
  refine wp_region_lit ?_
  refine wpList_load_mid rfl 43 (.global 0) rfl 0 0 rfl (row 32 (iv plF)) _ (fun j u hu => by
    obtain ⟨hj, rfl⟩ := row_some hu
    rw [Nat.zero_add]
    exact HC1.out.1 j hj) Tryd.underlying43 rfl (by rw [row_length]; exact info58) ?_
  simp only [Act.put, List.setIfInBounds_toArray, List.set_cons_zero, List.set_cons_succ]
  obtain ⟨TB, hTB⟩ : ∃ TB, TB = (Value.agg (row 32 (iv plF)).toArray) := ⟨_, rfl⟩
  have hidx : ∀ k : Nat, k < 8 → ∀ X : World, (Instr.index 43 TB (.int .i64 (k : Int))).run Tryd.prog X = .ok (.agg (row 4 (iv fun j => plF (4 * k + j))).toArray) X := fun k hk X => by rw [hTB]; exact idx58 k hk X
  replace hidx := hideit hidx
  rw [← hTB]
  clear hTB HC1
  have hbb : w.heap.size ≤ w.heap.size := Nat.le_refl _
  obtain ⟨b, hb⟩ : ∃ b, b = w.heap.size := ⟨_, rfl⟩
  have hb0 : w.heap.size ≤ b := by omega
  rw [← hb] at HM ⊢
  clear hbb hb
  go_wp2
  go_loopw [6] (fun i wr => ∃ k : Nat, k ≤ 8 ∧ i = .int .i64 k ∧ SS w b (F k) wr) (fun i _ => 8 - (intOf i).toNat)
  case atStart => exact ⟨0, by omega, rfl, HM.out⟩
  case round =>
    clear HM
    obtain ⟨k, hk, rfl, hS⟩ := hrel
    have HS := hideit hS
    clear hS
    by_cases hlt : k < 8
    · have i0 : (0 : Int) ≤ (k : Int) := by omega
      have i1 : (k : Int) < 8 := by omega
      have hix := hidx.out k hlt
      go_upto_region 3 with (fail)
      refine wp_region_lit ?_
      refine wpList_run rfl (.agg (row 4 (iv fun j => plF (4 * k + j))).toArray) (by simp [go_sem, hix]) ?_
      simp only [Act.put, List.setIfInBounds_toArray, List.set_cons_zero, List.set_cons_succ]
      clear hix
      have HN := hideit (RowAt.new wr 4 (iv fun _ => 0) 42)
      have hE4 : Ext wr (wr.alloc (.cells (row 4 (iv fun _ => 0)).toArray 42)) := (Below.refl _ _).alloc (Nat.le_refl _) _
      refine wpList_to rfl (.pointer (some ⟨wr.heap.size, 0, none⟩)) (wr.alloc (.cells (row 4 (iv fun _ => 0)).toArray 42)) (by simp [go_sem, hz57]) ?_
      simp only [Act.put, List.setIfInBounds_toArray, List.set_cons_zero, List.set_cons_succ]
      obtain ⟨pp, hpp⟩ : ∃ pp, pp = fun j => plF (4 * k + j) := ⟨_, rfl⟩
      rw [← hpp]
      refine wpList_store_mid rfl 42 (.tmp 4) (.tmp 8) rfl _ 0 (row 4 (iv pp)).toArray rfl rfl (by rw [row_size]; exact HN.out.there) (by rw [row_size]; exact info57) (row_one fun _ _ => rfl) ?_
      have hE5 : Ext wr ((wr.alloc (.cells (row 4 (iv fun _ => 0)).toArray 42)).setCells wr.heap.size 0 (row 4 (iv pp))) := below_setCells wr.heap.size (Nat.le_refl _) _ _ _ hE4
      have HP := hideit (HN.out.cells (g' := iv pp))
      have HS5 := hideit (HS.out.carry hE5)
      have hb8 : b + 1 < wr.heap.size := HS.out.res.2.2
      generalize (wr.alloc (.cells (row 4 (iv fun _ => 0)).toArray 42)).setCells wr.heap.size 0 (row 4 (iv pp)) = w5 at *
      generalize wr.heap.size = b8 at *
      clear HN hE4 hE5 HS
      have hp0 : Hid (pp 0 = plF (4 * k) ∧ pp 1 = plF (4 * k + 1) ∧ pp 2 = plF (4 * k + 2) ∧ pp 3 = plF (4 * k + 3)) := by rw [hpp]; exact ⟨rfl, rfl, rfl, rfl⟩
      have hl0 : pp 0 < 16 := by rw [hpp]; exact pl_lt _ (by omega)
      have hl1 : pp 1 < 16 := by rw [hpp]; exact pl_lt _ (by omega)
      have hl2 : pp 2 < 16 := by rw [hpp]; exact pl_lt _ (by omega)
      have hl3 : pp 3 < 16 := by rw [hpp]; exact pl_lt _ (by omega)
      clear hpp
      simp only [Act.put]
      have hFk := hFs.out k
      rw [← hp0.out.1, ← hp0.out.2.1, ← hp0.out.2.2.1, ← hp0.out.2.2.2] at hFk
      replace hFk := hideit hFk
      obtain ⟨A', hA'⟩ : ∃ A', A' = (st4 (F k (pp 0)) (F k (pp 1)) (F k (pp 2)) (F k (pp 3))).1 := ⟨_, rfl⟩
      obtain ⟨B', hB'⟩ : ∃ A', A' = (st4 (F k (pp 0)) (F k (pp 1)) (F k (pp 2)) (F k (pp 3))).2.1 := ⟨_, rfl⟩
      obtain ⟨C', hC'⟩ : ∃ A', A' = (st4 (F k (pp 0)) (F k (pp 1)) (F k (pp 2)) (F k (pp 3))).2.2.1 := ⟨_, rfl⟩
      obtain ⟨D', hD'⟩ : ∃ A', A' = (st4 (F k (pp 0)) (F k (pp 1)) (F k (pp 2)) (F k (pp 3))).2.2.2 := ⟨_, rfl⟩
      have hmx := stir_any (F k (pp 0)) (F k (pp 1)) (F k (pp 2)) (F k (pp 3))
      rw [← hA', ← hB', ← hC', ← hD'] at hmx
      replace hmx := hideit hmx
      have hFk2 : Hid (∀ j, F (k + 1) j = if j = pp 3 then D' else if j = pp 2 then C' else if j = pp 1 then B' else if j = pp 0 then A' else F k j) := fun j => by rw [hFk.out, hA', hB', hC', hD']; rfl
      clear hFk hA' hB' hC' hD'
      go_upto_region 4 with (fail)
      have hne := kept_ne w5.drew
      have q0 : ∀ q : Kept (Ext w5.drew), q.w.cell? ⟨b8, 0, none⟩ = some (.int .i64 ((pp 0 : Nat) : Int)) := fun q => HP.out.kept 0 (by omega) q
      have q1 : ∀ q : Kept (Ext w5.drew), q.w.cell? ⟨b8, 1, none⟩ = some (.int .i64 ((pp 1 : Nat) : Int)) := fun q => HP.out.kept 1 (by omega) q
      have q2 : ∀ q : Kept (Ext w5.drew), q.w.cell? ⟨b8, 2, none⟩ = some (.int .i64 ((pp 2 : Nat) : Int)) := fun q => HP.out.kept 2 (by omega) q
      have q3 : ∀ q : Kept (Ext w5.drew), q.w.cell? ⟨b8, 3, none⟩ = some (.int .i64 ((pp 3 : Nat) : Int)) := fun q => HP.out.kept 3 (by omega) q
      have s0 : ∀ q : Kept (Ext w5.drew), q.w.cell? ⟨b, pp 0, none⟩ = some (.int .u64 ((F k (pp 0)).toNat : Int)) := fun q => HS5.out.st.kept (pp 0) hl0 q
      have s1 : ∀ q : Kept (Ext w5.drew), q.w.cell? ⟨b, pp 1, none⟩ = some (.int .u64 ((F k (pp 1)).toNat : Int)) := fun q => HS5.out.st.kept (pp 1) hl1 q
      have s2 : ∀ q : Kept (Ext w5.drew), q.w.cell? ⟨b, pp 2, none⟩ = some (.int .u64 ((F k (pp 2)).toNat : Int)) := fun q => HS5.out.st.kept (pp 2) hl2 q
      have s3 : ∀ q : Kept (Ext w5.drew), q.w.cell? ⟨b, pp 3, none⟩ = some (.int .u64 ((F k (pp 3)).toNat : Int)) := fun q => HS5.out.st.kept (pp 3) hl3 q
      have m0 : (0 : Int) ≤ ((pp 0 : Nat) : Int) := by omega
      have m0' : ((pp 0 : Nat) : Int) < 16 := by omega
      have m1 : (0 : Int) ≤ ((pp 1 : Nat) : Int) := by omega
      have m1' : ((pp 1 : Nat) : Int) < 16 := by omega
      have m2 : (0 : Int) ≤ ((pp 2 : Nat) : Int) := by omega
      have m2' : ((pp 2 : Nat) : Int) < 16 := by omega
      have m3 : (0 : Int) ≤ ((pp 3 : Nat) : Int) := by omega
      have m3' : ((pp 3 : Nat) : Int) < 16 := by omega
      refine wp_region_flo (fun Y => RowAt b8 4 (iv pp) Y) (fun Y hY => HP.out.carry (Ext.trans (Below.refl _ _).drew hY)) [0, 1, 8, 9, 10, 11, 12, 13, 14, 15, 16, 17, 18, 19, 20, 21, 22, 23, 24, 25, 26] [2, 3, 4, 5, 6, 7, 27, 28, 29] [30, 31, 32, 33, 34, 35, 36, 37] [_, _, _, _, _, _, _, _, _, _, _, _, _, _, _, _, _, _, _, _, _] (by kernel_rfl) (by kernel_rfl) (by decide) rfl (by decide +kernel) (by decide +kernel) (by decide +kernel) (by decide +kernel) (by decide +kernel) (by decide +kernel) (by decide +kernel) (by decide +kernel) (by decide +kernel) ?_
      simp only [List.getElem_toArray, List.getElem_cons_zero, List.getElem_cons_succ]
      refine wpStrong_run 18 rfl ?_
      simp only [List.take_succ_cons, List.take_zero, List.drop_succ_cons, List.drop_zero]
      repeat (go_big_quiet_step (fail))
      refine wpQuiet_nil ?_
      refine wpStrong_call rfl (fun Y => by simp [go_sem]) (fun Y _ => (hmx.out Y).mono fun e w' h => ⟨h.1, by rw [h.2]; exact Below.refl _ _⟩) ?_
      simp only [Act.put, List.setIfInBounds_toArray, List.set_cons_zero, List.set_cons_succ]
      refine wpStrong_run 2 rfl ?_
      simp only [List.take_succ_cons, List.take_zero, List.drop_succ_cons, List.drop_zero]
      repeat (go_big_quiet_step (fail))
      refine wpQuiet_nil ?_
      refine wpStrong_nil ?_
      refine wpF_one _ (.pointer (some ⟨b8, 1, none⟩)) rfl rfl (fun Y _ => by simp [go_sem]) ?_
      simp only [List.getElem_toArray, List.getElem_cons_zero, List.getElem_cons_succ, Act.put, List.setIfInBounds_toArray, List.set_cons_zero, List.set_cons_succ]
      refine wpF_one _ (.int .i64 ((pp 1 : Nat) : Int)) rfl rfl (fun Y hY => by
        have e := hY.1 1 (by omega)
        simp only [iv] at e
        simp [go_sem, e]) ?_
      simp only [List.getElem_toArray, List.getElem_cons_zero, List.getElem_cons_succ, Act.put, List.setIfInBounds_toArray, List.set_cons_zero, List.set_cons_succ]
      refine wpF_one _ (.pointer (some ⟨b8, 2, none⟩)) rfl rfl (fun Y _ => by simp [go_sem]) ?_
      simp only [List.getElem_toArray, List.getElem_cons_zero, List.getElem_cons_succ, Act.put, List.setIfInBounds_toArray, List.set_cons_zero, List.set_cons_succ]
      refine wpF_one _ (.int .i64 ((pp 2 : Nat) : Int)) rfl rfl (fun Y hY => by
        have e := hY.1 2 (by omega)
        simp only [iv] at e
        simp [go_sem, e]) ?_
      simp only [List.getElem_toArray, List.getElem_cons_zero, List.getElem_cons_succ, Act.put, List.setIfInBounds_toArray, List.set_cons_zero, List.set_cons_succ]
      refine wpF_one _ (.pointer (some ⟨b8, 3, none⟩)) rfl rfl (fun Y _ => by simp [go_sem]) ?_
      simp only [List.getElem_toArray, List.getElem_cons_zero, List.getElem_cons_succ, Act.put, List.setIfInBounds_toArray, List.set_cons_zero, List.set_cons_succ]
      refine wpF_one _ (.int .i64 ((pp 3 : Nat) : Int)) rfl rfl (fun Y hY => by
        have e := hY.1 3 (by omega)
        simp only [iv] at e
        simp [go_sem, e]) ?_
      simp only [List.getElem_toArray, List.getElem_cons_zero, List.getElem_cons_succ, Act.put, List.setIfInBounds_toArray, List.set_cons_zero, List.set_cons_succ]
      refine wpF_one _ (.int .u64 (B'.toNat : Int)) rfl rfl (fun Y _ => by simp [go_sem]) ?_
      simp only [List.getElem_toArray, List.getElem_cons_zero, List.getElem_cons_succ, Act.put, List.setIfInBounds_toArray, List.set_cons_zero, List.set_cons_succ]
      refine wpF_one _ (.int .u64 (C'.toNat : Int)) rfl rfl (fun Y _ => by simp [go_sem]) ?_
      simp only [List.getElem_toArray, List.getElem_cons_zero, List.getElem_cons_succ, Act.put, List.setIfInBounds_toArray, List.set_cons_zero, List.set_cons_succ]
      refine wpF_one _ (.int .u64 (D'.toNat : Int)) rfl rfl (fun Y _ => by simp [go_sem]) ?_
      simp only [List.getElem_toArray, List.getElem_cons_zero, List.getElem_cons_succ, Act.put, List.setIfInBounds_toArray, List.set_cons_zero, List.set_cons_succ]
      refine wpF_nil ?_
      intro Y hY
      have HS7 := hideit (HS5.out.carry (Ext.trans (Below.refl _ _).drew hY))
      have HP7 := hideit (HP.out.carry (Ext.trans (Below.refl _ _).drew hY))
      clear hY hne q0 q1 q2 q3 s0 s1 s2 s3 HS5 HP hmx
      have e0 := HS7.out.st.1 (pp 0) hl0
      have g0 := HS7.out.st.2.1 (pp 0) hl0
      simp only [wv] at e0
      refine wpL_val _ (.pointer (some ⟨b, pp 0, none⟩)) rfl rfl (by simp [go_sem, m0, m0']) HP7.out ?_
      simp only [List.getElem_toArray, List.getElem_cons_zero, List.getElem_cons_succ, Act.put, List.setIfInBounds_toArray, List.set_cons_zero, List.set_cons_succ]
      have HT0 := hideit (HS7.out.set hb0 (pp 0) A')
      have HQ0 := hideit (HP7.out.other ⟨b, pp 0, none⟩ (.int .u64 (A'.toNat : Int)) (by show b ≠ b8; omega))
      refine wpL_skip _ (Y.setCell ⟨b, pp 0, none⟩ (.int .u64 (A'.toNat : Int))) rfl rfl (by simp [go_sem, e0, g0]) HQ0.out ?_
      simp only [List.getElem_toArray, List.getElem_cons_zero, List.getElem_cons_succ, Act.put]
      generalize Y.setCell ⟨b, pp 0, none⟩ (.int .u64 (A'.toNat : Int)) = Y0 at *
      clear e0 g0 HS7 HP7
      have e1 := HT0.out.st.1 (pp 1) hl1
      have g1 := HT0.out.st.2.1 (pp 1) hl1
      simp only [wv] at e1
      refine wpL_val _ (.pointer (some ⟨b, pp 1, none⟩)) rfl rfl (by simp [go_sem, m1, m1']) HQ0.out ?_
      simp only [List.getElem_toArray, List.getElem_cons_zero, List.getElem_cons_succ, Act.put, List.setIfInBounds_toArray, List.set_cons_zero, List.set_cons_succ]
      have HT1 := hideit (HT0.out.set hb0 (pp 1) B')
      have HQ1 := hideit (HQ0.out.other ⟨b, pp 1, none⟩ (.int .u64 (B'.toNat : Int)) (by show b ≠ b8; omega))
      refine wpL_skip _ (Y0.setCell ⟨b, pp 1, none⟩ (.int .u64 (B'.toNat : Int))) rfl rfl (by simp [go_sem, e1, g1]) HQ1.out ?_
      simp only [List.getElem_toArray, List.getElem_cons_zero, List.getElem_cons_succ, Act.put]
      generalize Y0.setCell ⟨b, pp 1, none⟩ (.int .u64 (B'.toNat : Int)) = Y1 at *
      clear e1 g1 HT0 HQ0
      have e2 := HT1.out.st.1 (pp 2) hl2
      have g2 := HT1.out.st.2.1 (pp 2) hl2
      simp only [wv] at e2
      refine wpL_val _ (.pointer (some ⟨b, pp 2, none⟩)) rfl rfl (by simp [go_sem, m2, m2']) HQ1.out ?_
      simp only [List.getElem_toArray, List.getElem_cons_zero, List.getElem_cons_succ, Act.put, List.setIfInBounds_toArray, List.set_cons_zero, List.set_cons_succ]
      have HT2 := hideit (HT1.out.set hb0 (pp 2) C')
      have HQ2 := hideit (HQ1.out.other ⟨b, pp 2, none⟩ (.int .u64 (C'.toNat : Int)) (by show b ≠ b8; omega))
      refine wpL_skip _ (Y1.setCell ⟨b, pp 2, none⟩ (.int .u64 (C'.toNat : Int))) rfl rfl (by simp [go_sem, e2, g2]) HQ2.out ?_
      simp only [List.getElem_toArray, List.getElem_cons_zero, List.getElem_cons_succ, Act.put]
      generalize Y1.setCell ⟨b, pp 2, none⟩ (.int .u64 (C'.toNat : Int)) = Y2 at *
      clear e2 g2 HT1 HQ1
      have e3 := HT2.out.st.1 (pp 3) hl3
      have g3 := HT2.out.st.2.1 (pp 3) hl3
      simp only [wv] at e3
      refine wpL_val _ (.pointer (some ⟨b, pp 3, none⟩)) rfl rfl (by simp [go_sem, m3, m3']) HQ2.out ?_
      simp only [List.getElem_toArray, List.getElem_cons_zero, List.getElem_cons_succ, Act.put, List.setIfInBounds_toArray, List.set_cons_zero, List.set_cons_succ]
      have HT3 := hideit (HT2.out.set hb0 (pp 3) D')
      have HQ3 := hideit (HQ2.out.other ⟨b, pp 3, none⟩ (.int .u64 (D'.toNat : Int)) (by show b ≠ b8; omega))
      refine wpL_skip _ (Y2.setCell ⟨b, pp 3, none⟩ (.int .u64 (D'.toNat : Int))) rfl rfl (by simp [go_sem, e3, g3]) HQ3.out ?_
      refine wpL_nil ?_
      simp only [Act.put]
      have HU : SS w b (F (k + 1)) (Y2.setCell ⟨b, pp 3, none⟩ (.int .u64 (D'.toNat : Int))) := by
        have h := HT3.out
        refine ⟨h.ext, h.st.congr fun j _ => ?_, h.res⟩
        simp only [wv]
        rw [hFk2.out j]
      replace HU := hideit HU
      clear HT3 HQ3 HT2 HQ2
      go_wp2
      exact ⟨⟨k + 1, by omega, by go_num, HU.out⟩, by simp [intOf]; omega⟩
    · obtain rfl : k = 8 := by omega
      go_wp2_with (first | (refine wpList_load_mid rfl 25 (.tmp 1) rfl _ 0 rfl (row 16 (wv (F 8))) _ HS.out.st.range Tryd.underlying25 rfl (by rw [row_length]; exact info46) ?_) | (refine wpList_store_mid rfl 25 (.tmp 2) (.tmp 44) rfl _ 0 (row 16 (wv (F 8))).toArray rfl rfl (by rw [row_size]; exact HS.out.res.there) (by rw [row_size]; exact info46) (row_one fun _ _ => rfl) ?_))
      exact bodyPost_ret (ret_row Tryd.results8 rfl (HS.out.res.cells (g' := wv (F 8))) Tryd.underlying25 rfl info46) rfl ⟨rfl, below_setCells _ (by omega) _ _ _ HS.out.ext⟩
end Go.Proofs.YtfbmeclpcgdmhabDoor
