/-
  The document's derived bytes.
-/
import Derived.Test.YthgflnjeojhgkaaDoorHRTag
import Derived.Lib.AppendStr
namespace Go.Proofs.YthgflnjeojhgkaaDoor
open Go.RowKit Go.BigFrame
theorem str_row (s : ByteArray) : Lib.strCells s = row s.size (yv (labF s)) := by
  apply List.ext_getElem?
  intro j
  by_cases hj : j < s.size
  · rw [row_get _ _ j hj]
    have h1 := lab_cell s s.size j hj
    unfold bytesRow at h1
    rw [Array.getElem?_append_left (by simpa using hj)] at h1
    rw [← h1]
    unfold Lib.strCells
    simp
  · rw [List.getElem?_eq_none (by rw [Lib.strCells_length]; omega), List.getElem?_eq_none (by rw [row_length]; omega)]
set_option maxRecDepth 20000 in
set_option maxHeartbeats 4000000 in
theorem rderive_any (v : Value) (l : Nat) (key : Nat → BitVec 8) (s : ByteArray) (n : Nat) (w : World) (h : BV v l key w) (hl : l ≤ 140737488351232) (hs : s.size ≤ 140737488351232) (hn1 : 1 ≤ n) (hn2 : n ≤ 8160) :
    Calls Tryd.prog 16 #[v, .string s, .int .i64 (n : Int)] w fun e w' => ∃ v', e = .returned v' ∧ BV v' n (drvF l key s.size (labF s)) w' ∧ Ext w w' := by
  have hz2 := zero24
  have c23 := cutR23
  obtain ⟨oa0, cp0, rfl⟩ := h.form
  have hK := hideit h
  clear h
  obtain ⟨D, hD⟩ : ∃ D, D = dTag l key s.size (labF s) := ⟨_, rfl⟩
  have hDf : Hid (drvF l key s.size (labF s) = fun j => D (j / 32) (j % 32)) := by rw [hD]; rfl
  rw [show drvF l key s.size (labF s) = fun j => D (j / 32) (j % 32) from hDf]
  obtain ⟨PF, hPF⟩ : ∃ PF, PF = prevF l key s.size (labF s) := ⟨_, rfl⟩
  have hPF1 : Hid (∀ c, PF (c + 1) = D c) := fun c => by rw [hPF, hD]; rfl
  have hDT : Hid (∀ c, D c = tagF l key (allF (dls (prevL c) s.size) (dbs (PF c) (labF s) (BitVec.ofNat 8 (c + 1))) 3) (sumL (dls (prevL c) s.size) 3)) := fun c => by rw [hD, hPF]; exact dTag_eq _ _ _ _ c
  clear hD hPF hDf
  have i1 : ¬ (n : Int) < 1 := by omega
  have i2 : ¬ (8160 : Int) < (n : Int) := by omega
  go_enter Tryd.func16, Tryd.ntmps16
  go_wp2
  go_loopw [7, 8, 9] (fun ov av cv wr => ∃ (c : Nat) (u : Value), u = av ∧ c ≤ 255 ∧ cv = .int .i64 ((c + 1 : Nat) : Int) ∧ OwnB w.heap.size 5 ov (32 * c) (yv fun j => D (j / 32) (j % 32)) wr ∧ BV u (prevL c) (PF c) wr ∧ Ext w wr) (fun ov _ _ _ => 8192 - restOf ov)
  case atStart => exact ⟨0, _, rfl, by omega, rfl, own_nil _ _ _ _, .inl ⟨rfl, rfl⟩, Ext.refl _⟩
  case round =>
    obtain ⟨c, av, rfl, hc, rfl, hO, hA, hE⟩ := hrel
    obtain ⟨L, hL⟩ : ∃ L, L = 32 * c := ⟨_, rfl⟩
    rw [← hL] at hO
    obtain ⟨oa, cp, rfl⟩ := own_form hO
    obtain ⟨oav, cav, rfl⟩ := hA.form
    have HO := hideit hO
    have HA := hideit hA
    have HE := hideit hE
    clear hO hA hE
    by_cases hlt : L < n
    · have hc2 : c ≤ 254 := by omega
      obtain ⟨x, hx⟩ : ∃ x, x = BitVec.ofNat 8 (c + 1) := ⟨_, rfl⟩
      have hxn : x.toNat = c + 1 := by rw [hx, BitVec.toNat_ofNat]; omega
      replace hx := hideit hx
      have j1 : (L : Int) < (n : Int) := by omega
      have hjn : Hid (∀ i j, joinF (fun _ => 0#8) 0 (dls (prevL c) s.size) (dbs (PF c) (labF s) x) (i + 1) j = catF (joinF (fun _ => 0#8) 0 (dls (prevL c) s.size) (dbs (PF c) (labF s) x) i) (0 + sumL (dls (prevL c) s.size) i) (dbs (PF c) (labF s) x i) j) := fun i j => rfl
      have hs1 : Hid (0 + sumL (dls (prevL c) s.size) 1 = prevL c) := by show 0 + (0 + dls (prevL c) s.size 0) = _; simp [dls]
      have hs2 : Hid (0 + sumL (dls (prevL c) s.size) 2 = prevL c + s.size) := by show 0 + (0 + dls (prevL c) s.size 0 + dls (prevL c) s.size 1) = _; simp [dls]
      have hs3 : Hid (sumL (dls (prevL c) s.size) 3 = prevL c + s.size + 1) := sum3 _ _
      have hpl : prevL c ≤ 32 := by unfold prevL; split <;> omega
      go_upto_region 7 with (fail)
      refine wp_region_lit ?_
      refine wpList_run rfl (.slice oa0 l cp0) (by simp [go_sem]) ?_
      simp only [Act.put, List.setIfInBounds_toArray, List.set_cons_zero, List.set_cons_succ]
      refine wpList_to rfl (.slice (some ⟨wr.heap.size, 0, none⟩) 0 0) (wr.alloc (.cells #[] 5)) (by simp [go_sem]) ?_
      simp only [Act.put, List.setIfInBounds_toArray, List.set_cons_zero, List.set_cons_succ]
      refine wpList_run rfl (.slice oav (prevL c) cav) (by simp [go_sem]) ?_
      simp only [Act.put, List.setIfInBounds_toArray, List.set_cons_zero, List.set_cons_succ]
      have hE1 : Ext wr (wr.alloc (.cells #[] 5)) := (Below.refl _ _).alloc (Nat.le_refl _) _
      have HO1 := own_empty wr wr.heap.size 5 (yv (joinF (fun _ => 0#8) 0 (dls (prevL c) s.size) (dbs (PF c) (labF s) x) 0)) (Nat.le_refl _)
      refine wpList_growV (n := 0) (base := wr.heap.size) (g := yv (joinF (fun _ => 0#8) 0 (dls (prevL c) s.size) (dbs (PF c) (labF s) x) 0)) elem22 rfl (.tmp 24) (.tmp 25) rfl rfl HO1 _ (prevL c) (PF c) (yv (joinF (fun _ => 0#8) 0 (dls (prevL c) s.size) (dbs (PF c) (labF s) x) 1)) rfl (HA.out.ext hE1) (fun j hj => by omega) (fun j hj => by
        simp only [yv]
        rw [hjn.out 0]
        unfold catF
        rw [if_neg (by show ¬ (0 + j < 0 + 0); omega), show 0 + j - (0 + sumL (dls (prevL c) s.size) 0) = j by show 0 + j - (0 + 0) = j; omega]
        rfl) (by omega) (by simp) ?_
      intro u1 y1 HO2 hg1
      rw [Nat.zero_add] at HO2
      have hE2 : Ext wr y1 := grown_ext hE1 hg1 (fun q hq => (HO1.lt q hq).1)
      obtain ⟨oo1, cc1, rfl⟩ := own_form HO2
      simp only [Act.put, List.setIfInBounds_toArray, List.set_cons_zero, List.set_cons_succ]
      refine wpList_run rfl (.string s) (by simp [go_sem]) ?_
      simp only [Act.put, List.setIfInBounds_toArray, List.set_cons_zero, List.set_cons_succ]
      obtain ⟨ti, hi1, hi2, hi3, hi4⟩ := info_parts (P := Tryd.prog) (e := 5) (by kernel_rfl)
      refine Lib.wpList_append_own_string _ rfl (.tmp 26) (.tmp 27) 22 9 rfl wr.heap.size 5 ti Tryd.underlying22 Tryd.underlying9 hi1 hi2 hi3 hi4 _ (prevL c) _ rfl HO2 s rfl (by unfold maxLen; omega) (by omega) (Below.size hE2) ?_
      intro u2 y2 HO3' hg2 _
      have HO3 : OwnB wr.heap.size 5 u2 (prevL c + s.size) (yv (joinF (fun _ => 0#8) 0 (dls (prevL c) s.size) (dbs (PF c) (labF s) x) 2)) y2 := by
        rw [str_row] at HO3'
        unfold OwnB
        rwa [row_append (prevL c) s.size _ _ (yv (joinF (fun _ => 0#8) 0 (dls (prevL c) s.size) (dbs (PF c) (labF s) x) 2)) (fun j hj => by
          simp only [yv]
          rw [hjn.out 1]
          unfold catF
          rw [hs1.out, if_pos hj]) (fun j hj => by
          simp only [yv]
          rw [hjn.out 1]
          unfold catF
          rw [hs1.out, if_neg (by omega), Nat.add_sub_cancel_left]
          rfl)] at HO3'
      have hE3 : Ext wr y2 := grown_ext hE2 hg2 (fun q hq => (HO2.lt q hq).1)
      obtain ⟨oo2, cc2, rfl⟩ := own_form HO3
      clear HO3'
      simp only [Act.put, List.setIfInBounds_toArray, List.set_cons_zero, List.set_cons_succ]
      refine wpList_run rfl (.int .i64 ((c + 1 : Nat) : Int)) (by simp [go_sem]) ?_
      simp only [Act.put, List.setIfInBounds_toArray, List.set_cons_zero, List.set_cons_succ]
      have hcv : IntKind.u8.wrap ((c : Int) + 1) = (c : Int) + 1 := by rw [IntKind.wrap_u8]; omega
      refine wpList_run rfl (.int .u8 ((c + 1 : Nat) : Int)) (by simp [go_sem, hcv]) ?_
      clear hcv
      simp only [Act.put, List.setIfInBounds_toArray, List.set_cons_zero, List.set_cons_succ]
      have hE4' : Ext y2 (y2.alloc (.cells #[.int .u8 ((c + 1 : Nat) : Int)] 5)) := (Below.refl _ _).alloc (Nat.le_refl _) _
      have hX4 : LieAt ⟨y2.heap.size, 0, none⟩ 1 (yv fun _ => x) (y2.alloc (.cells #[.int .u8 ((c + 1 : Nat) : Int)] 5)) := lie_new y2 1 _ 5 (0, 0) (fun _ => x) (fun j hj => by
        obtain rfl : j = 0 := by omega
        simp only [yv, hxn]; rfl)
      refine wpList_to rfl (.slice (some ⟨y2.heap.size, 0, none⟩) 1 1) (y2.alloc (.cells #[.int .u8 ((c + 1 : Nat) : Int)] 5)) (by simp [go_sem]) ?_
      simp only [Act.put, List.setIfInBounds_toArray, List.set_cons_zero, List.set_cons_succ]
      have HO4 := HO3.ext hE4'
      have hE4 := Ext.trans hE3 hE4'
      refine wpList_growV (n := prevL c + s.size) (base := wr.heap.size) (g := yv (joinF (fun _ => 0#8) 0 (dls (prevL c) s.size) (dbs (PF c) (labF s) x) 2)) elem22 rfl (.tmp 28) (.tmp 31) rfl rfl HO4 _ 1 (fun _ => x) (yv (joinF (fun _ => 0#8) 0 (dls (prevL c) s.size) (dbs (PF c) (labF s) x) 3)) rfl (.inr ⟨_, 1, rfl, Nat.le_refl _, hX4⟩) (fun j hj => by
        simp only [yv]
        rw [hjn.out 2]
        unfold catF
        rw [hs2.out, if_pos hj]) (fun j hj => by
        simp only [yv]
        rw [hjn.out 2]
        unfold catF
        rw [hs2.out, if_neg (by omega), Nat.add_sub_cancel_left]
        rfl) (by omega) (Below.size hE4) ?_
      intro u3 y3 HO5 hg3
      have hE5 : Ext wr y3 := grown_ext hE4 hg3 (fun q hq => (HO4.lt q hq).1)
      have ht := rTag_any _ u3 l (prevL c + s.size + 1) key _ y3 (hK.out.ext (Ext.trans HE.out hE5)) (OwnB.bv HO5) hl (by omega)
      have hRR : tagF l key (joinF (fun _ => 0#8) 0 (dls (prevL c) s.size) (dbs (PF c) (labF s) x) 3) (prevL c + s.size + 1) = D c := by
        rw [hDT.out c, hx.out, hs3.out]
        rfl
      rw [hRR] at ht
      replace ht := hideit ht
      obtain ⟨oo3, cc3, rfl⟩ := own_form HO5
      have HE5 := hideit hE5
      clear hRR HO5 HO4 HO3 HO2 HO1 hE1 hE2 hE3 hE4 hE4' hE5 hX4 hg1 hg2 hg3
      simp only [Act.put, List.setIfInBounds_toArray, List.set_cons_zero, List.set_cons_succ]
      refine wpList_call rfl (by simp [go_sem]) (ht.out.mono ?_)
      rintro e y4 ⟨rfl, hw4⟩
      refine ⟨_, rfl, ?_⟩
      simp only [Act.put, List.setIfInBounds_toArray, List.set_cons_zero, List.set_cons_succ]
      have HN := hideit (RowAt.new y4 32 (yv fun _ => 0#8) 23)
      have hE6 : Ext y4 (y4.alloc (.cells (row 32 (yv fun _ => 0#8)).toArray 23)) := (Below.refl _ _).alloc (Nat.le_refl _) _
      refine wpList_to rfl (.pointer (some ⟨y4.heap.size, 0, none⟩)) (y4.alloc (.cells (row 32 (yv fun _ => 0#8)).toArray 23)) (by simp [go_sem, hz2]) ?_
      simp only [Act.put, List.setIfInBounds_toArray, List.set_cons_zero, List.set_cons_succ]
      refine wpList_store_mid rfl 23 (.tmp 10) (.tmp 33) rfl _ 0 (row 32 (yv (D c))).toArray rfl rfl (by rw [row_size]; exact HN.out.there) (by rw [row_size]; exact info24) (row_one fun _ _ => rfl) ?_
      have hE7 : Ext wr ((y4.alloc (.cells (row 32 (yv fun _ => 0#8)).toArray 23)).setCells y4.heap.size 0 (row 32 (yv (D c)))) := Ext.trans (Ext.trans HE5.out hw4) (below_setCells y4.heap.size (Nat.le_refl _) _ _ _ hE6)
      have HT := hideit (HN.out.cells (g' := yv (D c)))
      have hlt0 := HO.out.lt
      have hwy : wr.heap.size ≤ y4.heap.size := Below.size (Ext.trans HE5.out hw4)
      have hnb : Hid ((Value.slice oa L cp).ownBlock ≠ some y4.heap.size) := fun e => by have := (hlt0 _ e).2; omega
      have HO7 := hideit (HO.out.ext hE7)
      have HE7 := hideit (Ext.trans HE.out hE7)
      generalize (y4.alloc (.cells (row 32 (yv fun _ => 0#8)).toArray 23)).setCells y4.heap.size 0 (row 32 (yv (D c))) = y5 at *
      generalize y4.heap.size = b10 at *
      clear HN hE6 hw4 ht HE5 hlt0 hwy hE7 HO HE HA
      simp only [Act.put]
      go_upto_region 9 with (fail)
      refine wp_region_lit ?_
      refine wpList_run rfl (.slice oa L cp) (by simp [go_sem]) ?_
      simp only [Act.put, List.setIfInBounds_toArray, List.set_cons_zero, List.set_cons_succ]
      refine wpList_run rfl (.slice (some ⟨b10, 0, none⟩) 32 32) (by simp [go_sem]) ?_
      simp only [Act.put, List.setIfInBounds_toArray, List.set_cons_zero, List.set_cons_succ]
      refine wpList_growV (n := L) (base := w.heap.size) (g := yv fun j => D (j / 32) (j % 32)) elem22 rfl (.tmp 35) (.tmp 36) rfl rfl HO7.out _ 32 (D c) (yv fun j => D (j / 32) (j % 32)) rfl (.inr ⟨_, 32, rfl, Nat.le_refl _, HT.out.lie 32 (Nat.le_refl _)⟩) (fun j hj => rfl) (fun j hj => by
        simp only [yv]
        rw [show (L + j) / 32 = c by omega, show (L + j) % 32 = j by omega]) (by omega) (Below.size HE7.out) ?_
      intro v13 w13 hO13 hg13
      have hlt7 := HO7.out.lt
      have HE13 := hideit (grown_ext HE7.out hg13 (fun q hq => (hlt7 q hq).1))
      have HT13 := hideit (HT.out.grown hg13 (fun e => hnb.out e.symm))
      obtain ⟨oa2, cp2, rfl⟩ := own_form hO13
      have HO13 := hideit hO13
      clear hlt7 hg13 hO13 HO7 HE7 HT hnb
      simp only [Act.put, List.setIfInBounds_toArray, List.set_cons_zero, List.set_cons_succ]
      go_wp2
      have hB13 : BV (.slice (some ⟨b10, 0, none⟩) 32 32) (prevL (c + 1)) (PF (c + 1)) w13 := by
        rw [hPF1.out c]
        exact .inr ⟨_, 32, rfl, Nat.le_refl _, HT13.out.lie 32 (Nat.le_refl _)⟩
      have hL1 : L + 32 = 32 * (c + 1) := by omega
      refine ⟨⟨c + 1, _, rfl, by omega, by go_num, hL1 ▸ HO13.out, hB13, HE13.out⟩, by simp [restOf]; omega⟩
    · have j1 : ¬ (L : Int) < (n : Int) := by omega
      have hBn : BV (.slice oa n cp) n (fun j => D (j / 32) (j % 32)) wr := by
        obtain ⟨g, cap, hv, _, hcp, _, hR⟩ := HO.out.lies (by omega)
        injection hv with e1 e2 e3
        subst e1 e3
        exact .inr ⟨_, cp, rfl, by omega, hR.lie n (by omega)⟩
      have hBn := hideit hBn
      have n0 : (0 : Int) ≤ (n : Int) := by omega
      have n1 : (n : Int) ≤ (cp : Int) := by
        obtain ⟨g, cap, hv, _, hcp, _, hR⟩ := HO.out.lies (by omega)
        injection hv with e1 e2 e3
        subst e3
        omega
      have n2 : (L : Int) ≤ (cp : Int) := by
        obtain ⟨g, cap, hv, _, hcp, _, hR⟩ := HO.out.lies (by omega)
        injection hv with e1 e2 e3
        subst e3
        omega
      go_wp2
      go_ret
      exact ⟨_, rfl, hBn.out, HE.out⟩
end Go.Proofs.YthgflnjeojhgkaaDoor
