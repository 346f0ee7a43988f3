/-
  The document's pages as bytes, and back; and that they are one another's way back.
-/
import Derived.Test.YtfbmeclpcgdmhaaDoorLives
namespace Go.Proofs.YtfbmeclpcgdmhaaDoor
open Go.RowKit Go.BigFrame
set_option maxRecDepth 20000 in
set_option maxHeartbeats 2000000 in
theorem rpage_any (v : Value) (p : Nat → BitVec 8) (w : World) (hv : BV v 1024 p w) :
    Calls Tryd.prog 20 #[v] w fun e w' => e = .returned (.tuple #[.agg (row 128 (wv (pgW p))).toArray, .int .i64 0]) ∧ Ext w w' := by
  have hz := zero31p
  obtain ⟨F, hF⟩ : ∃ F, F = pgW p := ⟨_, rfl⟩
  rw [← hF]
  replace hF := hideit hF
  rcases hv with ⟨_, h0⟩ | ⟨a, cap, rfl, _, hL⟩
  · omega
  replace hL := hideit hL
  have H0 : Hid (RowAt w.heap.size 128 (wv fun _ => 0#64) (w.alloc (.cells (row 128 (wv fun _ => 0#64)).toArray 31))) := RowAt.new w 128 _ 31
  go_enter Tryd.func20, Tryd.ntmps20
  go_upto_region 4 with (fail)
  have H1 : RowAt w.heap.size 128 (wv fun _ => 0#64) ((w.alloc (.cells (row 128 (wv fun _ => 0#64)).toArray 31)).alloc (.cells (row 128 (wv fun _ => 0#64)).toArray 31)) := H0.out.alloc _
  have H2 : RowAt (w.heap.size + 1) 128 (wv fun _ => 0#64) ((w.alloc (.cells (row 128 (wv fun _ => 0#64)).toArray 31)).alloc (.cells (row 128 (wv fun _ => 0#64)).toArray 31)) := by
    have := RowAt.new (w.alloc (.cells (row 128 (wv fun _ => 0#64)).toArray 31)) 128 (wv fun _ => 0#64) 31
    simpa using this
  have HB : Ext w ((w.alloc (.cells (row 128 (wv fun _ => 0#64)).toArray 31)).alloc (.cells (row 128 (wv fun _ => 0#64)).toArray 31)) := ((Below.refl _ _).alloc (Nat.le_refl _) _).alloc (by simp) _
  replace H1 := hideit H1
  replace H2 := hideit H2
  replace HB := hideit HB
  generalize (w.alloc (.cells (row 128 (wv fun _ => 0#64)).toArray 31)).alloc (.cells (row 128 (wv fun _ => 0#64)).toArray 31) = w1 at *
  clear H0
  go_wp2
  go_loopw [5] (fun i wr => ∃ n : Nat, n ≤ 1024 ∧ i = .int .i64 n ∧ RowAt w.heap.size 128 (wv fun _ => 0#64) wr ∧ RowAt (w.heap.size + 1) 128 (wv (wK p n)) wr ∧ Ext w wr) (fun i _ => 1024 - (intOf i).toNat)
  case atStart => exact ⟨0, by omega, rfl, H1.out, H2.out, HB.out⟩
  case round =>
    clear H1 H2 HB
    obtain ⟨n, hn, rfl, h2, h3, h4⟩ := hrel
    have H2 := hideit h2
    have H3 := hideit h3
    have H4 := hideit h4
    clear h2 h3 h4
    by_cases hlt : n < 1024
    · have i0 : (0 : Int) ≤ (n : Int) := by omega
      have i1 : (n : Int) < 1024 := by omega
      have ea := (hL.out.carry H4.out).1 n hlt
      simp only [yv] at ea
      go_upto_region 7 with (fail)
      have hne := kept_ne wr.drew
      have e3 : ∀ k : Kept (Ext wr.drew), k.w.cell? ⟨w.heap.size + 1, n / 8, none⟩ = some (.int .u64 ((wK p n (n / 8)).toNat : Int)) := fun k => H3.out.kept (n / 8) (by omega) k
      have e4 : ∀ k : Kept (Ext wr.drew), k.w.cell? (a.add n) = some (.int .u8 ((p n).toNat : Int)) := fun k => ((hL.out.carry H4.out).carry (Ext.trans (Below.refl _ _).drew k.ok)).1 n hlt
      have hsh := shB_wrap (p n) (8 * (n % 8))
      have hor := oW_fact (wK p n (n / 8)) (shB (p n) (8 * (n % 8)))
      refine wp_region_late 16 (by kernel_rfl) (by kernel_rfl) (by decide) ?_
      simp only [List.take_succ_cons, List.take_zero, List.drop_succ_cons, List.drop_zero]
      refine wpStrong_run 16 rfl ?_
      simp only [List.take_succ_cons, List.take_zero, List.drop_succ_cons, List.drop_zero]
      repeat (go_big_quiet_step (fail))
      refine wpQuiet_nil ?_
      refine wpStrong_nil ?_
      intro X hX
      have hwX : Ext wr X := Ext.trans (Below.refl _ _).drew hX
      have H2' := hideit (H2.out.carry hwX)
      have H3' := hideit (H3.out.carry hwX)
      have H4' := hideit (Ext.trans H4.out hwX)
      have eX := H3'.out.1 (n / 8) (by omega)
      have gX := H3'.out.2.1 (n / 8) (by omega)
      clear hwX hX H2 H3 H4 hne e3 e4 ea hsh hor
      have q0 : (0 : Int) ≤ (n : Int) / 8 := by omega
      have q1 : (n : Int) / 8 < 128 := by omega
      simp only [wv] at eX
      have HF : RowAt (w.heap.size + 1) 128 (wv (wK p (n + 1))) (X.setCell ⟨w.heap.size + 1, n / 8, none⟩ (.int .u64 ((oW (wK p n (n / 8)) (shB (p n) (8 * (n % 8)))).toNat : Int))) := (H3'.out.set (n / 8) (.int .u64 ((oW (wK p n (n / 8)) (shB (p n) (8 * (n % 8)))).toNat : Int))).congr fun j _ => by
        simp only [wv, wK]
        by_cases e : j = n / 8
        · subst e; rw [if_pos rfl, if_pos rfl]
        · rw [if_neg e, if_neg e]
      replace HF := hideit HF
      go_wp2
      refine ⟨⟨n + 1, by omega, by go_num, H2'.out.other _ _ (by simp), HF.out, H4'.out.setCell (by simp) _⟩, by simp [intOf]; omega⟩
    · have i1 : ¬ (n : Int) < 1024 := by omega
      have HR := H3
      have HR0 := H2
      have hB := H4
      have hW : wK p n = F := by rw [show n = 1024 by omega]; exact hF.out.symm
      rw [hW] at HR
      clear H2 H3 H4 hW
      go_upto_region 8 with (fail)
      refine wp_region_lit ?_
      refine wpList_load_mid rfl 31 (.tmp 4) rfl _ 0 rfl (row 128 (wv F)) _ HR.out.range Tryd.underlying31 rfl (by rw [row_length]; exact infoPg) ?_
      simp only [Act.put, List.setIfInBounds_toArray, List.set_cons_zero, List.set_cons_succ]
      refine wpList_store_mid rfl 31 (.tmp 2) (.tmp 31) rfl _ 0 (row 128 (wv F)).toArray rfl rfl (by rw [row_size]; exact HR0.out.there) (by rw [row_size]; exact infoPg) (row_one fun _ _ => rfl) ?_
      have h9 : Hid (RowAt w.heap.size 128 (wv F) (wr.setCells w.heap.size 0 (row 128 (wv F)))) := HR0.out.cells
      have hE9 : Hid (Ext w (wr.setCells w.heap.size 0 (row 128 (wv F)))) := below_setCells _ (Nat.le_refl _) _ _ _ hB.out
      rw [show (row 128 (wv F)).toArray.toList = row 128 (wv F) from rfl]
      generalize wr.setCells w.heap.size 0 (row 128 (wv F)) = w9 at *
      simp only [Act.put]
      clear HR HR0 hB
      go_wp2
      exact bodyPost_ret (ret_row2 Tryd.results20 rfl h9.out Tryd.underlying31 rfl infoPg) rfl ⟨rfl, hE9.out⟩
set_option maxRecDepth 20000 in
set_option maxHeartbeats 1000000 in
theorem rpage_bad (oa : Option Addr) (l cp : Nat) (hl : l ≠ 1024) (w : World) :
    Calls Tryd.prog 20 #[.slice oa l cp] w fun e w' => e = .returned (.tuple #[.agg (row 128 (wv fun _ => 0#64)).toArray, .int .i64 1]) ∧ Ext w w' := by
  have hz := zero31p
  have hl2 : ¬ (l : Int) = 1024 := by omega
  have H0 : Hid (RowAt w.heap.size 128 (wv fun _ => 0#64) (w.alloc (.cells (row 128 (wv fun _ => 0#64)).toArray 31))) := RowAt.new w 128 _ 31
  go_enter Tryd.func20, Tryd.ntmps20
  go_upto_region 3 with (fail)
  have H1 : RowAt w.heap.size 128 (wv fun _ => 0#64) ((w.alloc (.cells (row 128 (wv fun _ => 0#64)).toArray 31)).alloc (.cells (row 128 (wv fun _ => 0#64)).toArray 31)) := H0.out.alloc _
  have H2 : RowAt (w.heap.size + 1) 128 (wv fun _ => 0#64) ((w.alloc (.cells (row 128 (wv fun _ => 0#64)).toArray 31)).alloc (.cells (row 128 (wv fun _ => 0#64)).toArray 31)) := by
    have := RowAt.new (w.alloc (.cells (row 128 (wv fun _ => 0#64)).toArray 31)) 128 (wv fun _ => 0#64) 31
    simpa using this
  have HB : Ext w ((w.alloc (.cells (row 128 (wv fun _ => 0#64)).toArray 31)).alloc (.cells (row 128 (wv fun _ => 0#64)).toArray 31)) := ((Below.refl _ _).alloc (Nat.le_refl _) _).alloc (by simp) _
  replace H1 := hideit H1
  replace H2 := hideit H2
  replace HB := hideit HB
  generalize (w.alloc (.cells (row 128 (wv fun _ => 0#64)).toArray 31)).alloc (.cells (row 128 (wv fun _ => 0#64)).toArray 31) = w1 at *
  clear H0
  refine wp_region_lit ?_
  refine wpList_load_mid rfl 31 (.tmp 4) rfl _ 0 rfl (row 128 (wv fun _ => 0#64)) _ H2.out.range Tryd.underlying31 rfl (by rw [row_length]; exact infoPg) ?_
  simp only [Act.put, List.setIfInBounds_toArray, List.set_cons_zero, List.set_cons_succ]
  refine wpList_store_mid rfl 31 (.tmp 2) (.tmp 9) rfl _ 0 (row 128 (wv fun _ => 0#64)).toArray rfl rfl (by rw [row_size]; exact H1.out.there) (by rw [row_size]; exact infoPg) (row_one fun _ _ => rfl) ?_
  have h9 : Hid (RowAt w.heap.size 128 (wv fun _ => 0#64) (w1.setCells w.heap.size 0 (row 128 (wv fun _ => 0#64)))) := H1.out.cells
  have hE9 : Hid (Ext w (w1.setCells w.heap.size 0 (row 128 (wv fun _ => 0#64)))) := below_setCells _ (Nat.le_refl _) _ _ _ HB.out
  rw [show (row 128 (wv fun _ => 0#64)).toArray.toList = row 128 (wv fun _ => 0#64) from rfl]
  generalize w1.setCells w.heap.size 0 (row 128 (wv fun _ => 0#64)) = w9 at *
  simp only [Act.put]
  clear H1 H2 HB
  go_wp2
  exact bodyPost_ret (ret_row2 Tryd.results20 rfl h9.out Tryd.underlying31 rfl infoPg) rfl ⟨rfl, hE9.out⟩
set_option maxRecDepth 20000 in
set_option maxHeartbeats 1000000 in
theorem rbytes_any (p : Nat → BitVec 64) (w : World) :
    Calls Tryd.prog 21 #[.agg (row 128 (wv p)).toArray] w fun e w' => ∃ v, e = .returned v ∧ OwnB w.heap.size 5 v 1024 (yv (digF p)) w' ∧ Ext w w' := by
  have H0 : Hid (RowAt w.heap.size 128 (wv p) (w.alloc (.cells (row 128 (wv p)).toArray 31))) := RowAt.new w 128 (wv p) 31
  have hE0 : Hid (Ext w (w.alloc (.cells (row 128 (wv p)).toArray 31))) := (Below.refl _ _).alloc (Nat.le_refl _) _
  go_enter Tryd.func21, Tryd.ntmps21
  go_upto_region 1 with (fail)
  obtain ⟨w1, hw1⟩ : ∃ w1, w1 = w.alloc (.cells (row 128 (wv p)).toArray 31) := ⟨_, rfl⟩
  rw [← hw1] at H0 hE0 ⊢
  clear hw1
  go_wp2
  go_loopw [3, 4] (fun lv iv wr => ∃ i : Nat, i ≤ 1024 ∧ iv = .int .i64 (i : Int) ∧ OwnB (w.heap.size + 1) 5 lv i (yv (digF p)) wr ∧ RowAt w.heap.size 128 (wv p) wr ∧ Ext w wr) (fun _ iv _ => 1024 - (intOf iv).toNat)
  case atStart => exact ⟨0, by omega, rfl, own_nil _ _ _ _, H0.out, hE0.out⟩
  case round =>
    clear H0 hE0
    obtain ⟨i, hi, rfl, hO, hS, hE⟩ := hrel
    have HO := hideit hO
    have HS := hideit hS
    have HE := hideit hE
    clear hO hS hE
    obtain ⟨ov, cv, rfl⟩ := HO.out.bv.form
    by_cases hlt : i < 1024
    · have i0 : (0 : Int) ≤ (i : Int) := by omega
      have i1 : (i : Int) < 1024 := by omega
      have es := HS.out.1 (i / 8) (by omega)
      simp only [wv] at es
      have i2 : (0 : Int) ≤ (i : Int) / 8 := by omega
      have i3 : (i : Int) / 8 < 128 := by omega
      have b1 := (p (i / 8)).isLt
      have hdg : IntKind.u8.wrap (((p (i / 8)).toNat : Int) / 2 ^ (8 * (i % 8))) = ((digF p i).toNat : Int) := by rw [IntKind.wrap_u8, dig_fact]; rfl
      go_upto_region 5 with (fail)
      have hE1 : Ext wr (wr.alloc (.cells #[.int .u8 ((digF p i).toNat : Int)] 5)) := (Below.refl _ _).alloc (Nat.le_refl _) _
      have hN := newB wr #[.int .u8 ((digF p i).toNat : Int)] 1 (fun _ => digF p i) (fun j hj => by
        obtain rfl : j = 0 := by omega
        rfl)
      have HO2 := hideit (HO.out.ext hE1)
      have HS2 := hideit (HS.out.carry hE1)
      have HE2 := hideit (Ext.trans HE.out hE1)
      have hN2 := hideit hN.1
      clear HO HS HE hN hE1
      have m8 : (0 : Int) ≤ (i : Int) % 8 := by omega
      have m9 : (i : Int) % 8 < 8 := by omega
      have wr1 : IntKind.i64.wrap ((i : Int) / 8) = (i : Int) / 8 := by rw [IntKind.wrap_i64]; omega
      have tm : ((i : Int)).tmod 8 = (i : Int) % 8 := by rw [Int.tmod_eq_emod_of_nonneg i0]
      have wr2 : IntKind.i64.wrap (8 * ((i : Int) % 8)) = 8 * ((i : Int) % 8) := by rw [IntKind.wrap_i64]; omega
      have tn : (8 * ((i : Int) % 8)).toNat = 8 * (i % 8) := by omega
      refine wp_region_lit ?_
      refine wpList_run rfl (.slice ov i cv) (by simp [go_sem]) ?_
      simp only [Act.put, List.setIfInBounds_toArray, List.set_cons_zero, List.set_cons_succ]
      refine wpList_run rfl (.int .i64 (i : Int)) (by simp [go_sem]) ?_
      simp only [Act.put, List.setIfInBounds_toArray, List.set_cons_zero, List.set_cons_succ]
      refine wpList_run rfl (.int .i64 ((i : Int) / 8)) (by simp [go_sem, wr1]) ?_
      simp only [Act.put, List.setIfInBounds_toArray, List.set_cons_zero, List.set_cons_succ]
      refine wpList_run rfl (.pointer (some ⟨w.heap.size, i / 8, none⟩)) (by simp [go_sem, i2, i3]) ?_
      simp only [Act.put, List.setIfInBounds_toArray, List.set_cons_zero, List.set_cons_succ]
      refine wpList_run rfl (.int .u64 ((p (i / 8)).toNat : Int)) (by simp [go_sem, es]) ?_
      simp only [Act.put, List.setIfInBounds_toArray, List.set_cons_zero, List.set_cons_succ]
      refine wpList_run rfl (.int .i64 (i : Int)) (by simp [go_sem]) ?_
      simp only [Act.put, List.setIfInBounds_toArray, List.set_cons_zero, List.set_cons_succ]
      refine wpList_run rfl (.int .i64 ((i : Int) % 8)) (by simp [go_sem, tm]) ?_
      simp only [Act.put, List.setIfInBounds_toArray, List.set_cons_zero, List.set_cons_succ]
      refine wpList_run rfl (.int .i64 (8 * ((i : Int) % 8))) (by simp [go_sem, wr2]) ?_
      simp only [Act.put, List.setIfInBounds_toArray, List.set_cons_zero, List.set_cons_succ]
      refine wpList_run rfl (.int .u64 (((p (i / 8)).toNat : Int) / 2 ^ (8 * (i % 8)))) (by simp [go_sem, tn]) ?_
      simp only [Act.put, List.setIfInBounds_toArray, List.set_cons_zero, List.set_cons_succ]
      refine wpList_run rfl (.int .u8 ((digF p i).toNat : Int)) (by simp [go_sem, hdg]) ?_
      simp only [Act.put, List.setIfInBounds_toArray, List.set_cons_zero, List.set_cons_succ]
      refine wpList_to rfl (.slice (some ⟨wr.heap.size, 0, none⟩) 1 1) (wr.alloc (.cells #[.int .u8 ((digF p i).toNat : Int)] 5)) (by simp [go_sem]) ?_
      simp only [Act.put, List.setIfInBounds_toArray, List.set_cons_zero, List.set_cons_succ]
      refine wpList_growV (n := i) (base := w.heap.size + 1) elem22 rfl (.tmp 9) (.tmp 19) rfl rfl HO2.out (.slice (some ⟨wr.heap.size, 0, none⟩) 1 1) 1 (fun _ => digF p i) (yv (digF p)) rfl hN2.out (fun j hj => rfl) (fun j hj => by
        obtain rfl : j = 0 := by omega
        rfl) (by omega) (by have := HS2.out.2.2; omega) ?_
      intro v' Y hO' hg'
      have hS' := hideit (HS2.out.grown hg' (fun h => by have := (HO2.out.lt _ h.symm).1; omega))
      have hE' := hideit (Below.trans HE2.out (below_grown (Below.size HE2.out) hg' fun k hk => by have := (HO2.out.lt k hk).1; omega))
      replace hO' := hideit hO'
      obtain ⟨o', c', rfl⟩ := hO'.out.bv.form
      clear hg' HO2 HS2 HE2 hN2 es
      simp only [Act.put, List.setIfInBounds_toArray, List.set_cons_zero, List.set_cons_succ]
      go_wp2
      exact ⟨⟨i + 1, by omega, by go_num, hO'.out, hS'.out, hE'.out⟩, by simp [intOf]; omega⟩
    · have i1 : ¬ (i : Int) < 1024 := by omega
      have h9 : i = 1024 := by omega
      have HR : Hid (OwnB w.heap.size 5 (.slice ov i cv) 1024 (yv (digF p)) wr) := by
        have h8 := HO.out.down (base' := w.heap.size) (by omega)
        rw [h9] at h8 ⊢
        exact h8
      clear HO h9
      go_wp2
      go_ret
      exact ⟨_, rfl, HR.out, HE.out⟩
end Go.Proofs.YtfbmeclpcgdmhaaDoor
