/-
  Block: the state behind a piece, for every state and piece, in every world that holds the constants, of which nothing that was there turns. The first state and the constants, the program's and the document's.
-/
import Derived.Test.YtiakkclabgelfaaDoorQc4
import Derived.Deep.CutRange
namespace Go.Proofs.YtiakkclabgelfaaDoor
open Go.RowKit Go.BigFrame
def TabC (w : World) : Prop := (∀ j, j < 64 → w.cell? ⟨0, j, none⟩ = some (.int .u32 ((kT j).toNat : Int))) ∧ 0 < w.heap.size
theorem TabC.below {B : Nat} {w X : World} (h : TabC w) (hB : Below B w X) (h0 : 0 < B) : TabC X :=
  ⟨fun j hj => (hB.cell (p := ⟨0, j, none⟩) h0).trans (h.1 j hj), Nat.lt_of_lt_of_le h.2 hB.size⟩
theorem TabC.ext {w X : World} (h : TabC w) (hB : Ext w X) : TabC X := h.below hB h.2
def BlAt (B d : Nat) (w : World) (g W : Nat → BitVec 32) (X : World) : Prop :=
  RowAt B 8 (wv g) X ∧ RowAt (B + 1 + 1) 8 (wv fun _ => 0#32) X ∧ RowAt d 64 (wv W) X ∧ Below B w X ∧ B < d
theorem BlAt.ext {B d : Nat} {w X Y : World} {g W : Nat → BitVec 32} (h : BlAt B d w g W X) (k : Ext X Y) : BlAt B d w g W Y :=
  ⟨h.1.carry k, h.2.1.carry k, h.2.2.1.carry k, Ext.below h.2.2.2.1 (Nat.le_of_lt h.1.2.2) k, h.2.2.2.2⟩
def stK (W s : Nat → BitVec 32) (n j : Nat) : BitVec 32 := if j < n then sW (s j) (rndK W s 64 j) else s j
theorem pick8 (q : Nat → BitVec 32) (n : Nat) (hn : n < 8) (X : World) : Sem.run Tryd.prog (Instr.index 132 (.agg #[.int .u32 ((q 0).toNat : Int), .int .u32 ((q 1).toNat : Int), .int .u32 ((q 2).toNat : Int), .int .u32 ((q 3).toNat : Int), .int .u32 ((q 4).toNat : Int), .int .u32 ((q 5).toNat : Int), .int .u32 ((q 6).toNat : Int), .int .u32 ((q 7).toNat : Int)]) (.int .i64 (n : Int))) X = .ok (.int .u32 ((q n).toNat : Int)) X := by
  rcases (by omega : n = 0 ∨ n = 1 ∨ n = 2 ∨ n = 3 ∨ n = 4 ∨ n = 5 ∨ n = 6 ∨ n = 7) with rfl | rfl | rfl | rfl | rfl | rfl | rfl | rfl <;> kernel_rfl
set_option maxRecDepth 20000 in
set_option maxHeartbeats 2000000 in
theorem block_any (s : Nat → BitVec 32) (p : Nat → BitVec 8) (w : World) (hC : TabC w) :
    Calls Tryd.prog 91 #[.agg (row 8 (wv s)).toArray, .agg (row 64 (yv p)).toArray] w fun e w' => e = .returned (.agg (row 8 (wv (blockF s p))).toArray) ∧ Below w.heap.size w w' := by
  obtain ⟨W, hW⟩ : ∃ W, W = wordsW p := ⟨_, rfl⟩
  obtain ⟨R, hR⟩ : ∃ R, R = blockF s p := ⟨_, rfl⟩
  have hwo := words_any p
  rw [← hW] at hwo
  rw [← hR]
  replace hW := hideit hW
  replace hR := hideit hR
  replace hwo := hideit hwo
  have hz := zero42
  have hz8 := zero28
  have HC := hideit hC
  clear hC
  have HA : RowAt w.heap.size 8 (wv s) (((w.alloc (.cells (row 8 (wv s)).toArray 132)).alloc (.cells (row 64 (yv p)).toArray 134)).alloc (.cells (row 8 (wv fun _ => 0#32)).toArray 132)) := ((RowAt.new w 8 (wv s) 132).alloc _).alloc _
  have HP : RowAt (w.heap.size + 1) 64 (yv p) (((w.alloc (.cells (row 8 (wv s)).toArray 132)).alloc (.cells (row 64 (yv p)).toArray 134)).alloc (.cells (row 8 (wv fun _ => 0#32)).toArray 132)) := by
    have := (RowAt.new (w.alloc (.cells (row 8 (wv s)).toArray 132)) 64 (yv p) 134).alloc (.cells (row 8 (wv fun _ => 0#32)).toArray 132)
    simpa using this
  have HZ : RowAt (w.heap.size + 1 + 1) 8 (wv fun _ => 0#32) (((w.alloc (.cells (row 8 (wv s)).toArray 132)).alloc (.cells (row 64 (yv p)).toArray 134)).alloc (.cells (row 8 (wv fun _ => 0#32)).toArray 132)) := by
    have := RowAt.new ((w.alloc (.cells (row 8 (wv s)).toArray 132)).alloc (.cells (row 64 (yv p)).toArray 134)) 8 (wv fun _ => 0#32) 132
    simpa using this
  have HB : Below w.heap.size w (((w.alloc (.cells (row 8 (wv s)).toArray 132)).alloc (.cells (row 64 (yv p)).toArray 134)).alloc (.cells (row 8 (wv fun _ => 0#32)).toArray 132)) := (((Below.refl _ _).alloc (Nat.le_refl _) _).alloc (by simp) _).alloc (by simp; omega) _
  replace HA := hideit HA
  replace HP := hideit HP
  replace HZ := hideit HZ
  replace HB := hideit HB
  go_enter Tryd.func91, Tryd.ntmps91
  go_upto_region 2 with (first | (refine wpList_load_mid rfl 134 (.tmp 3) rfl _ 0 rfl (row 64 (yv p)) _ HP.out.range Tryd.underlying134 rfl (by rw [row_length]; exact info29) ?_) | (go_at_call 97; refine (hwo.out _).mono ?_; rintro e w2 ⟨rfl, hw2⟩; obtain ⟨d, hd⟩ : ∃ d, d = w2.heap.size := ⟨_, rfl⟩; have HN : RowAt d 64 (wv fun _ => 0#32) (w2.alloc (.cells (row 64 (wv fun _ => 0#32)).toArray 142)) := (by rw [hd]; exact RowAt.new w2 64 (wv fun _ => 0#32) 142); replace HN := hideit HN; have H2 := hideit hw2; clear hw2) | (rw [← hd]; refine wpList_store_mid rfl 142 (.tmp 5) (.tmp 20) rfl _ 0 (row 64 (wv (W))).toArray rfl rfl (by rw [row_size]; exact HN.out.there) (by rw [row_size]; exact info42) (row_one fun _ _ => rfl) ?_))
  have HX : BlAt w.heap.size d w s W ((w2.alloc (.cells (row 64 (wv fun _ => 0#32)).toArray 142)).setCells d 0 (row 64 (wv (W)))) ∧ TabC ((w2.alloc (.cells (row 64 (wv fun _ => 0#32)).toArray 142)).setCells d 0 (row 64 (wv (W)))) := by
    have h2 := H2.out
    have hs : w.heap.size + 1 + 1 + 1 ≤ w2.heap.size := by have := h2.size; simpa using this
    have hB2 : Below w.heap.size w w2 := Below.trans HB.out (Below.mono h2 (by simp; omega))
    have hB3 : Below w.heap.size w ((w2.alloc (.cells (row 64 (wv fun _ => 0#32)).toArray 142)).setCells d 0 (row 64 (wv (W)))) := below_setCells _ (by omega) _ _ _ (hB2.alloc (by omega) _)
    exact ⟨⟨((HA.out.carry h2).alloc _).cellsOther (by omega) _ _, ((HZ.out.carry h2).alloc _).cellsOther (by omega) _ _, HN.out.cells, hB3, by omega⟩, HC.out.below hB3 HC.out.2⟩
  obtain ⟨HX, HCX⟩ := HX
  replace HX := hideit HX
  replace HCX := hideit HCX
  clear HA HP HZ HB HN H2 hd HC hz hz8
  generalize (w2.alloc (.cells (row 64 (wv fun _ => 0#32)).toArray 142)).setCells d 0 (row 64 (wv (W))) = X at *
  have e0 := HX.out.1.1 0 (by omega)
  have e1 := HX.out.1.1 1 (by omega)
  have e2 := HX.out.1.1 2 (by omega)
  have e3 := HX.out.1.1 3 (by omega)
  have e4 := HX.out.1.1 4 (by omega)
  have e5 := HX.out.1.1 5 (by omega)
  have e6 := HX.out.1.1 6 (by omega)
  have e7 := HX.out.1.1 7 (by omega)
  simp only [wv] at e0 e1 e2 e3 e4 e5 e6 e7
  simp only [Act.put]
  go_quiet (fail)
  have HEX := hideit (ext_drewN X nq)
  clear e0 e1 e2 e3 e4 e5 e6 e7
  generalize X.drewN nq = X0 at *
  have HX0 := hideit (HX.out.ext HEX.out)
  have HCX0 := hideit (HCX.out.ext HEX.out)
  clear HX HCX HEX
  have e4 := HX0.out.1.1 4 (by omega)
  have e5 := HX0.out.1.1 5 (by omega)
  have e6 := HX0.out.1.1 6 (by omega)
  have e7 := HX0.out.1.1 7 (by omega)
  simp only [wv] at e4 e5 e6 e7
  go_wp2
  go_quiet (fail)
  have HEX := hideit (ext_drewN X0 nq)
  clear e4 e5 e6 e7
  generalize X0.drewN nq = X1 at *
  have HX1 := hideit (HX0.out.ext HEX.out)
  have HCX1 := hideit (HCX0.out.ext HEX.out)
  clear HX0 HCX0 HEX
  go_wp2
  go_loopw [6, 7, 8, 9, 10, 11, 12, 13, 37] (fun v0 v1 v2 v3 v4 v5 v6 v7 i wr => ∃ n : Nat, n ≤ 64 ∧ i = .int .i64 n ∧ v0 = .int .u32 (rndK W s n 0).toNat ∧ v1 = .int .u32 (rndK W s n 1).toNat ∧ v2 = .int .u32 (rndK W s n 2).toNat ∧ v3 = .int .u32 (rndK W s n 3).toNat ∧ v4 = .int .u32 (rndK W s n 4).toNat ∧ v5 = .int .u32 (rndK W s n 5).toNat ∧ v6 = .int .u32 (rndK W s n 6).toNat ∧ v7 = .int .u32 (rndK W s n 7).toNat ∧ BlAt w.heap.size d w s W wr ∧ TabC wr) (fun _ _ _ _ _ _ _ _ i _ => 64 - (intOf i).toNat)
  case atStart => exact ⟨0, by omega, rfl, rfl, rfl, rfl, rfl, rfl, rfl, rfl, rfl, HX1.out, HCX1.out⟩
  case round =>
    clear HX1 HCX1
    obtain ⟨n, hn, rfl, rfl, rfl, rfl, rfl, rfl, rfl, rfl, rfl, hT, hTC⟩ := hrel
    by_cases hlt : n < 64
    · have HT := hideit hT
      have HTC := hideit hTC
      have e1 := hTC.1 n hlt
      have e2 := hT.2.2.1.1 n hlt
      clear hT hTC
      simp only [wv] at e2
      have i0 : (0 : Int) ≤ (n : Int) := by omega
      have i1 : (n : Int) < 64 := by omega
      have fx := xW_fact
      have fs := sW_fact
      have fa := aW_fact
      have fo := oW_fact
      have fn := nW_fact
      have HS : Hid (∀ j, rndK W s (n + 1) j = rnd (kT n) (W n) (rndK W s n) j) := fun _ => rfl
      generalize rndK W s n = q at *
      generalize kT n = k at *
      generalize W n = x at *
      go_wp2
      go_quiet ((first | (go_at_call_of 98 (Value.int IntKind.i64 6); exact Calls.quiet_of_same (right6 _ _)) | (go_at_call_of 98 (Value.int IntKind.i64 11); exact Calls.quiet_of_same (right11 _ _)) | (go_at_call_of 98 (Value.int IntKind.i64 25); exact Calls.quiet_of_same (right25 _ _))))
      have HEX := hideit (ext_drewN wr nq)
      clear e1 e2
      generalize wr.drewN nq = Y at *
      have HY := hideit (HT.out.ext HEX.out)
      have HYC := hideit (HTC.out.ext HEX.out)
      clear HT HTC HEX
      go_wp2_with (first | (go_at_call_of 98 (Value.int IntKind.i64 2); refine (right2 _ _).mono ?_; rintro e w' ⟨rfl, rfl⟩) | (go_at_call_of 98 (Value.int IntKind.i64 13); refine (right13 _ _).mono ?_; rintro e w' ⟨rfl, rfl⟩) | (go_at_call_of 98 (Value.int IntKind.i64 22); refine (right22 _ _).mono ?_; rintro e w' ⟨rfl, rfl⟩))
      refine ⟨⟨n + 1, by omega, by go_num, by rw [HS.out, fs]; rfl, by rw [HS.out]; rfl, by rw [HS.out]; rfl, by rw [HS.out]; rfl, by rw [HS.out, fs]; rfl, by rw [HS.out]; rfl, by rw [HS.out]; rfl, by rw [HS.out]; rfl, HY.out, HYC.out⟩, by simp [intOf]; omega⟩
    · obtain rfl : n = 64 := by omega
      have HT : BlAt w.heap.size d w (stK W s 0) W wr := ⟨hT.1.congr fun j _ => by simp only [wv, stK]; rw [if_neg (by omega)], hT.2⟩
      replace HT := hideit HT
      have HQ : Hid (∀ m j, stK W s m j = if j < m then sW (s j) (rndK W s 64 j) else s j) := fun _ _ => rfl
      have HR1 : Hid (∀ j, R j = sW (s j) (rndK W s 64 j)) := fun j => by rw [hR.out, hW.out]; rfl
      clear hT hTC hwo hR
      generalize rndK W s 64 = q at *
      generalize stK W s = u at *
      go_wp2
      go_loopw [109] (fun i wr => ∃ n : Nat, n ≤ 8 ∧ i = .int .i64 n ∧ BlAt w.heap.size d w (u n) W wr) (fun i _ => 8 - (intOf i).toNat)
      case atStart => exact ⟨0, by omega, rfl, HT.out⟩
      case round =>
        clear HT
        obtain ⟨n, hn, rfl, hT⟩ := hrel
        have HT := hideit hT
        by_cases hlt : n < 8
        · have c1 := pick8 q n hlt
          have e1 := hT.1.1 n hlt
          have g1 := hT.1.2.1 n hlt
          have hu : u n n = s n := by rw [HQ.out, if_neg (by omega)]
          clear hT
          simp only [wv, hu] at e1
          clear hu
          have i0 : (0 : Int) ≤ (n : Int) := by omega
          have i1 : (n : Int) < 8 := by omega
          have fs := sW_fact
          go_wp2
          have HI : BlAt w.heap.size d w (u (n + 1)) W (wr.setCell ⟨w.heap.size, n, none⟩ (.int .u32 ((sW (s n) (q n)).toNat : Int))) := by
            obtain ⟨h1, h2, h3, h4, h5⟩ := HT.out
            refine ⟨(h1.set n _).congr fun j _ => ?_, h2.other _ _ (by simp; omega), h3.other _ _ (by show w.heap.size ≠ d; omega), h4.setCell (by simp) _, h5⟩
            simp only [wv, HQ.out]
            by_cases e : j = n
            · subst e; rw [if_pos rfl, if_pos (by omega)]
            · rw [if_neg e]
              by_cases h : j < n
              · rw [if_pos h, if_pos (by omega)]
              · rw [if_neg h, if_neg (by omega)]
          exact ⟨⟨n + 1, by omega, by go_num, HI⟩, by simp [intOf]; omega⟩
        · obtain rfl : n = 8 := by omega
          have HR := hideit (hT.1.congr (g' := wv R) fun j hj => by simp only [wv]; rw [HQ.out, if_pos hj, HR1.out])
          have HR0 := hideit hT.2.1
          have hB := hideit hT.2.2.2.1
          clear hT HT
          go_wp2_with (first | (refine wpList_load_mid rfl 132 (.tmp 2) rfl _ 0 rfl (row 8 (wv R)) _ HR.out.range Tryd.underlying132 rfl (by rw [row_length]; exact info28) ?_) | (refine wpList_store_mid rfl 132 (.tmp 4) (.tmp 120) rfl _ 0 (row 8 (wv R)).toArray rfl rfl (by rw [row_size]; exact HR0.out.there) (by rw [row_size]; exact info28) (row_one fun _ _ => rfl) ?_))
          exact bodyPost_ret (ret_row Tryd.results91 rfl (HR0.out.cells (g' := wv R)) Tryd.underlying132 rfl info28) rfl ⟨rfl, below_setCells _ (by omega) _ _ _ hB.out⟩
end Go.Proofs.YtiakkclabgelfaaDoor
namespace Go.Proofs.YtiakkclabgelfaaDoor
open Go.RowKit Go.BigFrame
def fL : List Nat := [1779033703, 3144134277, 1013904242, 2773480762, 1359893119, 2600822924, 528734635, 1541459225]
def fT (j : Nat) : BitVec 32 := BitVec.ofNat 32 (fL.getD j 0)
set_option maxRecDepth 20000 in
set_option maxHeartbeats 400000 in
theorem first_any (w : World) : Calls Tryd.prog 89 #[] w fun e w' => e = .returned (.agg (row 8 (wv fT)).toArray) ∧ Below w.heap.size w w' := by
  have hz := zero28
  have HR0 := hideit (RowAt.new w 8 (wv fun _ => 0#32) 132)
  go_enter Tryd.func89, Tryd.ntmps89
  go_upto_region 1 with (fail)
  refine wp_region_lit ?_
  refine wpList_run rfl (.agg (row 8 (wv fT)).toArray) (by kernel_rfl) ?_
  refine wpList_store_mid rfl 132 (.tmp 0) (.tmp 1) rfl _ 0 (row 8 (wv fT)).toArray rfl rfl (by rw [row_size]; exact HR0.out.there) (by rw [row_size]; exact info28) (row_one fun _ _ => rfl) ?_
  go_wp2
  exact bodyPost_ret (ret_row Tryd.results89 rfl (HR0.out.cells (g' := wv fT)) Tryd.underlying132 rfl info28) rfl ⟨rfl, below_setCells _ (Nat.le_refl _) _ _ _ ((Below.refl _ _).alloc (Nat.le_refl _) _)⟩
end Go.Proofs.YtiakkclabgelfaaDoor
