/-
  AesFirst answers true for every key of 32 bytes, its first half or the whole of it, with no condition: the first round keys are the bytes of the key.
-/
import Derived.Test.YtofecnieicnfgabRows
import Derived.ProofKit
import Derived.OpenShut
import Derived.ShutString
import Derived.ChangeOld
import Derived.Below
import Derived.Test.YtofecnieicnfgabStr
import Derived.Deep.CutRange
import Derived.Deep.RegionWith
namespace Go.Proofs.Ytofecnieicnfgab.aesFirst
open Go.ChangeShapes Go.WideShapes Go.ChangeAt Go.RowKit
set_option linter.unusedVariables false

theorem own : ownKnob Try.prog.godebug = none := by kernel_rfl
theorem laidOut : laidOutB Try.prog = true := by kernel_rfl
open Go.BigFrame
set_option maxRecDepth 20000 in
set_option maxHeartbeats 4000000 in
theorem walk (kf : Nat → BitVec 8) (wide : Bool) (w : World) :
    Calls Try.prog 8 #[.agg (row 32 (yv kf)).toArray, .bool wide] w fun e w' => e = .returned (.bool true) ∧ Below w.heap.size w w' := by
  have HKey : RowAt w.heap.size 32 (yv kf) (w.alloc (.cells (row 32 (yv kf)).toArray 49)) := RowAt.new w 32 (yv kf) 49
  have HK4 : KeyAt ⟨w.heap.size, 0, none⟩ 16 kf (w.alloc (.cells (row 32 (yv kf)).toArray 49)) := ⟨fun j hj => by rw [Addr.add_mid, Nat.zero_add]; exact HKey.1 j (by omega), HKey.2.2⟩
  have HK8 : KeyAt ⟨w.heap.size, 0, none⟩ 32 kf (w.alloc (.cells (row 32 (yv kf)).toArray 49)) := ⟨fun j hj => by rw [Addr.add_mid, Nat.zero_add]; exact HKey.1 j hj, HKey.2.2⟩
  have HB0 : Below w.heap.size w (w.alloc (.cells (row 32 (yv kf)).toArray 49)) := (Below.refl _ _).alloc (Nat.le_refl _) _
  replace HKey := hideit HKey
  replace HK4 := hideit HK4
  replace HK8 := hideit HK8
  replace HB0 := hideit HB0
  go_enter Try.func8, Try.ntmps8
  cases wide with
  | false =>
    go_upto_region 5 with (first | (go_at_call 14; refine (new4_any ⟨w.heap.size, 0, none⟩ 32 kf _ HK4.out (by omega)).mono ?_; rintro e w2 ⟨rfl, h2, h3⟩; have H2 := hideit h2; have H3 := hideit h3; clear h2 h3))
    have hsz : (w.alloc (.cells (row 32 (yv kf)).toArray 49)).heap.size = w.heap.size + 1 := by simp
    rw [hsz] at H2 H3
    obtain ⟨K, hK⟩ : ∃ K, K = schedK 4 kf := ⟨_, rfl⟩
    rw [← hK] at H2
    have hk0 : ∀ j, j < 16 → K j = kf j := fun j hj => by rw [hK]; exact sched_low 4 kf j (by omega)
    clear hK
    have HKy : RowAt w.heap.size 32 (yv kf) w2 := ⟨fun j hj => (H3.out.cell (p := ⟨w.heap.size, j, none⟩) (by show w.heap.size < _; omega)).trans (HKey.out.1 j hj), fun j hj => (H3.out.frozen (p := ⟨w.heap.size, j, none⟩) (by show w.heap.size < _; omega)).trans (HKey.out.2.1 j hj), by have := H2.out.2.2; omega⟩
    have HBl : Below w.heap.size w w2 := Below.trans HB0.out (Below.mono H3.out (by omega))
    replace HKy := hideit HKy
    replace HBl := hideit HBl
    replace hk0 := hideit hk0
    clear H3 HK4 HK8 HKey HB0 hsz
    obtain ⟨k0, hk0e⟩ : ∃ k0, k0 = keyF 10 K 0 := ⟨_, rfl⟩
    obtain ⟨k1, hk1e⟩ : ∃ k1, k1 = keyF 10 K 1 := ⟨_, rfl⟩
    replace hk0e := hideit hk0e
    replace hk1e := hideit hk1e
    have hz := store_Y16
    go_upto_region 7 with (first | (go_at_call 16; refine (alives_any _).mono ?_; rintro e w3 ⟨rfl, h4⟩; have HC3 := hideit (CipherAt.carry H2.out h4); have HKy3 := hideit (RowAt.carry HKy.out h4); have HB3 := hideit (Below.trans HBl.out (Below.mono h4 (Nat.le_of_lt HKy.out.2.2))); clear h4))
    clear H2 HKy HBl
    go_upto_region 8 with (first | (go_at_call_of 21 (Value.int .i64 0); refine (key_any (w.heap.size + 1) 10 K bxT ubT twT 0 (by omega) _ HC3.out).mono ?_; rw [← hk0e.out]; rintro e w4 ⟨rfl, h5⟩; have HC4 := hideit (CipherAt.carry HC3.out h5); have HKy4 := hideit (RowAt.carry HKy3.out h5); have HB4 := hideit (Below.trans HB3.out (Below.mono h5 (Nat.le_of_lt HKy3.out.2.2))); clear h5) | (go_at_call_of 21 (Value.int .i64 1); refine (key_any (w.heap.size + 1) 10 K bxT ubT twT 1 (by omega) _ HC4.out).mono ?_; rw [← hk1e.out]; rintro e w5 ⟨rfl, h6⟩; have HC5 := hideit (CipherAt.carry HC4.out h6); have HKy5 := hideit (RowAt.carry HKy4.out h6); have HB5 := hideit (Below.trans HB4.out (Below.mono h6 (Nat.le_of_lt HKy4.out.2.2))); clear h6; obtain ⟨d, hd⟩ : ∃ d, d = w5.heap.size := ⟨_, rfl⟩; have HN8 : RowAt d 16 (yv fun _ => 0#8) ((w5.alloc (.cells (row 16 (yv fun _ => 0#8)).toArray 32)).alloc (.cells (row 16 (yv fun _ => 0#8)).toArray 32)) := (by rw [hd]; exact (RowAt.new w5 16 (yv fun _ => 0#8) 32).alloc _); have HN9 : RowAt (d + 1) 16 (yv fun _ => 0#8) ((w5.alloc (.cells (row 16 (yv fun _ => 0#8)).toArray 32)).alloc (.cells (row 16 (yv fun _ => 0#8)).toArray 32)) := (by have h7 := RowAt.new (w5.alloc (.cells (row 16 (yv fun _ => 0#8)).toArray 32)) 16 (yv fun _ => 0#8) 32; rw [hd]; simpa using h7); replace HN8 := hideit HN8; replace HN9 := hideit HN9) | (rw [← hd]; refine wpList_store_mid rfl 32 (.tmp 8) (.tmp 29) rfl _ 0 (row 16 (yv k0)).toArray rfl rfl (by rw [row_size]; exact HN8.out.there) (by rw [row_size]; exact info32) (row_one fun _ _ => rfl) ?_) | (refine wpList_store_mid rfl 32 (.tmp 9) (.tmp 31) rfl _ 0 (row 16 (yv k1)).toArray rfl rfl (by rw [row_size]; exact (HN9.out.cellsOther (by omega) _ _).there) (by rw [row_size]; exact info32) (row_one fun _ _ => rfl) ?_))
    have hs5 : w.heap.size + 1 < w5.heap.size := HC5.out.2.2
    have HY : CipherAt (w.heap.size + 1) 10 K bxT ubT twT ((((w5.alloc (.cells (row 16 (yv fun _ => 0#8)).toArray 32)).alloc (.cells (row 16 (yv fun _ => 0#8)).toArray 32)).setCells d 0 (row 16 (yv k0))).setCells (d + 1) 0 (row 16 (yv k1))) := RowAt.cellsOther (RowAt.cellsOther (RowAt.alloc (RowAt.alloc HC5.out _) _) (by omega) _ _) (by omega) _ _
    have HKY : RowAt w.heap.size 32 (yv kf) ((((w5.alloc (.cells (row 16 (yv fun _ => 0#8)).toArray 32)).alloc (.cells (row 16 (yv fun _ => 0#8)).toArray 32)).setCells d 0 (row 16 (yv k0))).setCells (d + 1) 0 (row 16 (yv k1))) := RowAt.cellsOther (RowAt.cellsOther (RowAt.alloc (RowAt.alloc HKy5.out _) _) (by omega) _ _) (by omega) _ _
    have H8 := RowAt.cellsOther (HN8.out.cells (g' := yv k0)) (c := d + 1) (by omega) (row 16 (yv k1)) 0
    have H9 := (HN9.out.cellsOther (c := d) (by omega) (row 16 (yv k0)) 0).cells (g' := yv k1)
    have HBY : Below w.heap.size w ((((w5.alloc (.cells (row 16 (yv fun _ => 0#8)).toArray 32)).alloc (.cells (row 16 (yv fun _ => 0#8)).toArray 32)).setCells d 0 (row 16 (yv k0))).setCells (d + 1) 0 (row 16 (yv k1))) := below_setCells _ (by omega) _ _ _ (below_setCells _ (by omega) _ _ _ ((HB5.out.alloc (by omega) _).alloc (by simp; omega) _))
    generalize (((w5.alloc (.cells (row 16 (yv fun _ => 0#8)).toArray 32)).alloc (.cells (row 16 (yv fun _ => 0#8)).toArray 32)).setCells d 0 (row 16 (yv k0))).setCells (d + 1) 0 (row 16 (yv k1)) = Y at *
    have HC := hideit (RowAt.drew HY : CipherAt (w.heap.size + 1) 10 K bxT ubT twT Y.drew)
    have HKy := hideit HKY.drew
    have HR8 := hideit H8.drew
    have HR9 := hideit H9.drew
    have HBl := hideit HBY.drew
    clear HY HKY H8 H9 HBY HN8 HN9 HC3 HC4 HC5 HKy3 HKy4 HKy5 HB3 HB4 HB5 hd hs5
    have hb0 : bstr 16 k0 = bstr 16 kf := bstr_congr fun j hj => by rw [hk0e.out]; show keyF 10 K 0 j = _; simp only [keyF]; rw [if_pos (by omega)]; simpa using hk0.out j hj
    have hq1 := eq32 (keyF 10 K 11) (fun _ => 0#8)
    rw [(same16_iff _ _).2 (fun j hj => by simp only [keyF]; rw [if_neg (by omega)])] at hq1
    have hne := kept_ne Y.drew
    try simp only [Act.put]
    refine wp_region_kept (Ok := Ext Y.drew) (by kernel_rfl) (by kernel_rfl) (Ext.refl _) ?_
    repeat (go_big_quiet_step ((rename_i q; first | exact rfl | (go_at_call 22; exact (rounds_any (w.heap.size + 1) 10 K bxT ubT twT q.w (CipherAt.carry HC.out q.ok)).mono fun e w'' h => ⟨h.1, ⟨⟨w'', by rw [h.2]; exact q.ok⟩, rfl⟩⟩) | (go_at_call 21; exact (key_any (w.heap.size + 1) 10 K bxT ubT twT 11 (by omega) q.w (CipherAt.carry HC.out q.ok)).mono fun e w'' h => ⟨h.1, ⟨⟨w'', Ext.trans q.ok h.2⟩, rfl⟩⟩))))
    go_big_quiet_want
    refine quiet_conv (.tmp 32) _ 0 16 16 (k0) rfl rfl (fun w' hw' => (HR8.out.carry hw').range) ?_
    simp only [Act.put, List.setIfInBounds_toArray, List.set_cons_zero, List.set_cons_succ]
    go_big_quiet_on
    repeat (go_big_quiet_step ((rename_i q; first | exact rfl | (go_at_call 22; exact (rounds_any (w.heap.size + 1) 10 K bxT ubT twT q.w (CipherAt.carry HC.out q.ok)).mono fun e w'' h => ⟨h.1, ⟨⟨w'', by rw [h.2]; exact q.ok⟩, rfl⟩⟩) | (go_at_call 21; exact (key_any (w.heap.size + 1) 10 K bxT ubT twT 11 (by omega) q.w (CipherAt.carry HC.out q.ok)).mono fun e w'' h => ⟨h.1, ⟨⟨w'', Ext.trans q.ok h.2⟩, rfl⟩⟩))))
    go_big_quiet_want
    refine quiet_conv (.tmp 34) _ 0 16 32 (kf) rfl rfl (fun w' hw' => by have h1 := (HKy.out.carry hw').sub 0 16 (by omega); simpa using h1) ?_
    simp only [Act.put, List.setIfInBounds_toArray, List.set_cons_zero, List.set_cons_succ]
    go_big_quiet_on
    repeat (go_big_quiet_step ((rename_i q; first | exact rfl | (go_at_call 22; exact (rounds_any (w.heap.size + 1) 10 K bxT ubT twT q.w (CipherAt.carry HC.out q.ok)).mono fun e w'' h => ⟨h.1, ⟨⟨w'', by rw [h.2]; exact q.ok⟩, rfl⟩⟩) | (go_at_call 21; exact (key_any (w.heap.size + 1) 10 K bxT ubT twT 11 (by omega) q.w (CipherAt.carry HC.out q.ok)).mono fun e w'' h => ⟨h.1, ⟨⟨w'', Ext.trans q.ok h.2⟩, rfl⟩⟩))))
    refine wpQuiet_nil ?_
    intro _ hw'
    obtain ⟨q, hq⟩ := hw'
    subst hq
    go_wp2
    go_ret
    exact ⟨rfl, Below.trans HBl.out (Below.mono q.ok (by have := HBl.out.size; exact this))⟩
  | true =>
    go_upto_region 5 with (first | (go_at_call 14; refine (new8_any ⟨w.heap.size, 0, none⟩ 32 kf _ HK8.out (by omega)).mono ?_; rintro e w2 ⟨rfl, h2, h3⟩; have H2 := hideit h2; have H3 := hideit h3; clear h2 h3))
    have hsz : (w.alloc (.cells (row 32 (yv kf)).toArray 49)).heap.size = w.heap.size + 1 := by simp
    rw [hsz] at H2 H3
    obtain ⟨K, hK⟩ : ∃ K, K = schedK 8 kf := ⟨_, rfl⟩
    rw [← hK] at H2
    have hk0 : ∀ j, j < 16 → K j = kf j := fun j hj => by rw [hK]; exact sched_low 8 kf j (by omega)
    have hk1 : ∀ j, j < 16 → K (16 + j) = kf (16 + j) := fun j hj => by rw [hK]; exact sched_low 8 kf (16 + j) (by omega)
    clear hK
    have HKy : RowAt w.heap.size 32 (yv kf) w2 := ⟨fun j hj => (H3.out.cell (p := ⟨w.heap.size, j, none⟩) (by show w.heap.size < _; omega)).trans (HKey.out.1 j hj), fun j hj => (H3.out.frozen (p := ⟨w.heap.size, j, none⟩) (by show w.heap.size < _; omega)).trans (HKey.out.2.1 j hj), by have := H2.out.2.2; omega⟩
    have HBl : Below w.heap.size w w2 := Below.trans HB0.out (Below.mono H3.out (by omega))
    replace HKy := hideit HKy
    replace HBl := hideit HBl
    replace hk0 := hideit hk0
    replace hk1 := hideit hk1
    clear H3 HK4 HK8 HKey HB0 hsz
    obtain ⟨k0, hk0e⟩ : ∃ k0, k0 = keyF 14 K 0 := ⟨_, rfl⟩
    obtain ⟨k1, hk1e⟩ : ∃ k1, k1 = keyF 14 K 1 := ⟨_, rfl⟩
    replace hk0e := hideit hk0e
    replace hk1e := hideit hk1e
    have hz := store_Y16
    go_upto_region 7 with (first | (go_at_call 16; refine (alives_any _).mono ?_; rintro e w3 ⟨rfl, h4⟩; have HC3 := hideit (CipherAt.carry H2.out h4); have HKy3 := hideit (RowAt.carry HKy.out h4); have HB3 := hideit (Below.trans HBl.out (Below.mono h4 (Nat.le_of_lt HKy.out.2.2))); clear h4))
    clear H2 HKy HBl
    go_upto_region 8 with (first | (go_at_call_of 21 (Value.int .i64 0); refine (key_any (w.heap.size + 1) 14 K bxT ubT twT 0 (by omega) _ HC3.out).mono ?_; rw [← hk0e.out]; rintro e w4 ⟨rfl, h5⟩; have HC4 := hideit (CipherAt.carry HC3.out h5); have HKy4 := hideit (RowAt.carry HKy3.out h5); have HB4 := hideit (Below.trans HB3.out (Below.mono h5 (Nat.le_of_lt HKy3.out.2.2))); clear h5) | (go_at_call_of 21 (Value.int .i64 1); refine (key_any (w.heap.size + 1) 14 K bxT ubT twT 1 (by omega) _ HC4.out).mono ?_; rw [← hk1e.out]; rintro e w5 ⟨rfl, h6⟩; have HC5 := hideit (CipherAt.carry HC4.out h6); have HKy5 := hideit (RowAt.carry HKy4.out h6); have HB5 := hideit (Below.trans HB4.out (Below.mono h6 (Nat.le_of_lt HKy4.out.2.2))); clear h6; obtain ⟨d, hd⟩ : ∃ d, d = w5.heap.size := ⟨_, rfl⟩; have HN8 : RowAt d 16 (yv fun _ => 0#8) ((w5.alloc (.cells (row 16 (yv fun _ => 0#8)).toArray 32)).alloc (.cells (row 16 (yv fun _ => 0#8)).toArray 32)) := (by rw [hd]; exact (RowAt.new w5 16 (yv fun _ => 0#8) 32).alloc _); have HN9 : RowAt (d + 1) 16 (yv fun _ => 0#8) ((w5.alloc (.cells (row 16 (yv fun _ => 0#8)).toArray 32)).alloc (.cells (row 16 (yv fun _ => 0#8)).toArray 32)) := (by have h7 := RowAt.new (w5.alloc (.cells (row 16 (yv fun _ => 0#8)).toArray 32)) 16 (yv fun _ => 0#8) 32; rw [hd]; simpa using h7); replace HN8 := hideit HN8; replace HN9 := hideit HN9) | (rw [← hd]; refine wpList_store_mid rfl 32 (.tmp 8) (.tmp 29) rfl _ 0 (row 16 (yv k0)).toArray rfl rfl (by rw [row_size]; exact HN8.out.there) (by rw [row_size]; exact info32) (row_one fun _ _ => rfl) ?_) | (refine wpList_store_mid rfl 32 (.tmp 9) (.tmp 31) rfl _ 0 (row 16 (yv k1)).toArray rfl rfl (by rw [row_size]; exact (HN9.out.cellsOther (by omega) _ _).there) (by rw [row_size]; exact info32) (row_one fun _ _ => rfl) ?_))
    have hs5 : w.heap.size + 1 < w5.heap.size := HC5.out.2.2
    have HY : CipherAt (w.heap.size + 1) 14 K bxT ubT twT ((((w5.alloc (.cells (row 16 (yv fun _ => 0#8)).toArray 32)).alloc (.cells (row 16 (yv fun _ => 0#8)).toArray 32)).setCells d 0 (row 16 (yv k0))).setCells (d + 1) 0 (row 16 (yv k1))) := RowAt.cellsOther (RowAt.cellsOther (RowAt.alloc (RowAt.alloc HC5.out _) _) (by omega) _ _) (by omega) _ _
    have HKY : RowAt w.heap.size 32 (yv kf) ((((w5.alloc (.cells (row 16 (yv fun _ => 0#8)).toArray 32)).alloc (.cells (row 16 (yv fun _ => 0#8)).toArray 32)).setCells d 0 (row 16 (yv k0))).setCells (d + 1) 0 (row 16 (yv k1))) := RowAt.cellsOther (RowAt.cellsOther (RowAt.alloc (RowAt.alloc HKy5.out _) _) (by omega) _ _) (by omega) _ _
    have H8 := RowAt.cellsOther (HN8.out.cells (g' := yv k0)) (c := d + 1) (by omega) (row 16 (yv k1)) 0
    have H9 := (HN9.out.cellsOther (c := d) (by omega) (row 16 (yv k0)) 0).cells (g' := yv k1)
    have HBY : Below w.heap.size w ((((w5.alloc (.cells (row 16 (yv fun _ => 0#8)).toArray 32)).alloc (.cells (row 16 (yv fun _ => 0#8)).toArray 32)).setCells d 0 (row 16 (yv k0))).setCells (d + 1) 0 (row 16 (yv k1))) := below_setCells _ (by omega) _ _ _ (below_setCells _ (by omega) _ _ _ ((HB5.out.alloc (by omega) _).alloc (by simp; omega) _))
    generalize (((w5.alloc (.cells (row 16 (yv fun _ => 0#8)).toArray 32)).alloc (.cells (row 16 (yv fun _ => 0#8)).toArray 32)).setCells d 0 (row 16 (yv k0))).setCells (d + 1) 0 (row 16 (yv k1)) = Y at *
    have HC := hideit (RowAt.drew HY : CipherAt (w.heap.size + 1) 14 K bxT ubT twT Y.drew)
    have HKy := hideit HKY.drew
    have HR8 := hideit H8.drew
    have HR9 := hideit H9.drew
    have HBl := hideit HBY.drew
    clear HY HKY H8 H9 HBY HN8 HN9 HC3 HC4 HC5 HKy3 HKy4 HKy5 HB3 HB4 HB5 hd hs5
    have hb0 : bstr 16 k0 = bstr 16 kf := bstr_congr fun j hj => by rw [hk0e.out]; show keyF 14 K 0 j = _; simp only [keyF]; rw [if_pos (by omega)]; simpa using hk0.out j hj
    have hb1 : bstr 16 k1 = bstr 16 (fun j => kf (16 + j)) := bstr_congr fun j hj => by rw [hk1e.out]; simp only [keyF]; rw [if_pos (by omega)]; simpa using hk1.out j hj
    have hq1 := eq32 (keyF 14 K 15) (fun _ => 0#8)
    rw [(same16_iff _ _).2 (fun j hj => by simp only [keyF]; rw [if_neg (by omega)])] at hq1
    have hne := kept_ne Y.drew
    try simp only [Act.put]
    refine wp_region_kept (Ok := Ext Y.drew) (by kernel_rfl) (by kernel_rfl) (Ext.refl _) ?_
    repeat (go_big_quiet_step ((rename_i q; first | exact rfl | (go_at_call 22; exact (rounds_any (w.heap.size + 1) 14 K bxT ubT twT q.w (CipherAt.carry HC.out q.ok)).mono fun e w'' h => ⟨h.1, ⟨⟨w'', by rw [h.2]; exact q.ok⟩, rfl⟩⟩) | (go_at_call 21; exact (key_any (w.heap.size + 1) 14 K bxT ubT twT 15 (by omega) q.w (CipherAt.carry HC.out q.ok)).mono fun e w'' h => ⟨h.1, ⟨⟨w'', Ext.trans q.ok h.2⟩, rfl⟩⟩))))
    go_big_quiet_want
    refine quiet_conv (.tmp 32) _ 0 16 16 (k0) rfl rfl (fun w' hw' => (HR8.out.carry hw').range) ?_
    simp only [Act.put, List.setIfInBounds_toArray, List.set_cons_zero, List.set_cons_succ]
    go_big_quiet_on
    repeat (go_big_quiet_step ((rename_i q; first | exact rfl | (go_at_call 22; exact (rounds_any (w.heap.size + 1) 14 K bxT ubT twT q.w (CipherAt.carry HC.out q.ok)).mono fun e w'' h => ⟨h.1, ⟨⟨w'', by rw [h.2]; exact q.ok⟩, rfl⟩⟩) | (go_at_call 21; exact (key_any (w.heap.size + 1) 14 K bxT ubT twT 15 (by omega) q.w (CipherAt.carry HC.out q.ok)).mono fun e w'' h => ⟨h.1, ⟨⟨w'', Ext.trans q.ok h.2⟩, rfl⟩⟩))))
    go_big_quiet_want
    refine quiet_conv (.tmp 34) _ 0 16 32 (kf) rfl rfl (fun w' hw' => by have h1 := (HKy.out.carry hw').sub 0 16 (by omega); simpa using h1) ?_
    simp only [Act.put, List.setIfInBounds_toArray, List.set_cons_zero, List.set_cons_succ]
    go_big_quiet_on
    repeat (go_big_quiet_step ((rename_i q; first | exact rfl | (go_at_call 22; exact (rounds_any (w.heap.size + 1) 14 K bxT ubT twT q.w (CipherAt.carry HC.out q.ok)).mono fun e w'' h => ⟨h.1, ⟨⟨w'', by rw [h.2]; exact q.ok⟩, rfl⟩⟩) | (go_at_call 21; exact (key_any (w.heap.size + 1) 14 K bxT ubT twT 15 (by omega) q.w (CipherAt.carry HC.out q.ok)).mono fun e w'' h => ⟨h.1, ⟨⟨w'', Ext.trans q.ok h.2⟩, rfl⟩⟩))))
    go_big_quiet_want
    refine quiet_conv (.tmp 41) _ 0 16 16 (k1) rfl rfl (fun w' hw' => (HR9.out.carry hw').range) ?_
    simp only [Act.put, List.setIfInBounds_toArray, List.set_cons_zero, List.set_cons_succ]
    go_big_quiet_on
    repeat (go_big_quiet_step ((rename_i q; first | exact rfl | (go_at_call 22; exact (rounds_any (w.heap.size + 1) 14 K bxT ubT twT q.w (CipherAt.carry HC.out q.ok)).mono fun e w'' h => ⟨h.1, ⟨⟨w'', by rw [h.2]; exact q.ok⟩, rfl⟩⟩) | (go_at_call 21; exact (key_any (w.heap.size + 1) 14 K bxT ubT twT 15 (by omega) q.w (CipherAt.carry HC.out q.ok)).mono fun e w'' h => ⟨h.1, ⟨⟨w'', Ext.trans q.ok h.2⟩, rfl⟩⟩))))
    go_big_quiet_want
    refine quiet_conv (.tmp 43) _ 16 16 16 (fun j => kf (16 + j)) rfl rfl (fun w' hw' => (HKy.out.carry hw').sub 16 16 (by omega)) ?_
    simp only [Act.put, List.setIfInBounds_toArray, List.set_cons_zero, List.set_cons_succ]
    go_big_quiet_on
    repeat (go_big_quiet_step ((rename_i q; first | exact rfl | (go_at_call 22; exact (rounds_any (w.heap.size + 1) 14 K bxT ubT twT q.w (CipherAt.carry HC.out q.ok)).mono fun e w'' h => ⟨h.1, ⟨⟨w'', by rw [h.2]; exact q.ok⟩, rfl⟩⟩) | (go_at_call 21; exact (key_any (w.heap.size + 1) 14 K bxT ubT twT 15 (by omega) q.w (CipherAt.carry HC.out q.ok)).mono fun e w'' h => ⟨h.1, ⟨⟨w'', Ext.trans q.ok h.2⟩, rfl⟩⟩))))
    refine wpQuiet_nil ?_
    intro _ hw'
    obtain ⟨q, hq⟩ := hw'
    subst hq
    go_wp2
    go_ret
    exact ⟨rfl, Below.trans HBl.out (Below.mono q.ok (by have := HBl.out.size; exact this))⟩

set_option maxRecDepth 100000 in
theorem lifted (os : Os) (started : os.Started) (H : Type) (enc : TypeId × Value → H) :
    ReturnsInHanded {} Try.checked os 8 .any (Rows.aesFirstSpec.pre6 enc Try.prog Try.f8 Rows.aesFirstRow.domain false) (Rows.aesFirstSpec.post enc Try.prog Try.f8 false true false false) := by
  refine returnsInHanded_of_change (C := Try.checked) own started (by kernel_rfl) Try.func8
    (ChangeSpec.witness6 (enc := enc) (C := Try.checked) false ⟨#[], #[.agg #[.int .u8 0, .int .u8 0, .int .u8 0, .int .u8 0, .int .u8 0, .int .u8 0, .int .u8 0, .int .u8 0, .int .u8 0, .int .u8 0, .int .u8 0, .int .u8 0, .int .u8 0, .int .u8 0, .int .u8 0, .int .u8 0, .int .u8 0, .int .u8 0, .int .u8 0, .int .u8 0, .int .u8 0, .int .u8 0, .int .u8 0, .int .u8 0, .int .u8 0, .int .u8 0, .int .u8 0, .int .u8 0, .int .u8 0, .int .u8 0, .int .u8 0, .int .u8 0], .bool false], []⟩ 8 (by kernel_rfl) (by kernel_rfl) (by kernel_rfl) (by kernel_rfl)) ?_
  intro W base args ds gs before hval0 hW hcnd _
  have hval : ∀ (j : Nat) t v, Try.f8.params[j]? = some t → args[j]? = some v → Value.okWide Try.prog W .any base t v := hval0
  have hW' := hW
  obtain ⟨p, q, hA0, hV, rfl, hfz, hnd⟩ := hW
  have hA : DataW.TrodAll enc Try.prog W 0 (fun _ => true) true Try.f8.params.toList args.toList ds p := hA0
  rw [Try.params8] at hA hval
  obtain ⟨v0, vs0, d0, ds0, p0, q0, hargs, rfl, rfl, h0, r0⟩ := trodAll_cons hA
  obtain ⟨v1, vs1, d1, ds1, p1, q1, rfl, rfl, rfl, h1, r1⟩ := trodAll_cons r0
  obtain ⟨rfl, rfl, rfl⟩ := trodAll_nil r1
  obtain rfl : args = #[v0, v1] := by cases args; simp_all
  obtain ⟨rfl, rfl⟩ := trodVars_none hV
  have k0 := h0
  have lt0 : ∀ x ∈ p0, x.block < W.heap.size := by obtain ⟨m, hm⟩ := k0; exact DataW.trod_lt m _ _ _ hm
  have k1 := h1
  have lt1 : ∀ x ∈ p1, x.block < W.heap.size := by obtain ⟨m, hm⟩ := k1; exact DataW.trod_lt m _ _ _ hm
  obtain ⟨a0, rfl⟩ := open_arr32 (hval 0 49 v0 rfl rfl) h0
  obtain ⟨a1, rfl, rfl, rfl⟩ := open_bool Try.underlying4 (hval 1 4 v1 rfl rfl) h1
  clear hA0 hval0
  refine (walk a0 a1 W ).mono fun e W' ⟨he, bel⟩ => ?_
  subst he
  exact ⟨_, rfl, _, _, _, [], _, [], hW', trodAll_mk1 (shut_bool Try.underlying4 _), (trodAll_cons_mk (Below.trod laidOut (by kernel_rfl) (of_decide_eq_true (by kernel_rfl)) k0 bel lt0) (trodAll_cons_mk (Below.trod laidOut (by kernel_rfl) (of_decide_eq_true (by kernel_rfl)) k1 bel lt1) trodAll_mk0)), rfl, bel.frame _, fun h => by cases h⟩

theorem over : Rows.aesFirstRow.holds Try.pinned (OpenSpec.ofChange Rows.aesFirstSpec) :=
  OpenClaim.holds_of_wide 8 Try.f8 rfl rfl rfl rfl rfl rfl rfl ⟨rfl, rfl, rfl, rfl, rfl⟩ rfl rfl rfl rfl rfl (by kernel_rfl) Try.func8 (by kernel_rfl)
    (of_decide_eq_true (by kernel_rfl)) (by unfold Func.isWrapper; first | (rw [if_pos (by decide +kernel)]; kernel_rfl) | (rw [if_neg (by decide +kernel)]; exact ⟨rfl, rfl⟩))
    (fun os started H enc _ => lifted os started H enc)
end Go.Proofs.Ytofecnieicnfgab.aesFirst
namespace Go.Proofs.Ytofecnieicnfgab
theorem aesFirst_holds : Rows.AesFirstSaid := aesFirst.over
end Go.Proofs.Ytofecnieicnfgab
