/-
  AesApart answers true for every key of 32 bytes and every two blocks, with no condition: they are alike enciphered, and deciphered, just if they are alike.
-/
import Derived.Test.YtofecnieicnfgabRows
import Derived.ProofKit
import Derived.OpenShut
import Derived.ShutString
import Derived.ChangeOld
import Derived.Below
import Derived.Test.YtofecnieicnfgabALives
import Derived.Deep.CutRange
namespace Go.Proofs.Ytofecnieicnfgab.aesApart
open Go.ChangeShapes Go.WideShapes Go.ChangeAt Go.RowKit
set_option linter.unusedVariables false

theorem own : ownKnob Try.prog.godebug = none := by kernel_rfl
theorem laidOut : laidOutB Try.prog = true := by kernel_rfl
open Go.BigFrame
set_option maxRecDepth 20000 in
set_option maxHeartbeats 4000000 in
theorem walk (kf f g : Nat → BitVec 8) (w : World) :
    Calls Try.prog 7 #[.agg (row 32 (yv kf)).toArray, .agg (row 16 (yv f)).toArray, .agg (row 16 (yv g)).toArray] w fun e w' => e = .returned (.bool true) ∧ Below w.heap.size w w' := by
  have HF : RowAt (w.heap.size + 1) 16 (yv f) (((w.alloc (.cells (row 32 (yv kf)).toArray 49)).alloc (.cells (row 16 (yv f)).toArray 32)).alloc (.cells (row 16 (yv g)).toArray 32)) := by
    have := (RowAt.new (w.alloc (.cells (row 32 (yv kf)).toArray 49)) 16 (yv f) 32).alloc (.cells (row 16 (yv g)).toArray 32)
    simpa using this
  have HG : RowAt (w.heap.size + 1 + 1) 16 (yv g) (((w.alloc (.cells (row 32 (yv kf)).toArray 49)).alloc (.cells (row 16 (yv f)).toArray 32)).alloc (.cells (row 16 (yv g)).toArray 32)) := by
    have := RowAt.new ((w.alloc (.cells (row 32 (yv kf)).toArray 49)).alloc (.cells (row 16 (yv f)).toArray 32)) 16 (yv g) 32
    simpa using this
  have HKey : RowAt w.heap.size 32 (yv kf) (((w.alloc (.cells (row 32 (yv kf)).toArray 49)).alloc (.cells (row 16 (yv f)).toArray 32)).alloc (.cells (row 16 (yv g)).toArray 32)) := ((RowAt.new w 32 (yv kf) 49).alloc _).alloc _
  have HK : KeyAt ⟨w.heap.size, 0, none⟩ 32 kf (((w.alloc (.cells (row 32 (yv kf)).toArray 49)).alloc (.cells (row 16 (yv f)).toArray 32)).alloc (.cells (row 16 (yv g)).toArray 32)) := ⟨fun j hj => by rw [Addr.add_mid, Nat.zero_add]; exact HKey.1 j hj, HKey.2.2⟩
  have HB0 : Below w.heap.size w (((w.alloc (.cells (row 32 (yv kf)).toArray 49)).alloc (.cells (row 16 (yv f)).toArray 32)).alloc (.cells (row 16 (yv g)).toArray 32)) := (((Below.refl _ _).alloc (Nat.le_refl _) _).alloc (by simp) _).alloc (by simp; omega) _
  clear HKey
  replace HF := hideit HF
  replace HG := hideit HG
  replace HK := hideit HK
  replace HB0 := hideit HB0
  go_enter Try.func7, Try.ntmps7
  go_upto_region 2 with (first | (go_at_call 14; refine (new8_any ⟨w.heap.size, 0, none⟩ 32 kf _ HK.out (by omega)).mono ?_; rintro e w2 ⟨rfl, h2, h3⟩; have H2 := hideit h2; have H3 := hideit h3; clear h2 h3))
  have hsz : (((w.alloc (.cells (row 32 (yv kf)).toArray 49)).alloc (.cells (row 16 (yv f)).toArray 32)).alloc (.cells (row 16 (yv g)).toArray 32)).heap.size = w.heap.size + 1 + 1 + 1 := by simp
  rw [hsz] at H2 H3
  generalize schedK 8 kf = K at H2
  have HC : CipherAt (w.heap.size + 1 + 1 + 1) 14 K bxT ubT twT w2.drew := RowAt.drew H2.out
  have HR : RowAt (w.heap.size + 1) 16 (yv f) w2.drew := RowAt.drew ⟨fun j hj => (H3.out.cell (p := ⟨w.heap.size + 1, j, none⟩) (by show w.heap.size + 1 < _; omega)).trans (HF.out.1 j hj), fun j hj => (H3.out.frozen (p := ⟨w.heap.size + 1, j, none⟩) (by show w.heap.size + 1 < _; omega)).trans (HF.out.2.1 j hj), by have := H2.out.2.2; omega⟩
  have HS : RowAt (w.heap.size + 1 + 1) 16 (yv g) w2.drew := RowAt.drew ⟨fun j hj => (H3.out.cell (p := ⟨w.heap.size + 1 + 1, j, none⟩) (by show w.heap.size + 1 + 1 < _; omega)).trans (HG.out.1 j hj), fun j hj => (H3.out.frozen (p := ⟨w.heap.size + 1 + 1, j, none⟩) (by show w.heap.size + 1 + 1 < _; omega)).trans (HG.out.2.1 j hj), by have := H2.out.2.2; omega⟩
  have HBl : Below w.heap.size w w2.drew := (Below.trans HB0.out (Below.mono H3.out (by omega))).drew
  replace HC := hideit HC
  replace HR := hideit HR
  replace HS := hideit HS
  replace HBl := hideit HBl
  clear H2 H3 HK HF HG HB0 hsz
  have hq0 := eq32 f g
  have hq1 := eq32 (encF K bxT twT 14 f) (encF K bxT twT 14 g)
  rw [enc_same K f g 14 (by omega)] at hq1
  have hq2 := eq32 (decF K ubT twT 14 f) (decF K ubT twT 14 g)
  rw [dec_same K f g 14 (by omega)] at hq2
  generalize same16 f g = s at hq0 hq1 hq2
  have hne := kept_ne w2.drew
  cases s
  all_goals
    refine wp_region_kept (Ok := Ext w2.drew) (by kernel_rfl) (by kernel_rfl) (Ext.refl _) ?_
    repeat (go_big_quiet_step ((rename_i q; first | exact rfl | (go_at_call 16; exact (alives_any q.w).mono fun e w'' h => ⟨h.1, ⟨⟨w'', Ext.trans q.ok h.2⟩, rfl⟩⟩) | (go_at_call 17; exact (enc_any (w.heap.size + 1 + 1 + 1) 14 K bxT ubT twT _ (by omega) (by omega) q.w (CipherAt.carry HC.out q.ok)).mono fun e w'' h => ⟨h.1, ⟨⟨w'', Ext.trans q.ok h.2⟩, rfl⟩⟩) | (go_at_call 19; exact (dec_any (w.heap.size + 1 + 1 + 1) 14 K bxT ubT twT _ (by omega) (by omega) q.w (CipherAt.carry HC.out q.ok)).mono fun e w'' h => ⟨h.1, ⟨⟨w'', Ext.trans q.ok h.2⟩, rfl⟩⟩))))
    go_big_quiet_want
    refine load16 (.tmp 4) _ 0 (f) rfl rfl (fun w' hw' => (HR.out.carry hw').range) ?_
    simp only [Act.put, List.setIfInBounds_toArray, List.set_cons_zero, List.set_cons_succ]
    go_big_quiet_on
    repeat (go_big_quiet_step ((rename_i q; first | exact rfl | (go_at_call 16; exact (alives_any q.w).mono fun e w'' h => ⟨h.1, ⟨⟨w'', Ext.trans q.ok h.2⟩, rfl⟩⟩) | (go_at_call 17; exact (enc_any (w.heap.size + 1 + 1 + 1) 14 K bxT ubT twT _ (by omega) (by omega) q.w (CipherAt.carry HC.out q.ok)).mono fun e w'' h => ⟨h.1, ⟨⟨w'', Ext.trans q.ok h.2⟩, rfl⟩⟩) | (go_at_call 19; exact (dec_any (w.heap.size + 1 + 1 + 1) 14 K bxT ubT twT _ (by omega) (by omega) q.w (CipherAt.carry HC.out q.ok)).mono fun e w'' h => ⟨h.1, ⟨⟨w'', Ext.trans q.ok h.2⟩, rfl⟩⟩))))
    go_big_quiet_want
    refine load16 (.tmp 5) _ 0 (g) rfl rfl (fun w' hw' => (HS.out.carry hw').range) ?_
    simp only [Act.put, List.setIfInBounds_toArray, List.set_cons_zero, List.set_cons_succ]
    go_big_quiet_on
    repeat (go_big_quiet_step ((rename_i q; first | exact rfl | (go_at_call 16; exact (alives_any q.w).mono fun e w'' h => ⟨h.1, ⟨⟨w'', Ext.trans q.ok h.2⟩, rfl⟩⟩) | (go_at_call 17; exact (enc_any (w.heap.size + 1 + 1 + 1) 14 K bxT ubT twT _ (by omega) (by omega) q.w (CipherAt.carry HC.out q.ok)).mono fun e w'' h => ⟨h.1, ⟨⟨w'', Ext.trans q.ok h.2⟩, rfl⟩⟩) | (go_at_call 19; exact (dec_any (w.heap.size + 1 + 1 + 1) 14 K bxT ubT twT _ (by omega) (by omega) q.w (CipherAt.carry HC.out q.ok)).mono fun e w'' h => ⟨h.1, ⟨⟨w'', Ext.trans q.ok h.2⟩, rfl⟩⟩))))
    go_big_quiet_want
    refine load16 (.tmp 4) _ 0 (f) rfl rfl (fun w' hw' => (HR.out.carry hw').range) ?_
    simp only [Act.put, List.setIfInBounds_toArray, List.set_cons_zero, List.set_cons_succ]
    go_big_quiet_on
    repeat (go_big_quiet_step ((rename_i q; first | exact rfl | (go_at_call 16; exact (alives_any q.w).mono fun e w'' h => ⟨h.1, ⟨⟨w'', Ext.trans q.ok h.2⟩, rfl⟩⟩) | (go_at_call 17; exact (enc_any (w.heap.size + 1 + 1 + 1) 14 K bxT ubT twT _ (by omega) (by omega) q.w (CipherAt.carry HC.out q.ok)).mono fun e w'' h => ⟨h.1, ⟨⟨w'', Ext.trans q.ok h.2⟩, rfl⟩⟩) | (go_at_call 19; exact (dec_any (w.heap.size + 1 + 1 + 1) 14 K bxT ubT twT _ (by omega) (by omega) q.w (CipherAt.carry HC.out q.ok)).mono fun e w'' h => ⟨h.1, ⟨⟨w'', Ext.trans q.ok h.2⟩, rfl⟩⟩))))
    go_big_quiet_want
    refine load16 (.tmp 5) _ 0 (g) rfl rfl (fun w' hw' => (HS.out.carry hw').range) ?_
    simp only [Act.put, List.setIfInBounds_toArray, List.set_cons_zero, List.set_cons_succ]
    go_big_quiet_on
    repeat (go_big_quiet_step ((rename_i q; first | exact rfl | (go_at_call 16; exact (alives_any q.w).mono fun e w'' h => ⟨h.1, ⟨⟨w'', Ext.trans q.ok h.2⟩, rfl⟩⟩) | (go_at_call 17; exact (enc_any (w.heap.size + 1 + 1 + 1) 14 K bxT ubT twT _ (by omega) (by omega) q.w (CipherAt.carry HC.out q.ok)).mono fun e w'' h => ⟨h.1, ⟨⟨w'', Ext.trans q.ok h.2⟩, rfl⟩⟩) | (go_at_call 19; exact (dec_any (w.heap.size + 1 + 1 + 1) 14 K bxT ubT twT _ (by omega) (by omega) q.w (CipherAt.carry HC.out q.ok)).mono fun e w'' h => ⟨h.1, ⟨⟨w'', Ext.trans q.ok h.2⟩, rfl⟩⟩))))
    go_big_quiet_want
    refine load16 (.tmp 4) _ 0 (f) rfl rfl (fun w' hw' => (HR.out.carry hw').range) ?_
    simp only [Act.put, List.setIfInBounds_toArray, List.set_cons_zero, List.set_cons_succ]
    go_big_quiet_on
    repeat (go_big_quiet_step ((rename_i q; first | exact rfl | (go_at_call 16; exact (alives_any q.w).mono fun e w'' h => ⟨h.1, ⟨⟨w'', Ext.trans q.ok h.2⟩, rfl⟩⟩) | (go_at_call 17; exact (enc_any (w.heap.size + 1 + 1 + 1) 14 K bxT ubT twT _ (by omega) (by omega) q.w (CipherAt.carry HC.out q.ok)).mono fun e w'' h => ⟨h.1, ⟨⟨w'', Ext.trans q.ok h.2⟩, rfl⟩⟩) | (go_at_call 19; exact (dec_any (w.heap.size + 1 + 1 + 1) 14 K bxT ubT twT _ (by omega) (by omega) q.w (CipherAt.carry HC.out q.ok)).mono fun e w'' h => ⟨h.1, ⟨⟨w'', Ext.trans q.ok h.2⟩, rfl⟩⟩))))
    go_big_quiet_want
    refine load16 (.tmp 5) _ 0 (g) rfl rfl (fun w' hw' => (HS.out.carry hw').range) ?_
    simp only [Act.put, List.setIfInBounds_toArray, List.set_cons_zero, List.set_cons_succ]
    go_big_quiet_on
    repeat (go_big_quiet_step ((rename_i q; first | exact rfl | (go_at_call 16; exact (alives_any q.w).mono fun e w'' h => ⟨h.1, ⟨⟨w'', Ext.trans q.ok h.2⟩, rfl⟩⟩) | (go_at_call 17; exact (enc_any (w.heap.size + 1 + 1 + 1) 14 K bxT ubT twT _ (by omega) (by omega) q.w (CipherAt.carry HC.out q.ok)).mono fun e w'' h => ⟨h.1, ⟨⟨w'', Ext.trans q.ok h.2⟩, rfl⟩⟩) | (go_at_call 19; exact (dec_any (w.heap.size + 1 + 1 + 1) 14 K bxT ubT twT _ (by omega) (by omega) q.w (CipherAt.carry HC.out q.ok)).mono fun e w'' h => ⟨h.1, ⟨⟨w'', Ext.trans q.ok h.2⟩, rfl⟩⟩))))
    go_big_quiet_want
    refine load16 (.tmp 4) _ 0 (f) rfl rfl (fun w' hw' => (HR.out.carry hw').range) ?_
    simp only [Act.put, List.setIfInBounds_toArray, List.set_cons_zero, List.set_cons_succ]
    go_big_quiet_on
    repeat (go_big_quiet_step ((rename_i q; first | exact rfl | (go_at_call 16; exact (alives_any q.w).mono fun e w'' h => ⟨h.1, ⟨⟨w'', Ext.trans q.ok h.2⟩, rfl⟩⟩) | (go_at_call 17; exact (enc_any (w.heap.size + 1 + 1 + 1) 14 K bxT ubT twT _ (by omega) (by omega) q.w (CipherAt.carry HC.out q.ok)).mono fun e w'' h => ⟨h.1, ⟨⟨w'', Ext.trans q.ok h.2⟩, rfl⟩⟩) | (go_at_call 19; exact (dec_any (w.heap.size + 1 + 1 + 1) 14 K bxT ubT twT _ (by omega) (by omega) q.w (CipherAt.carry HC.out q.ok)).mono fun e w'' h => ⟨h.1, ⟨⟨w'', Ext.trans q.ok h.2⟩, rfl⟩⟩))))
    go_big_quiet_want
    refine load16 (.tmp 5) _ 0 (g) rfl rfl (fun w' hw' => (HS.out.carry hw').range) ?_
    simp only [Act.put, List.setIfInBounds_toArray, List.set_cons_zero, List.set_cons_succ]
    go_big_quiet_on
    repeat (go_big_quiet_step ((rename_i q; first | exact rfl | (go_at_call 16; exact (alives_any q.w).mono fun e w'' h => ⟨h.1, ⟨⟨w'', Ext.trans q.ok h.2⟩, rfl⟩⟩) | (go_at_call 17; exact (enc_any (w.heap.size + 1 + 1 + 1) 14 K bxT ubT twT _ (by omega) (by omega) q.w (CipherAt.carry HC.out q.ok)).mono fun e w'' h => ⟨h.1, ⟨⟨w'', Ext.trans q.ok h.2⟩, rfl⟩⟩) | (go_at_call 19; exact (dec_any (w.heap.size + 1 + 1 + 1) 14 K bxT ubT twT _ (by omega) (by omega) q.w (CipherAt.carry HC.out q.ok)).mono fun e w'' h => ⟨h.1, ⟨⟨w'', Ext.trans q.ok h.2⟩, rfl⟩⟩))))
    refine wpQuiet_nil ?_
    intro _ hw'
    obtain ⟨q, hq⟩ := hw'
    subst hq
    go_wp2
    go_ret
    exact ⟨rfl, Below.trans HBl.out (Below.mono q.ok (by have := HBl.out.size; exact this))⟩

set_option maxRecDepth 100000 in
theorem lifted (os : Os) (started : os.Started) (H : Type) (enc : TypeId × Value → H) :
    ReturnsInHanded {} Try.checked os 7 .any (Rows.aesApartSpec.pre6 enc Try.prog Try.f7 Rows.aesApartRow.domain false) (Rows.aesApartSpec.post enc Try.prog Try.f7 false true false false) := by
  refine returnsInHanded_of_change (C := Try.checked) own started (by kernel_rfl) Try.func7
    (ChangeSpec.witness6 (enc := enc) (C := Try.checked) false ⟨#[], #[.agg #[.int .u8 0, .int .u8 0, .int .u8 0, .int .u8 0, .int .u8 0, .int .u8 0, .int .u8 0, .int .u8 0, .int .u8 0, .int .u8 0, .int .u8 0, .int .u8 0, .int .u8 0, .int .u8 0, .int .u8 0, .int .u8 0, .int .u8 0, .int .u8 0, .int .u8 0, .int .u8 0, .int .u8 0, .int .u8 0, .int .u8 0, .int .u8 0, .int .u8 0, .int .u8 0, .int .u8 0, .int .u8 0, .int .u8 0, .int .u8 0, .int .u8 0, .int .u8 0], .agg #[.int .u8 0, .int .u8 0, .int .u8 0, .int .u8 0, .int .u8 0, .int .u8 0, .int .u8 0, .int .u8 0, .int .u8 0, .int .u8 0, .int .u8 0, .int .u8 0, .int .u8 0, .int .u8 0, .int .u8 0, .int .u8 0], .agg #[.int .u8 0, .int .u8 0, .int .u8 0, .int .u8 0, .int .u8 0, .int .u8 0, .int .u8 0, .int .u8 0, .int .u8 0, .int .u8 0, .int .u8 0, .int .u8 0, .int .u8 0, .int .u8 0, .int .u8 0, .int .u8 0]], []⟩ 8 (by kernel_rfl) (by kernel_rfl) (by kernel_rfl) (by kernel_rfl)) ?_
  intro W base args ds gs before hval0 hW hcnd _
  have hval : ∀ (j : Nat) t v, Try.f7.params[j]? = some t → args[j]? = some v → Value.okWide Try.prog W .any base t v := hval0
  have hW' := hW
  obtain ⟨p, q, hA0, hV, rfl, hfz, hnd⟩ := hW
  have hA : DataW.TrodAll enc Try.prog W 0 (fun _ => true) true Try.f7.params.toList args.toList ds p := hA0
  rw [Try.params7] at hA hval
  obtain ⟨v0, vs0, d0, ds0, p0, q0, hargs, rfl, rfl, h0, r0⟩ := trodAll_cons hA
  obtain ⟨v1, vs1, d1, ds1, p1, q1, rfl, rfl, rfl, h1, r1⟩ := trodAll_cons r0
  obtain ⟨v2, vs2, d2, ds2, p2, q2, rfl, rfl, rfl, h2, r2⟩ := trodAll_cons r1
  obtain ⟨rfl, rfl, rfl⟩ := trodAll_nil r2
  obtain rfl : args = #[v0, v1, v2] := by cases args; simp_all
  obtain ⟨rfl, rfl⟩ := trodVars_none hV
  have k0 := h0
  have lt0 : ∀ x ∈ p0, x.block < W.heap.size := by obtain ⟨m, hm⟩ := k0; exact DataW.trod_lt m _ _ _ hm
  have k1 := h1
  have lt1 : ∀ x ∈ p1, x.block < W.heap.size := by obtain ⟨m, hm⟩ := k1; exact DataW.trod_lt m _ _ _ hm
  have k2 := h2
  have lt2 : ∀ x ∈ p2, x.block < W.heap.size := by obtain ⟨m, hm⟩ := k2; exact DataW.trod_lt m _ _ _ hm
  obtain ⟨a0, rfl⟩ := open_arr32 (hval 0 49 v0 rfl rfl) h0
  obtain ⟨a1, rfl⟩ := open_arr16 (hval 1 32 v1 rfl rfl) h1
  obtain ⟨a2, rfl⟩ := open_arr16 (hval 2 32 v2 rfl rfl) h2
  clear hA0 hval0
  refine (walk a0 a1 a2 W ).mono fun e W' ⟨he, bel⟩ => ?_
  subst he
  exact ⟨_, rfl, _, _, _, [], _, [], hW', trodAll_mk1 (shut_bool Try.underlying4 _), (trodAll_cons_mk (Below.trod laidOut (by kernel_rfl) (of_decide_eq_true (by kernel_rfl)) k0 bel lt0) (trodAll_cons_mk (Below.trod laidOut (by kernel_rfl) (of_decide_eq_true (by kernel_rfl)) k1 bel lt1) (trodAll_cons_mk (Below.trod laidOut (by kernel_rfl) (of_decide_eq_true (by kernel_rfl)) k2 bel lt2) trodAll_mk0))), rfl, bel.frame _, fun h => by cases h⟩

theorem over : Rows.aesApartRow.holds Try.pinned (OpenSpec.ofChange Rows.aesApartSpec) :=
  OpenClaim.holds_of_wide 7 Try.f7 rfl rfl rfl rfl rfl rfl rfl ⟨rfl, rfl, rfl, rfl, rfl⟩ rfl rfl rfl rfl rfl (by kernel_rfl) Try.func7 (by kernel_rfl)
    (of_decide_eq_true (by kernel_rfl)) (by unfold Func.isWrapper; first | (rw [if_pos (by decide +kernel)]; kernel_rfl) | (rw [if_neg (by decide +kernel)]; exact ⟨rfl, rfl⟩))
    (fun os started H enc _ => lifted os started H enc)
end Go.Proofs.Ytofecnieicnfgab.aesApart
namespace Go.Proofs.Ytofecnieicnfgab
theorem aesApart_holds : Rows.AesApartSaid := aesApart.over
end Go.Proofs.Ytofecnieicnfgab
